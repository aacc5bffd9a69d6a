package session_test

import (
	"math"
	"strings"
	"testing"

	"millpond/api"
	"millpond/session"
)

// used is the node 1's end behind two of the other one's, with three of its own sent, of which one is known to be got and two were told.
func used(t *testing.T) *session.Session {
	t.Helper()
	_, b := ends(t)
	send(t, b, "p", "q")
	b.Fresh()
	comes(t, b, datagram(1, 0, "x"))
	comes(t, b, datagram(2, 1, "y"))
	tells(t, "Fresh of what is owed", b.Fresh(), back(0, 2, ""))
	send(t, b, "r")
	stands(t, b, 2, 2, false)
	return b
}

// P8.3: one that is from another node, to another node, or of another view is nothing, whatever else it says.
func TestComeOfOthers(t *testing.T) {
	var others []api.Datagram
	for from := -1; from <= api.MaxNodes; from++ {
		for to := -1; to <= api.MaxNodes; to++ {
			if from != 0 || to != 1 {
				others = append(others, api.Datagram{From: from, To: to, View: 5})
			}
		}
	}
	for _, far := range []int{math.MaxInt, math.MinInt, 1 << 32, 1<<32 + 1, 1<<8 + 1} {
		others = append(others, api.Datagram{From: far, To: 1, View: 5}, api.Datagram{From: 0, To: far, View: 5})
	}
	for _, view := range []int64{0, 4, 6, -1, -5, 5 + 1<<32, 5 + 1<<8, api.MaxNumber, math.MaxInt64, math.MinInt64} {
		others = append(others, api.Datagram{From: 0, To: 1, View: view})
	}
	b := used(t)
	for _, d := range others {
		for _, seq := range []int64{0, 1, 2, 3, 4} {
			d.Seq, d.Ack = seq, 3
			nothing(t, b, d)
		}
		d.Seq, d.Body = 3, []byte("z")
		nothing(t, b, d)
	}
	comes(t, b, datagram(3, 3, "z"))
	stands(t, b, 0, 3, true)
}

// P8.3: numbers at their bounds and just beyond.
func TestComeOfNumbers(t *testing.T) {
	b := used(t)
	for _, none := range []int64{-1, -2, math.MinInt64, api.MaxNumber + 1, math.MaxInt64} {
		nothing(t, b, datagram(none, 3, "z"))
		nothing(t, b, datagram(none, 3, ""))
		nothing(t, b, datagram(3, none, "z"))
		nothing(t, b, datagram(0, none, ""))
		nothing(t, b, datagram(none, none, ""))
	}
	for _, unsent := range []int64{4, 5, 1 << 32, 1<<32 + 1, api.MaxNumber - 1, api.MaxNumber} {
		nothing(t, b, datagram(3, unsent, "z"))
		nothing(t, b, datagram(2, unsent, "y"))
		nothing(t, b, datagram(0, unsent, ""))
	}
	for _, early := range []int64{4, 5, 3 + 1<<32, api.MaxNumber - 1, api.MaxNumber} {
		c := b.Copy()
		stays(t, c, datagram(early, 2, "z"))
		stands(t, c, 1, 2, true) // it is too early, but it is one: what it says is known, and an answer is owed
		tells(t, "Again", c.Again(), back(3, 2, "r"))
	}
	stands(t, b, 2, 2, false)

	_, b = ends(t)
	nothing(t, b, datagram(1, 1, "x")) // nothing was sent
	comes(t, b, datagram(1, 0, "x"))
}

// P8.3: one that carries nothing is told apart from one with an empty body, and from one with a body that it may not have.
func TestComeOfNothing(t *testing.T) {
	b := used(t)
	for _, ack := range []int64{0, 1, 2, 3} {
		nothing(t, b, datagram(0, ack, "z"))
		nothing(t, b, datagram(0, ack, "\x00"))
		nothing(t, b, datagram(0, ack, strings.Repeat("z", api.MaxMessage+1)))
	}
	for _, body := range [][]byte{nil, {}} {
		c := b.Copy()
		d := datagram(0, 2, "")
		d.Body = body
		stays(t, c, d)
		stands(t, c, 1, 2, false)
		d.Seq = 3
		comes(t, c, d)
		stands(t, c, 1, 3, true)
		d.Seq, d.Ack = 0, 3
		stays(t, c, d)
		stands(t, c, 0, 3, true) // what is owed stays so
	}
}

// P8.3: bodies of 0 to MaxMessage bytes are handed on, of one more none.
func TestComeOfEachLength(t *testing.T) {
	b := used(t)
	seq := int64(3)
	for _, many := range []int{0, 1, 2, api.BodySize, api.MaxMessage - 1, api.MaxMessage} {
		comes(t, b, datagram(seq, 1, strings.Repeat("z", many)))
		stands(t, b, 2, seq, true)
		seq++
	}
	b.Fresh()
	for _, many := range []int{api.MaxMessage + 1, api.MaxMessage + 2, api.MaxLetter, api.MaxText} {
		for at := range seq + 2 {
			nothing(t, b, datagram(at, 3, strings.Repeat("z", many)))
		}
	}
	comes(t, b, datagram(seq, 3, "z"))
}

// P8.3: in whatever order they come, each is handed on once, in its turn; one that comes out of it is owed an answer.
func TestComeInAnyOrder(t *testing.T) {
	for first := range 3 {
		for second := range 3 {
			for third := range 3 {
				_, b := ends(t)
				all := []api.Datagram{datagram(1, 0, "x"), datagram(2, 0, ""), datagram(3, 0, "z")}
				got := 0
				for _, place := range []int{first, second, third, 0, 1, 2} {
					b.Fresh()
					if place == got {
						comes(t, b, all[place])
						got++
					} else {
						stays(t, b, all[place])
					}
					stands(t, b, 0, int64(got), true)
				}
				if got != 3 {
					t.Errorf("%d came", got)
				}
				tells(t, "Fresh", b.Fresh(), back(0, 3, ""))
			}
		}
	}
}

// P8.3: what was sent up to Ack is forgotten, whichever way the datagram goes that says it; a lower one forgets nothing, and brings nothing back.
func TestForgotten(t *testing.T) {
	for way, got := range []int64{2, 2, 2, 3, 2} { // it carries nothing, came already, just came, comes in its turn, comes too early
		for first := range int64(5) {
			for second := range int64(5) {
				_, b := ends(t)
				comes(t, b, datagram(1, 0, "x"))
				comes(t, b, datagram(2, 0, "y"))
				send(t, b, "p", "q", "r", "s")
				all := b.Fresh()
				b.Come(datagram(int64(way), first, ""))
				left := all[first:]
				stands(t, b, len(left), got, way > 0)
				b.Come(datagram(0, second, ""))
				left = all[max(first, second):]
				stands(t, b, len(left), got, way > 0)
				for i := range left {
					left[i].Ack = got
				}
				if len(left) == 0 && way > 0 {
					left = []api.Datagram{back(0, got, "")}
				}
				tells(t, "Again", b.Again(), left...)
			}
		}
	}
}

// P8.5: one that comes twice changes nothing the second time, but that an answer is owed.
func TestComeTwice(t *testing.T) {
	for seq := range int64(6) {
		for ack := range int64(4) {
			b := used(t)
			d := datagram(seq, ack, "")
			if seq > 0 {
				d.Body = []byte("z")
			}
			b.Come(d)
			was := b.Copy()
			stays(t, b, d)
			unchanged(t, "one that came already", b, was)
			b.Fresh()
			was.Fresh()
			stays(t, b, d)
			if b.Owes() != (seq > 0) {
				t.Errorf("Seq %d: Owes %v", seq, b.Owes())
			}
			b.Fresh()
			unchanged(t, "one that came already, and was answered", b, was)
		}
	}
}
