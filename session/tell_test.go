package session_test

import (
	"testing"

	"millpond/api"
	"millpond/session"
)

// P8.2: Fresh tells what was sent since the last Fresh or Again, Again all that waits, behind one another.
func TestFreshAndAgainBehindOneAnother(t *testing.T) {
	a, _ := ends(t)
	x, y, z := datagram(1, 0, "x"), datagram(2, 0, ""), datagram(3, 0, "z")
	tells(t, "Fresh of nothing", a.Fresh())
	tells(t, "Again of nothing", a.Again())
	send(t, a, "x")
	tells(t, "Fresh", a.Fresh(), x)
	tells(t, "Fresh behind it", a.Fresh())
	tells(t, "Again behind it", a.Again(), x)
	tells(t, "Again once more", a.Again(), x)
	tells(t, "Fresh behind Again", a.Fresh())
	send(t, a, "")
	tells(t, "Again of one that is new", a.Again(), x, y)
	tells(t, "Fresh of what Again told", a.Fresh())
	send(t, a, "z")
	tells(t, "Fresh of the last one", a.Fresh(), z)
	tells(t, "Again of all", a.Again(), x, y, z)
	stands(t, a, 3, 0, false)
}

// P8.2: where nothing is to be told, what is owed is, once, by whichever is asked first.
func TestOwedAlone(t *testing.T) {
	for _, first := range []func(*session.Session) []api.Datagram{(*session.Session).Fresh, (*session.Session).Again} {
		for _, second := range []func(*session.Session) []api.Datagram{(*session.Session).Fresh, (*session.Session).Again} {
			_, b := ends(t)
			comes(t, b, datagram(1, 0, "x"))
			stands(t, b, 0, 1, true)
			tells(t, "what is owed", first(b), back(0, 1, ""))
			stands(t, b, 0, 1, false)
			tells(t, "what is owed no more", second(b))
			stays(t, b, datagram(1, 0, "x"))
			stands(t, b, 0, 1, true)
			tells(t, "what is owed once more", second(b), back(0, 1, ""))
			tells(t, "what is owed no more", first(b))
			stands(t, b, 0, 1, false)
		}
	}
}

// P8.2: what is told anyway answers too: it has Ack as it stands, and nothing is owed behind it.
func TestOwedBesideWhatIsTold(t *testing.T) {
	_, b := ends(t)
	send(t, b, "p", "q")
	comes(t, b, datagram(1, 0, "x"))
	tells(t, "Fresh", b.Fresh(), back(1, 1, "p"), back(2, 1, "q"))
	stands(t, b, 2, 1, false)
	tells(t, "Fresh", b.Fresh())

	comes(t, b, datagram(2, 0, "y"))
	stays(t, b, datagram(2, 0, "y"))
	tells(t, "Fresh of what was told, with an answer owed", b.Copy().Fresh(), back(0, 2, ""))
	tells(t, "Again of what waits, with an answer owed", b.Again(), back(1, 2, "p"), back(2, 2, "q"))
	stands(t, b, 2, 2, false)
	tells(t, "Again with none owed", b.Again(), back(1, 2, "p"), back(2, 2, "q"))
}

// P8.2: Ack is what it got by then, also where no answer is owed, and also of what was told with another one.
func TestAckAsItStands(t *testing.T) {
	_, b := ends(t)
	send(t, b, "p")
	tells(t, "Fresh", b.Fresh(), back(1, 0, "p"))
	for seq := int64(1); seq <= 5; seq++ {
		comes(t, b, datagram(seq, 0, "x"))
		stays(t, b, datagram(seq+2, 0, "z")) // what comes too early does not count as got
		tells(t, "Again", b.Again(), back(1, seq, "p"))
		stands(t, b, 1, seq, false)
		tells(t, "Again with none owed", b.Again(), back(1, seq, "p"))
	}
	send(t, b, "q")
	tells(t, "Fresh with none owed", b.Fresh(), back(2, 5, "q"))
	stands(t, b, 2, 5, false)
}

// P8.2: what is known to be got is told no more, what is behind it is told again in order, by the numbers that it had; new ones go on behind it.
func TestToldAgainBehindWhatIsKnown(t *testing.T) {
	bodies := []string{"p", "", "r", "s", "t"}
	for known := range len(bodies) + 1 {
		a, _ := ends(t)
		send(t, a, bodies...)
		var want []api.Datagram
		for i, body := range bodies {
			want = append(want, datagram(int64(i)+1, 0, body))
		}
		tells(t, "Fresh", a.Fresh(), want...)
		stays(t, a, back(0, int64(known), ""))
		stands(t, a, len(bodies)-known, 0, false)
		tells(t, "Fresh of what was told", a.Copy().Fresh())
		tells(t, "Again", a.Again(), want[known:]...)

		send(t, a, "u", "v")
		fresh := []api.Datagram{datagram(6, 0, "u"), datagram(7, 0, "v")}
		tells(t, "Fresh of new ones", a.Fresh(), fresh...)
		tells(t, "Again of all", a.Again(), append(want[known:], fresh...)...)
		stands(t, a, len(bodies)-known+2, 0, false)
	}
}

// P8.2: what is known to be got, though it was never told, is forgotten, and not told; what is behind it is fresh.
func TestKnownAheadOfTold(t *testing.T) {
	for told := range 4 {
		for known := range 5 {
			a, _ := ends(t)
			var all []api.Datagram
			for i, body := range []string{"p", "q", "r", "s"} {
				if i == told {
					a.Fresh()
				}
				send(t, a, body)
				all = append(all, datagram(int64(i)+1, 1, body))
			}
			comes(t, a, back(1, int64(known), "x"))
			fresh := all[max(told, known):]
			if len(fresh) == 0 {
				fresh = []api.Datagram{datagram(0, 1, "")}
			}
			tells(t, "Fresh", a.Copy().Fresh(), fresh...)
			again := all[known:]
			if len(again) == 0 {
				again = fresh
			}
			tells(t, "Again", a.Copy().Again(), again...)
			a.Fresh()
			send(t, a, "t")
			tells(t, "Fresh behind it", a.Fresh(), datagram(5, 1, "t"))
			stands(t, a, 5-known, 1, false)
		}
	}
}
