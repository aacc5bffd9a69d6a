package net_test

import (
	"bytes"
	"math"
	"slices"
	"testing"

	"millpond/api"
	"millpond/net"
)

// made is a net of that many nodes.
func made(t *testing.T, nodes int) *net.Net {
	t.Helper()
	n, e := net.New(nodes)
	if n == nil || e != api.OK {
		t.Fatalf("New(%d): %v, %v", nodes, n, e)
	}
	return n
}

// letter is one with a text as its bytes.
func letter(number int64, from, to int, body string) api.Letter {
	return api.Letter{Number: number, From: from, To: to, Body: []byte(body)}
}

// send fails unless the letter is sent, by that number.
func send(t *testing.T, n *net.Net, from, to int, body string, want int64) {
	t.Helper()
	if number, e := n.Send(from, to, []byte(body)); number != want || e != api.OK {
		t.Fatalf("Send(%d, %d, %q): %d, %v; not %d", from, to, body, number, e, want)
	}
}

// unsent fails unless the letter is refused for that reason, and nothing changes.
func unsent(t *testing.T, n *net.Net, from, to int, body []byte, want api.Errno) {
	t.Helper()
	was := n.Copy()
	if number, e := n.Send(from, to, body); number != 0 || e != want {
		t.Errorf("Send(%d, %d, %d bytes): %d, %v; not %v", from, to, len(body), number, e, want)
	}
	unchanged(t, "a Send that is refused", n, was)
}

// unchanged fails unless a net is as it was.
func unchanged(t *testing.T, what string, n, was *net.Net) {
	t.Helper()
	if !net.Same(n, was) || !slices.EqualFunc(told(n), told(was), alike) || n.Last() != was.Last() {
		t.Errorf("%s has changed the net: %v, %d; it was %v, %d", what, told(n), n.Last(), told(was), was.Last())
	}
}

// alike tells whether two letters are the same in all.
func alike(a, b api.Letter) bool {
	return a.Number == b.Number && a.From == b.From && a.To == b.To && bytes.Equal(a.Body, b.Body)
}

// told is what All goes over.
func told(n *net.Net) []api.Letter { return slices.Collect(n.All()) }

// stands fails unless just these are on their way, by whatever look, and that is the last number.
func stands(t *testing.T, n *net.Net, last int64, want ...api.Letter) {
	t.Helper()
	if n.Len() != len(want) || n.Last() != last {
		t.Fatalf("Len %d, Last %d; not %d, %d", n.Len(), n.Last(), len(want), last)
	}
	if all := told(n); !slices.EqualFunc(all, want, alike) {
		t.Fatalf("All goes over %v, not %v", all, want)
	}
	to := map[int][]int64{}
	for place, w := range want {
		if l, ok := n.At(place); !alike(l, w) || !ok {
			t.Errorf("At(%d): %v, %v; not %v", place, l, ok, w)
		}
		if l, ok := n.Look(w.Number); !alike(l, w) || !ok {
			t.Errorf("Look(%d): %v, %v; not %v", w.Number, l, ok, w)
		}
		to[w.To] = append(to[w.To], w.Number)
	}
	for _, place := range []int{-1, len(want), len(want) + 1, math.MinInt, math.MaxInt} {
		if l, ok := n.At(place); !alike(l, api.Letter{}) || ok {
			t.Errorf("At(%d): %v, %v; not nothing", place, l, ok)
		}
	}
	for node := -1; node <= api.MaxNodes; node++ {
		if got := n.To(node); !slices.Equal(got, to[node]) {
			t.Errorf("To(%d): %v, not %v", node, got, to[node])
		}
	}
}

// full is a net of two nodes that has as many letters as may be.
func full(t *testing.T) *net.Net {
	t.Helper()
	n := made(t, 2)
	for i := range int64(api.MaxLetters) {
		if number, e := n.Send(0, 1, []byte{byte(i)}); number != i+1 || e != api.OK {
			t.Fatalf("the letter %d: %d, %v", i+1, number, e)
		}
	}
	return n
}

// P7.1: New of its bounds and just beyond; of any number in between none is on its way.
func TestNew(t *testing.T) {
	for nodes := 1; nodes <= api.MaxNodes; nodes++ {
		stands(t, made(t, nodes), 0)
	}
	for _, nodes := range []int{0, -1, api.MaxNodes + 1, api.MaxNodes + 2, math.MaxInt, math.MinInt, 1 << 32, 1<<32 + 1} {
		if n, e := net.New(nodes); n != nil || e != api.ErrArg {
			t.Errorf("New(%d): %v, %v", nodes, n, e)
		}
	}
}

// P7.1 to P7.3: the chapter's examples.
func TestExamples(t *testing.T) {
	for _, nodes := range []int{0, 9} {
		if n, e := net.New(nodes); n != nil || e != api.ErrArg {
			t.Errorf("New(%d): %v, %v", nodes, n, e)
		}
	}
	n := made(t, 3)
	unsent(t, n, 0, 0, []byte("x"), api.ErrArg)
	unsent(t, n, 0, 3, []byte("x"), api.ErrArg)
	unsent(t, n, 0, 1, make([]byte, 513), api.ErrLong)

	send(t, n, 0, 1, "x", 1)
	send(t, n, 2, 1, "y", 2)
	doubled(t, n, 1, 3)
	if to := n.To(1); !slices.Equal(to, []int64{1, 2, 3}) {
		t.Errorf("To(1): %v", to)
	}

	deliver(t, n, letter(2, 2, 1, "y"))
	nowhere(t, n, 2)
	if l, ok := n.At(1); !alike(l, letter(3, 0, 1, "x")) || !ok {
		t.Errorf("At(1): %v, %v", l, ok)
	}
	if e := n.Drop(9); e != api.ErrNone {
		t.Errorf("Drop(9): %v", e)
	}

	if many := n.Clear(); many != 2 {
		t.Errorf("Clear: %d", many)
	}
	stands(t, n, 3)
	send(t, n, 1, 0, "z", 4)
	stands(t, n, 4, letter(4, 1, 0, "z"))
}

// P7.1: each node of a net writes to each other one, and nobody to himself, or to or from one that is none.
func TestSendBetweenNodes(t *testing.T) {
	for nodes := 1; nodes <= api.MaxNodes; nodes++ {
		n := made(t, nodes)
		var all []api.Letter
		for from := -2; from <= api.MaxNodes+1; from++ {
			for to := -2; to <= api.MaxNodes+1; to++ {
				if from < 0 || to < 0 || from >= nodes || to >= nodes || from == to {
					unsent(t, n, from, to, []byte("no"), api.ErrArg)
					continue
				}
				l := letter(int64(len(all))+1, from, to, string(rune('a'+from))+string(rune('a'+to)))
				send(t, n, from, to, string(l.Body), l.Number)
				all = append(all, l)
			}
		}
		stands(t, n, int64(len(all)), all...)
		if len(all) != nodes*(nodes-1) {
			t.Errorf("%d letters between %d nodes", len(all), nodes)
		}
		for _, far := range []int{math.MaxInt, math.MinInt, 1 << 32, 1<<32 + 1, 1 << 8} {
			unsent(t, n, far, 0, nil, api.ErrArg)
			unsent(t, n, 0, far, nil, api.ErrArg)
			unsent(t, n, far, far, nil, api.ErrArg)
		}
	}
}

// P7.1: bodies of 0 to MaxLetter bytes; of one more none.
func TestSendOfEachLength(t *testing.T) {
	n := made(t, 2)
	var all []api.Letter
	for _, many := range []int{0, 1, 2, api.MaxMessage, api.MaxMessage + 1, api.MaxLetter - 1, api.MaxLetter} {
		body := make([]byte, many)
		for i := range body {
			body[i] = byte(i*7 + many)
		}
		l := letter(int64(len(all))+1, 1, 0, string(body))
		send(t, n, 1, 0, string(body), l.Number)
		all = append(all, l)
	}
	for _, many := range []int{api.MaxLetter + 1, api.MaxLetter + 2, 2 * api.MaxLetter, api.MaxText} {
		unsent(t, n, 1, 0, make([]byte, many), api.ErrLong)
	}
	if number, e := n.Send(0, 1, nil); number != 8 || e != api.OK {
		t.Errorf("Send of nil: %d, %v", number, e)
	}
	stands(t, n, 8, append(all, letter(8, 0, 1, ""))...)
}

// P7.1: of two errors the first one.
func TestWhichErrorOfSend(t *testing.T) {
	long := make([]byte, api.MaxLetter+1)
	n := made(t, 2)
	unsent(t, n, 0, 0, long, api.ErrArg)
	unsent(t, n, 0, 2, long, api.ErrArg)
	unsent(t, n, -1, 0, long, api.ErrArg)

	n = full(t)
	unsent(t, n, 1, 1, long, api.ErrArg)
	unsent(t, n, 2, 1, nil, api.ErrArg)
	unsent(t, n, 1, 0, long, api.ErrLong)
	unsent(t, n, 1, 0, nil, api.ErrFull)
	for _, none := range []*net.Net{nil, {}} {
		if number, e := none.Send(0, 0, long); number != 0 || e != api.ErrNil {
			t.Errorf("Send of no net: %d, %v", number, e)
		}
	}
}

// P7.1 to P7.4: no net and a zero one answer alike.
func TestNoNet(t *testing.T) {
	for _, n := range []*net.Net{nil, {}} {
		for range 2 { // nothing of it comes to something
			if number, e := n.Send(0, 1, []byte("x")); number != 0 || e != api.ErrNil {
				t.Errorf("Send: %d, %v", number, e)
			}
			for _, number := range []int64{-1, 0, 1, 2} {
				if l, e := n.Deliver(number); !alike(l, api.Letter{}) || e != api.ErrNil {
					t.Errorf("Deliver(%d): %v, %v", number, l, e)
				}
				if e := n.Drop(number); e != api.ErrNil {
					t.Errorf("Drop(%d): %v", number, e)
				}
				if twin, e := n.Double(number); twin != 0 || e != api.ErrNil {
					t.Errorf("Double(%d): %d, %v", number, twin, e)
				}
				if l, ok := n.Look(number); !alike(l, api.Letter{}) || ok {
					t.Errorf("Look(%d): %v, %v", number, l, ok)
				}
			}
			if many := n.Clear(); many != 0 {
				t.Errorf("Clear: %d", many)
			}
			stands(t, n, 0)
			if c := n.Copy(); c != nil {
				t.Errorf("Copy: %v", c)
			}
		}
	}
}
