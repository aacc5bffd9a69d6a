package net_test

import (
	"bytes"
	"slices"
	"testing"

	"millpond/api"
	"millpond/net"
)

// changes is each thing by which a net of five letters goes on.
func changes() map[string]func(*net.Net) {
	return map[string]func(*net.Net){
		"Send":    func(n *net.Net) { n.Send(0, 1, []byte("new")) },
		"Double":  func(n *net.Net) { n.Double(2) },
		"Deliver": func(n *net.Net) { n.Deliver(1) },
		"Drop":    func(n *net.Net) { n.Drop(5) },
		"Clear":   func(n *net.Net) { n.Clear() },
	}
}

// P7.4: a Copy is the same, and goes on apart, each way round.
func TestCopyGoesOnApart(t *testing.T) {
	for name, change := range changes() {
		n, all := five(t)
		c := n.Copy()
		if c == n || !net.Same(n, c) || !net.Same(c, n) {
			t.Fatalf("a Copy is another one")
		}
		change(n)
		stands(t, c, 5, all...)
		if net.Same(n, c) || net.Same(c, n) {
			t.Errorf("%s of the net: the copy is the same yet", name)
		}
		change(c)
		if !net.Same(n, c) || !net.Same(c, n) {
			t.Errorf("%s of both: they are not the same", name)
		}

		n, _ = five(t)
		c = n.Copy()
		change(c)
		stands(t, n, 5, all...)
		if net.Same(n, c) {
			t.Errorf("%s of the copy: the net is the same yet", name)
		}
	}
}

// P7.4: a Copy's letters go by the same numbers, and a Copy of a Copy stays.
func TestCopyGoesOnAlike(t *testing.T) {
	n, all := five(t)
	n.Drop(2)
	c := n.Copy()
	d := c.Copy()
	for _, x := range []*net.Net{n, c} {
		send(t, x, 2, 0, "six", 6)
		deliver(t, x, all[0])
		doubled(t, x, 6, 7)
	}
	if !net.Same(n, c) {
		t.Error("they went on alike, and are not the same")
	}
	stands(t, d, 5, without(all, 1)...)
	nowhere(t, d, 2)
}

// P7.4: two of nil, zero, and made ones.
func TestSameOfNone(t *testing.T) {
	none := []*net.Net{nil, {}}
	for _, a := range none {
		for _, b := range none {
			if !net.Same(a, b) {
				t.Errorf("%v and %v are not the same", a, b)
			}
		}
		for nodes := 1; nodes <= api.MaxNodes; nodes++ {
			n := made(t, nodes)
			if net.Same(a, n) || net.Same(n, a) {
				t.Errorf("one of %d nodes is as none", nodes)
			}
		}
	}
}

// P7.4: nets that differ in one thing alone are not the same.
func TestSameOfNetsThatDifferInOneThing(t *testing.T) {
	base := func(nodes int, from, to int, body string) *net.Net {
		n := made(t, nodes)
		send(t, n, 0, 1, "ahead", 1)
		send(t, n, from, to, body, 2)
		send(t, n, 1, 0, "behind", 3)
		return n
	}
	n := base(4, 0, 2, "body")
	others := map[string]*net.Net{
		"nodes":     base(5, 0, 2, "body"),
		"from":      base(4, 1, 2, "body"),
		"to":        base(4, 0, 1, "body"),
		"a byte":    base(4, 0, 2, "bodY"),
		"shorter":   base(4, 0, 2, "bod"),
		"longer":    base(4, 0, 2, "body\x00"),
		"no bytes":  base(4, 0, 2, ""),
		"turned":    base(4, 2, 0, "body"),
		"last":      base(4, 0, 2, "body"),
		"one less":  base(4, 0, 2, "body"),
		"one more":  base(4, 0, 2, "body"),
		"none left": base(4, 0, 2, "body"),
		"number":    made(t, 4),
		"order":     made(t, 4),
	}
	others["last"].Send(0, 1, nil)
	others["last"].Drop(4)
	others["one less"].Drop(2)
	others["one more"].Double(2)
	others["none left"].Clear()
	number := others["number"] // all alike, but the one in the midst has another number
	send(t, number, 0, 1, "ahead", 1)
	send(t, number, 0, 2, "body", 2)
	send(t, number, 0, 2, "body", 3)
	order := others["order"]
	send(t, order, 0, 2, "body", 1)
	send(t, order, 0, 1, "ahead", 2)
	send(t, order, 1, 0, "behind", 3)
	for name, o := range others {
		if net.Same(n, o) || net.Same(o, n) {
			t.Errorf("%s: they are the same", name)
		}
		if !net.Same(o, o) || !net.Same(o, o.Copy()) {
			t.Errorf("%s: it is not the same as itself", name)
		}
	}
	if !net.Same(n, base(4, 0, 2, "body")) {
		t.Error("two that were made alike are not the same")
	}
}

// P7.4: numbers count, also where the letters, one behind the other, are alike; nil bytes are as none.
func TestSameOfNumbers(t *testing.T) {
	a, b := made(t, 2), made(t, 2)
	for number := range int64(3) {
		send(t, a, 0, 1, "x", number+1)
		send(t, b, 0, 1, "x", number+1)
	}
	a.Drop(1)
	b.Drop(2)
	if net.Same(a, b) {
		t.Error("2 3 and 1 3 are the same")
	}
	a.Drop(2)
	b.Drop(1)
	if !net.Same(a, b) {
		t.Error("what was dropped in another order is not the same")
	}
	a.Send(1, 0, nil)
	b.Send(1, 0, []byte{})
	if !net.Same(a, b) {
		t.Error("nil and no bytes are not one")
	}
}

// P7.1, P7.5: what is handed in stays as it was, and is not kept.
func TestWhatIsHandedInIsNotKept(t *testing.T) {
	n := made(t, 2)
	room := []byte("abcdef")
	body := room[1:4]
	for number := int64(1); number <= 2; number++ {
		if got, e := n.Send(0, 1, body); got != number || e != api.OK {
			t.Fatalf("Send: %d, %v", got, e)
		}
	}
	n.Double(1)
	if string(room) != "abcdef" {
		t.Errorf("what was handed in is %q", room)
	}
	copy(room, "XXXXXX")
	stands(t, n, 3, letter(1, 0, 1, "bcd"), letter(2, 0, 1, "bcd"), letter(3, 0, 1, "bcd"))
}

// spoil writes over a letter's bytes, behind its end too.
func spoil(l api.Letter) {
	b := l.Body[:cap(l.Body)]
	for i := range b {
		b[i] = '#'
	}
}

// P7.2 to P7.5: what is handed out shares no bytes with the net, with its copies, with another answer, or with what was sent.
func TestWhatIsHandedOutIsTheCallers(t *testing.T) {
	n := made(t, 2)
	body := bytes.Repeat([]byte("a"), 33)
	n.Send(0, 1, body)
	n.Double(1)
	n.Send(1, 0, body)
	c := n.Copy()
	text := string(body)
	all := []api.Letter{letter(1, 0, 1, text), letter(2, 0, 1, text), letter(3, 1, 0, text)}

	for place := range 3 {
		l, _ := n.At(place)
		spoil(l)
		l, _ = n.Look(int64(place) + 1)
		spoil(l)
	}
	for l := range n.All() {
		spoil(l)
	}
	for _, l := range told(n) {
		spoil(l)
	}
	numbers := n.To(1)
	clear(numbers)
	clear(numbers[:cap(numbers)])
	stands(t, n, 3, all...)

	l, _ := n.Deliver(1)
	spoil(l)
	stands(t, n, 3, all[1:]...)
	l, _ = c.Deliver(2)
	spoil(l)
	stands(t, c, 3, without(all, 1)...)
	stands(t, n, 3, all[1:]...)
	if string(body) != text {
		t.Errorf("what was sent is %q", body)
	}
}

// P7.3: an answer stays as it is, whatever becomes of the net.
func TestAnswersStay(t *testing.T) {
	n, all := five(t)
	to, got := n.To(1), told(n)
	looked, _ := n.Look(4)
	at, _ := n.At(0)
	n.Clear()
	for range 9 {
		n.Send(1, 2, []byte("other"))
	}
	if !slices.Equal(to, []int64{1, 3}) || !slices.EqualFunc(got, all, alike) || !alike(looked, all[3]) || !alike(at, all[0]) {
		t.Errorf("%v, %v, %v, %v", to, got, looked, at)
	}
}
