package message_test

import (
	"slices"
	"strings"
	"testing"

	"millpond/api"
	"millpond/message"
)

// P18.1: forms that are written out, one of each kind and more.
func TestForms(t *testing.T) {
	lies(t, api.Message{Kind: api.MessageWant, Page: 15, Mode: api.Shared}, "\x01\x0f\x01")
	lies(t, api.Message{Kind: api.MessageGrant, Page: 0, Op: 300, Mode: api.Exclusive}, "\x02\x00\xac\x02\x02")
	lies(t, api.Message{Kind: api.MessageShare, Page: 1, Op: 2, To: 3}, "\x03\x01\x02\x03")
	lies(t, api.Message{Kind: api.MessageYield, Page: 0, Op: 1, To: 0}, "\x04\x00\x01\x00")
	lies(t, api.Message{Kind: api.MessageDrop, Page: 2, Op: 127}, "\x05\x02\x7f")
	lies(t, api.Message{Kind: api.MessageGone, Page: 2, Op: 128}, "\x06\x02\x80\x01")
	lies(t, api.Message{Kind: api.MessageImage, Page: 9, Op: 1, Mode: api.Exclusive, PSN: 0}, "\x07\x09\x01\x02\x00\x00\x00")
	lies(t, api.Message{Kind: api.MessageImage, Page: 9, Op: 1, Mode: api.Exclusive, PSN: 0, Dirty: true}, "\x07\x09\x01\x02\x00\x01\x00")
	lies(t, api.Message{Kind: api.MessageImage, Page: 9, Op: 1, Mode: api.Shared, PSN: 1}, "\x07\x09\x01\x01\x01\x00\x00")
	lies(t, api.Message{Kind: api.MessageImage, Page: 9, Op: 1, Mode: api.Shared, PSN: 128, Dirty: true, Body: body("\x00a\x00\x00b\x00")}, "\x07\x09\x01\x01\x80\x01\x01\x05\x00a\x00\x00b")
	lies(t, api.Message{Kind: api.MessageGot, Page: 15, Op: api.MaxNumber}, "\x08\x0f\x80\x80\x80\x80\x80\x80\x80\x80\x40")
	lies(t, api.Message{Kind: api.MessageRelease, Page: 1, Op: 1}, "\x09\x01\x01")
	lies(t, api.Message{Kind: api.MessageWrote, Page: 1, Op: 2, PSN: api.MaxStamp}, "\x0a\x01\x02\xff\xff\xff\xff\x07")
	lies(t, api.Message{Kind: api.MessageClean, Page: 0}, "\x0b\x00")
	lies(t, api.Message{Kind: api.MessageFlush, Page: 0, Op: 16384}, "\x0c\x00\x80\x80\x01")
	lies(t, api.Message{Kind: api.MessageDiscard, Page: 3, PSN: 1}, "\x0d\x03\x01")
}

// P18.1: a full body, one whose last byte alone is there, and bodies that end in noughts.
func TestFormsOfBodies(t *testing.T) {
	m := api.Message{Kind: api.MessageImage, Page: 1, Op: 2, Mode: api.Shared, PSN: 5}
	head := "\x07\x01\x02\x01\x05\x00"
	for size := range api.BodySize + 1 {
		s := strings.Repeat("s", size)
		m.Body = body(s)
		lies(t, m, head+string(rune(size))+s)
	}
	m.Body = body(strings.Repeat("\x00", 95) + "y")
	lies(t, m, head+"\x60"+strings.Repeat("\x00", 95)+"y")
	m.Body = body("y" + strings.Repeat("\x00", 95))
	lies(t, m, head+"\x01y")
	m.Body = api.Body{}
	lies(t, m, head+"\x00")
}

// P18.1, P18.3, P0.11: all that may be, by the chapter's words; there and back.
func TestAllThatMayBe(t *testing.T) {
	for _, m := range some() {
		if !mayByWords(m) {
			t.Fatalf("%+v may not be by the words", m)
		}
		lies(t, m, strings.Join(partsByWords(m), ""))
	}
}

// P18.1: no message has more than MaxMessage bytes.
func TestLongestMessage(t *testing.T) {
	longest := 0
	for _, m := range some() {
		b, _ := message.Put(m)
		longest = max(longest, len(b))
	}
	if longest != 115 || longest > api.MaxMessage {
		t.Error(longest)
	}
}

// wrongOnes are messages of a kind that may not be for one field that it names.
func wrongOnes(k api.MessageKind) []api.Message {
	if !mayByWords(plain(k)) {
		panic("a plain message may be")
	}
	wrong := func(field string, set func([]api.Message) []api.Message) []api.Message {
		if !has(k, field) {
			return nil
		}
		return set([]api.Message{plain(k)})
	}
	l := wrong("P", func(l []api.Message) []api.Message { return each(l, "P", wrongPages, setPage) })
	l = append(l, wrong("O", func(l []api.Message) []api.Message { return each(l, "O", wrongOps, setOp) })...)
	l = append(l, wrong("M", func(l []api.Message) []api.Message { return each(l, "M", wrongModes, setMode) })...)
	l = append(l, wrong("T", func(l []api.Message) []api.Message { return each(l, "T", wrongNodes, setTo) })...)
	return append(l, wrong("V", func(l []api.Message) []api.Message { return each(l, "V", wrongPSNs, setPSN) })...)
}

// P18.1: each field that a kind names, just beyond its bounds and further.
func TestFieldsBeyondTheirBounds(t *testing.T) {
	many := 0
	for _, k := range kindsByWords() {
		for _, m := range wrongOnes(k) {
			refused(t, m)
			many++
		}
	}
	if want := 13*len(wrongPages) + 10*len(wrongOps) + 3*len(wrongModes) + 2*len(wrongNodes) + 3*len(wrongPSNs); many < want {
		t.Errorf("%d messages, not %d", many, want)
	}
}

// P18.1: each field that a kind does not name, other than zero.
func TestFieldsThatAreNotNamed(t *testing.T) {
	for _, k := range kindsByWords() {
		var l []api.Message
		add := func(field string, set func(*api.Message)) {
			if m := plain(k); !has(k, field) {
				set(&m)
				l = append(l, m)
			}
		}
		for _, n := range append(slices.Clone(ops), wrongOps[1:]...) {
			add("O", func(m *api.Message) { m.Op = n })
		}
		for _, n := range append(slices.Clone(modes), wrongModes[1:]...) {
			add("M", func(m *api.Message) { m.Mode = n })
		}
		for _, n := range append(slices.Clone(nodes[1:]), wrongNodes...) {
			add("T", func(m *api.Message) { m.To = n })
		}
		for _, n := range append(slices.Clone(psns[1:]), wrongPSNs...) {
			add("V", func(m *api.Message) { m.PSN = n })
		}
		add("D", func(m *api.Message) { m.Dirty = true })
		for _, b := range bodies()[1:] {
			add("B", func(m *api.Message) { m.Body = b })
		}
		add("B", func(m *api.Message) { m.PSN, m.Body = 1, body("x") })
		if len(l) == 0 {
			t.Errorf("the kind %d names all", k)
		}
		for _, m := range l {
			refused(t, m)
		}
	}
}

// P18.1: numbers that are no kind, with nothing and with what other kinds name.
func TestNoKinds(t *testing.T) {
	for _, k := range noKinds {
		refused(t, api.Message{Kind: k})
		for _, other := range kindsByWords() {
			m := plain(other)
			m.Kind = k
			refused(t, m)
		}
	}
	refused(t, api.Message{})
}

// P18.1: the PSN 0 with a body that is not noughts; Wrote and Discard of it.
func TestOfTheVersionZero(t *testing.T) {
	m := plain(api.MessageImage)
	m.PSN = 0
	for _, m.Body = range bodies()[1:] {
		refused(t, m)
		m.Dirty = !m.Dirty
	}
	m.Body = api.Body{}
	lies(t, m, "\x07\x03\xac\x02\x02\x00"+map[bool]string{false: "\x00", true: "\x01"}[m.Dirty]+"\x00")
	refused(t, api.Message{Kind: api.MessageWrote, Page: 1, Op: 1})
	refused(t, api.Message{Kind: api.MessageDiscard, Page: 1})
	lies(t, api.Message{Kind: api.MessageWrote, Page: 1, Op: 1, PSN: 1}, "\x0a\x01\x01\x01")
}

// P18.3: unlike messages have unlike bytes.
func TestUnlikeMessages(t *testing.T) {
	of := map[string]api.Message{}
	for _, m := range some() {
		b, _ := message.Put(m)
		if other, is := of[string(b)]; is && other != m {
			t.Fatalf("% x are %+v and %+v", b, m, other)
		}
		of[string(b)] = m
	}
	if len(of) < 3000 {
		t.Error(len(of))
	}
}

// P18.1: what was told is the caller's.
func TestBytesAreTheCallers(t *testing.T) {
	m := plain(api.MessageImage)
	was := m
	b, _ := message.Put(m)
	c, _ := message.Put(m)
	want := string(b)
	for i := range b {
		b[i]++
	}
	_ = append(b[:2], 99)
	if again, _ := message.Put(m); string(c) != want || string(again) != want || m != was {
		t.Errorf("% x, % x, not % x", c, again, want)
	}
	got, _ := message.Read(c)
	clear(c)
	if got != m {
		t.Errorf("%+v, not %+v", got, m)
	}
}
