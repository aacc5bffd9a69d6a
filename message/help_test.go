package message_test

import (
	"math"
	"slices"
	"strings"
	"testing"

	"millpond/api"
	"millpond/message"
)

// numbers and names of the kinds, and what each names, by the chapter's table: Page, Op, Mode, To, Version (PSN), Dirty, Body.
var (
	namesByWords  = []string{1: "want", "grant", "share", "yield", "drop", "gone", "image", "got", "release", "wrote", "clean", "flush", "discard"}
	fieldsByWords = []string{1: "PM", "POM", "POT", "POT", "PO", "PO", "POMVDB", "PO", "PO", "POV", "P", "PO", "PV"}
)

// noKinds are numbers of no kind.
var noKinds = []api.MessageKind{0, -1, -2, -13, 14, 15, 127, 128, 1 << 32, 1<<32 + 1, math.MaxInt, math.MinInt, math.MinInt + 1}

// Values at the bounds and between.
var (
	pages   = []int{0, 1, 14, 15}
	ops     = []int64{1, 2, 127, 128, 300, api.MaxNumber - 1, api.MaxNumber}
	modes   = []api.Mode{api.Shared, api.Exclusive}
	nodes   = []int{0, 1, 6, 7}
	psns    = []int64{0, 1, 127, 128, api.MaxStamp - 1, api.MaxStamp}
	numbers = []int64{0, 1, 127, 128, 300, api.MaxNumber - 1, api.MaxNumber}
)

// Values that may not be; some of them have what may be in their lowest bytes.
var (
	wrongPages   = []int{-1, -2, 16, 17, 127, 128, 256, 1 << 32, 1<<32 + 1, math.MaxInt, math.MinInt, math.MinInt + 1}
	wrongOps     = []int64{0, -1, -2, api.MaxNumber + 1, api.MaxNumber + 2, -api.MaxNumber, math.MaxInt64, math.MinInt64, math.MinInt64 + 1}
	wrongModes   = []api.Mode{0, -1, 3, 4, 257, 1<<32 + 1, math.MaxInt, math.MinInt, math.MinInt + 1}
	wrongNodes   = []int{-1, -2, 8, 9, 128, 256, 1 << 32, 1<<32 + 1, math.MaxInt, math.MinInt, math.MinInt + 1}
	wrongPSNs    = []int64{-1, -2, api.MaxStamp + 1, api.MaxStamp + 2, -api.MaxStamp, 1 << 32, 1<<32 + 1, api.MaxNumber, math.MaxInt64, math.MinInt64, math.MinInt64 + 1}
	wrongNumbers = []int64{-1, -2, api.MaxNumber + 1, api.MaxNumber + 2, -api.MaxNumber, math.MaxInt64, math.MinInt64, math.MinInt64 + 1}
)

// body begins with these bytes.
func body(s string) api.Body {
	var b api.Body
	if copy(b[:], s) < len(s) {
		panic("too long a body")
	}
	return b
}

// bodies have no bytes, have noughts ahead, amidst and at the end, and are full.
func bodies() []api.Body {
	return []api.Body{
		{}, body("x"), body("ab"), body("\x01"), body("\x80"), body("\xff"), body("a\x00b"), body("\x00\x00z"), body("x\x00\x00"),
		body(strings.Repeat("q", 95)), body(strings.Repeat("q", 96)), body(strings.Repeat("\x00", 94) + "y"), body(strings.Repeat("\x00", 95) + "y"),
	}
}

// has tells whether a kind names a field.
func has(k api.MessageKind, field string) bool {
	return k >= 1 && int(k) < len(fieldsByWords) && strings.Contains(fieldsByWords[k], field)
}

// each is what one value makes of each message, where the messages' kind names the field; else the messages.
func each[T any](l []api.Message, field string, values []T, set func(*api.Message, T)) []api.Message {
	if len(l) == 0 || !has(l[0].Kind, field) {
		return l
	}
	var all []api.Message
	for _, m := range l {
		for _, x := range values {
			set(&m, x)
			all = append(all, m)
		}
	}
	return all
}

func setPage(m *api.Message, n int)      { m.Page = n }
func setOp(m *api.Message, n int64)      { m.Op = n }
func setMode(m *api.Message, n api.Mode) { m.Mode = n }
func setTo(m *api.Message, n int)        { m.To = n }
func setPSN(m *api.Message, n int64)     { m.PSN = n }
func setDirty(m *api.Message, is bool)   { m.Dirty = is }
func setBody(m *api.Message, b api.Body) { m.Body = b }

// kindsByWords are all of them, rising.
func kindsByWords() []api.MessageKind {
	return []api.MessageKind{1, 2, 3, 4, 5, 6, 7, 8, 9, 10, 11, 12, 13}
}

// isNotYet tells whether a message that names a version is of one that was never written, though it asks for one that was.
func isNotYet(m api.Message) bool {
	return m.PSN == 0 && (m.Kind != api.MessageImage || m.Body != api.Body{})
}

// someOf are messages of a kind that may be: each field that it names at its bounds and between, beside each other one's.
func someOf(k api.MessageKind) []api.Message {
	l := []api.Message{{Kind: k}}
	l = each(l, "P", pages, setPage)
	l = each(l, "O", ops, setOp)
	l = each(l, "M", modes, setMode)
	l = each(l, "T", nodes, setTo)
	l = each(l, "V", psns, setPSN)
	l = each(l, "D", []bool{false, true}, setDirty)
	l = each(l, "B", bodies(), setBody)
	if has(k, "V") {
		l = slices.DeleteFunc(l, isNotYet)
	}
	return l
}

// some are messages of all kinds that may be.
func some() []api.Message {
	var l []api.Message
	for _, k := range kindsByWords() {
		l = append(l, someOf(k)...)
	}
	return l
}

// plain is a message of a kind, somewhere between the bounds.
func plain(k api.MessageKind) api.Message {
	m := api.Message{Kind: k, Page: 3}
	if has(k, "O") {
		m.Op = 300
	}
	if has(k, "M") {
		m.Mode = api.Exclusive
	}
	if has(k, "T") {
		m.To = 5
	}
	if has(k, "V") {
		m.PSN = 200
	}
	if has(k, "B") {
		m.Dirty, m.Body = true, body("ab\x00c")
	}
	return m
}

// letters are datagrams that may be, each part at its bounds and between.
func letters() []api.Datagram {
	right := api.Datagram{From: 1, To: 2, View: 3, Seq: 4, Ack: 5, Body: []byte("ab")}
	var l []api.Datagram
	for from := range api.MaxNodes {
		for to := range api.MaxNodes {
			d := right
			if d.From, d.To = from, to; from != to {
				l = append(l, d)
			}
		}
	}
	for _, view := range numbers {
		for _, ack := range numbers {
			for _, seq := range numbers[1:] {
				d := right
				d.View, d.Seq, d.Ack = view, seq, ack
				l = append(l, d)
			}
			l = append(l, api.Datagram{From: 7, View: view, Ack: ack})
		}
	}
	for _, s := range []string{"", "\x00", "a\x00", "a\x00\x00", "\x00a", "ab\x00", "\xff"} {
		d := right
		d.Body = []byte(s)
		l = append(l, d)
	}
	for _, size := range []int{1, 2, 127, 128, 129, 255, api.MaxMessage} {
		d := right
		d.Body = slices.Repeat([]byte{byte(size)}, size)
		l = append(l, d)
	}
	return l
}

// same tells whether two datagrams are; no body and an empty one are.
func same(a, b api.Datagram) bool {
	return a.From == b.From && a.To == b.To && a.View == b.View && a.Seq == b.Seq && a.Ack == b.Ack && slices.Equal(a.Body, b.Body)
}

// refused fails unless a message may not be.
func refused(t *testing.T, m api.Message) {
	t.Helper()
	if b, e := message.Put(m); len(b) > 0 || e != api.ErrArg || message.May(m) {
		t.Errorf("Put(%+v): % x, %v; May %v", m, b, e, message.May(m))
	}
}

// reads fails unless bytes are no message, for that error.
func reads(t *testing.T, why string, s string, want api.Errno) {
	t.Helper()
	if m, e := message.Read([]byte(s)); m != (api.Message{}) || e != want {
		t.Errorf("%s: Read(% x): %+v, %v", why, s, m, e)
	}
}

// readsDatagram fails unless bytes are no datagram, for that error.
func readsDatagram(t *testing.T, why string, s string, want api.Errno) {
	t.Helper()
	if d, e := message.ReadDatagram([]byte(s)); !same(d, api.Datagram{}) || e != want {
		t.Errorf("%s: ReadDatagram(% x): %+v, %v", why, s, d, e)
	}
}

// lies fails unless a message has these bytes, which are read as it.
func lies(t *testing.T, m api.Message, s string) {
	t.Helper()
	if b, e := message.Put(m); string(b) != s || e != api.OK || !message.May(m) {
		t.Errorf("Put(%+v): % x, %v; not % x", m, b, e, s)
	}
	if got, e := message.Read([]byte(s)); got != m || e != api.OK {
		t.Errorf("Read(% x): %+v, %v; not %+v", s, got, e, m)
	}
}

// liesDatagram fails unless a datagram has these bytes, which are read as it.
func liesDatagram(t *testing.T, d api.Datagram, s string) {
	t.Helper()
	if b, e := message.PutDatagram(d); string(b) != s || e != api.OK {
		t.Errorf("PutDatagram(%+v): % x, %v; not % x", d, b, e, s)
	}
	if got, e := message.ReadDatagram([]byte(s)); !same(got, d) || e != api.OK {
		t.Errorf("ReadDatagram(% x): %+v, %v; not %+v", s, got, e, d)
	}
}
