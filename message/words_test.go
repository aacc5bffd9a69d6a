package message_test

import (
	"math/rand"
	"slices"
	"strings"
	"testing"

	"millpond/api"
	"millpond/message"
	"millpond/wire"
)

// mayByWords tells by the chapter's words whether a message may be.
func mayByWords(m api.Message) bool {
	if m.Kind < 1 || m.Kind > 13 {
		return false
	}
	zero := func(field string, is bool) bool { return !has(m.Kind, field) && !is }
	switch {
	case m.Page < 0 || m.Page > 15:
		return false
	case has(m.Kind, "O") && (m.Op < 1 || m.Op > 4611686018427387904), zero("O", m.Op == 0):
		return false
	case has(m.Kind, "M") && m.Mode != 1 && m.Mode != 2, zero("M", m.Mode == 0):
		return false
	case has(m.Kind, "T") && (m.To < 0 || m.To > 7), zero("T", m.To == 0):
		return false
	case has(m.Kind, "V") && (m.PSN < 0 || m.PSN > 2147483647), zero("V", m.PSN == 0):
		return false
	case (m.Kind == 10 || m.Kind == 13) && m.PSN == 0:
		return false
	case zero("D", !m.Dirty), zero("B", m.Body == api.Body{}):
		return false
	case m.PSN == 0 && m.Body != api.Body{}:
		return false
	}
	return true
}

// partsByWords are a message's forms by the chapter's words, one by one.
func partsByWords(m api.Message) []string {
	l := []string{num(uint64(m.Kind))}
	for _, field := range fieldsByWords[m.Kind] {
		switch field {
		case 'P':
			l = append(l, num(uint64(m.Page)))
		case 'O':
			l = append(l, num(uint64(m.Op)))
		case 'M':
			l = append(l, num(uint64(m.Mode)))
		case 'T':
			l = append(l, num(uint64(m.To)))
		case 'V':
			l = append(l, num(uint64(m.PSN)))
		case 'D':
			l = append(l, string(wire.Flag(m.Dirty)))
		case 'B':
			s := strings.TrimRight(string(m.Body[:]), "\x00")
			l = append(l, string(wire.Bytes([]byte(s))))
		}
	}
	return l
}

// partsOfDatagram are a datagram's forms by the chapter's words, one by one.
func partsOfDatagram(d api.Datagram) []string {
	return []string{num(uint64(d.From)), num(uint64(d.To)), num(uint64(d.View)), num(uint64(d.Seq)), num(uint64(d.Ack)), string(wire.Bytes(d.Body))}
}

func num(n uint64) string { return string(wire.Number(n)) }

// readByWords is what bytes are by the chapter's words: a message that may be, whose forms stand there, and nothing behind them.
func readByWords(b []byte) (api.Message, api.Errno) {
	if len(b) > 256 {
		return api.Message{}, api.ErrLong
	}
	var m api.Message
	r := wire.Open(b)
	wrong := false
	number := func(most uint64) uint64 {
		n, e := r.Number()
		wrong = wrong || e != api.OK || n > most
		return n
	}
	m.Kind = api.MessageKind(number(13))
	if wrong || m.Kind == 0 {
		return api.Message{}, api.ErrBytes
	}
	for _, field := range fieldsByWords[m.Kind] {
		switch field {
		case 'P':
			m.Page = int(number(15))
		case 'O':
			m.Op = int64(number(1 << 62))
		case 'M':
			m.Mode = api.Mode(number(2))
		case 'T':
			m.To = int(number(7))
		case 'V':
			m.PSN = int64(number(1<<31 - 1))
		case 'D':
			is, e := r.Flag()
			m.Dirty, wrong = is, wrong || e != api.OK
		case 'B':
			s, e := r.Bytes(96)
			m.Body = body(string(s))
			wrong = wrong || e != api.OK || len(s) > 0 && s[len(s)-1] == 0
		}
	}
	if wrong || r.Left() > 0 || !mayByWords(m) {
		return api.Message{}, api.ErrBytes
	}
	return m, api.OK
}

// datagramByWords is what bytes are by the chapter's words.
func datagramByWords(b []byte) (api.Datagram, api.Errno) {
	if len(b) > 512 {
		return api.Datagram{}, api.ErrLong
	}
	r := wire.Open(b)
	var l [5]uint64
	wrong := false
	for i, most := range []uint64{7, 7, 1 << 62, 1 << 62, 1 << 62} {
		n, e := r.Number()
		l[i], wrong = n, wrong || e != api.OK || n > most
	}
	s, e := r.Bytes(256)
	if wrong || e != api.OK || r.Left() > 0 || l[0] == l[1] || l[3] == 0 && len(s) > 0 {
		return api.Datagram{}, api.ErrBytes
	}
	return api.Datagram{From: int(l[0]), To: int(l[1]), View: int64(l[2]), Seq: int64(l[3]), Ack: int64(l[4]), Body: s}, api.OK
}

// byWords fails unless bytes are read as the chapter's words say, and what is read is put as these bytes again.
func byWords(t *testing.T, b []byte) {
	t.Helper()
	was := slices.Clone(b)
	m, e := message.Read(b)
	if want, wrong := readByWords(b); m != want || e != wrong {
		t.Fatalf("Read(% x): %+v, %v; not %+v, %v", b, m, e, want, wrong)
	}
	if again, wrong := message.Put(m); e == api.OK && (!slices.Equal(again, b) || wrong != api.OK) {
		t.Fatalf("Put of Read(% x): % x, %v", b, again, wrong)
	}
	d, e := message.ReadDatagram(b)
	if want, wrong := datagramByWords(b); !same(d, want) || e != wrong {
		t.Fatalf("ReadDatagram(% x): %+v, %v; not %+v, %v", b, d, e, want, wrong)
	}
	if again, wrong := message.PutDatagram(d); e == api.OK && (!slices.Equal(again, b) || wrong != api.OK) {
		t.Fatalf("PutDatagram of ReadDatagram(% x): % x, %v", b, again, wrong)
	}
	if !slices.Equal(b, was) {
		t.Fatalf("% x became % x", was, b)
	}
}

// P18.1, P18.3, P0.9: all bytes of at most two, and all of few letters that are longer.
func TestAllShortBytes(t *testing.T) {
	byWords(t, nil)
	for a := range 256 {
		byWords(t, []byte{byte(a)})
		for b := range 256 {
			byWords(t, []byte{byte(a), byte(b)})
		}
	}
	var grow func(b []byte, letters string, more int)
	grow = func(b []byte, letters string, more int) {
		byWords(t, b)
		if more > 0 {
			for _, c := range []byte(letters) {
				grow(append(slices.Clone(b), c), letters, more-1)
			}
		}
	}
	grow(nil, "\x00\x01\x02\x03\x0a\x0d\x0e\x0f\x10\x80\xff", 4)
	grow([]byte{7, 1}, "\x00\x01\x02\x03\x80", 6)
	grow([]byte{1, 2}, "\x00\x01\x02\x80", 6)
}

// P18.1, P18.3, P0.9: forms in which a few bytes are others, are gone, or are new.
func TestBytesNearForms(t *testing.T) {
	r := rand.New(rand.NewSource(181))
	messages, datagrams := some(), letters()
	for range 60000 {
		b, _ := message.Put(messages[r.Intn(len(messages))])
		if r.Intn(3) == 0 {
			b, _ = message.PutDatagram(datagrams[r.Intn(len(datagrams))])
		}
		for range r.Intn(3) {
			at := r.Intn(len(b) + 1)
			c := []byte{0, 1, 2, 7, 8, 15, 16, 127, 128, 255, byte(r.Intn(256))}[r.Intn(11)]
			switch {
			case r.Intn(3) == 0:
				b = slices.Insert(b, at, c)
			case at == len(b):
			case r.Intn(2) == 0:
				b = slices.Delete(b, at, at+1)
			default:
				b[at] = c
			}
		}
		byWords(t, b)
	}
}

// P18.1, P18.3, P0.9: any bytes, of any length.
func TestAnyBytes(t *testing.T) {
	r := rand.New(rand.NewSource(182))
	for range 50000 {
		b := make([]byte, r.Intn(20))
		if r.Intn(100) == 0 {
			b = make([]byte, r.Intn(600))
		}
		for i := range b {
			if b[i] = byte(r.Intn(256)); r.Intn(2) == 0 {
				b[i] = byte(r.Intn(14))
			}
		}
		byWords(t, b)
	}
}

// pick is one of these.
func pick[T any](r *rand.Rand, l ...T) T { return l[r.Intn(len(l))] }

// other is a message, up to two of whose parts are others.
func other(r *rand.Rand, m api.Message) api.Message {
	for range r.Intn(3) {
		switch r.Intn(8) {
		case 0:
			m.Page = pick(r, append(wrongPages, pages...)...)
		case 1:
			m.Op = pick(r, append(wrongOps, ops...)...)
		case 2:
			m.Mode = pick(r, append(wrongModes, modes...)...)
		case 3:
			m.To = pick(r, append(wrongNodes, nodes...)...)
		case 4:
			m.PSN = pick(r, append(wrongPSNs, psns...)...)
		case 5:
			m.Dirty = !m.Dirty
		case 6:
			m.Body = pick(r, bodies()...)
		case 7:
			m.Kind = pick(r, append(kindsByWords(), noKinds...)...)
		}
	}
	return m
}

// P18.1: any messages.
func TestAnyMessages(t *testing.T) {
	r := rand.New(rand.NewSource(183))
	of := map[api.MessageKind][]api.Message{}
	for _, k := range kindsByWords() {
		of[k] = someOf(k)
	}
	may := 0
	for range 50000 {
		m := other(r, pick(r, of[pick(r, kindsByWords()...)]...))
		if !mayByWords(m) {
			refused(t, m)
			continue
		}
		lies(t, m, strings.Join(partsByWords(m), ""))
		may++
	}
	if may < 10000 || may > 40000 {
		t.Error(may)
	}
}
