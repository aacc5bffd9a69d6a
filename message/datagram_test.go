package message_test

import (
	"slices"
	"strings"
	"testing"

	"millpond/api"
	"millpond/message"
)

// refusedDatagram fails unless a datagram may not be.
func refusedDatagram(t *testing.T, d api.Datagram) {
	t.Helper()
	if b, e := message.PutDatagram(d); len(b) > 0 || e != api.ErrArg {
		t.Errorf("PutDatagram(%+v): % x, %v", d, b, e)
	}
}

// right is a datagram between the bounds.
func right() api.Datagram {
	return api.Datagram{From: 3, To: 6, View: 300, Seq: 4, Ack: 5, Body: []byte("ab\x00")}
}

// P18.1: forms that are written out.
func TestFormsOfDatagrams(t *testing.T) {
	liesDatagram(t, right(), "\x03\x06\xac\x02\x04\x05\x03ab\x00")
	liesDatagram(t, api.Datagram{From: 1}, "\x01\x00\x00\x00\x00\x00")
	liesDatagram(t, api.Datagram{To: 7, Ack: 128}, "\x00\x07\x00\x00\x80\x01\x00")
	liesDatagram(t, api.Datagram{From: 7, To: 6, Seq: 1, Body: []byte{}}, "\x07\x06\x00\x01\x00\x00")
	liesDatagram(t, api.Datagram{From: 7, To: 6, Seq: 1, Body: []byte{0}}, "\x07\x06\x00\x01\x00\x01\x00")
	most := "\x80\x80\x80\x80\x80\x80\x80\x80\x40"
	full := strings.Repeat("f", api.MaxMessage)
	liesDatagram(t, api.Datagram{From: 7, To: 0, View: api.MaxNumber, Seq: api.MaxNumber, Ack: api.MaxNumber, Body: []byte(full)}, "\x07\x00"+most+most+most+"\x80\x02"+full)
}

// P18.1, P18.3, P0.11: each part at its bounds and between, by the chapter's words; there and back.
func TestAllDatagramsThatMayBe(t *testing.T) {
	for _, d := range letters() {
		liesDatagram(t, d, strings.Join(partsOfDatagram(d), ""))
	}
}

// P18.1: each number just beyond its bounds and further.
func TestDatagramsBeyondTheirBounds(t *testing.T) {
	for _, n := range wrongNodes {
		d := right()
		d.From = n
		refusedDatagram(t, d)
		d = right()
		d.To = n
		refusedDatagram(t, d)
		d.From = n
		refusedDatagram(t, d)
	}
	for _, n := range wrongNumbers {
		d := right()
		d.View = n
		refusedDatagram(t, d)
		d = right()
		d.Ack = n
		refusedDatagram(t, d)
		d = right()
		d.Seq = n
		refusedDatagram(t, d)
		d.Body = nil
		refusedDatagram(t, d)
	}
}

// P18.1: From and To alike, Seq 0 with a body, a body that is too long.
func TestDatagramsThatMayNotBe(t *testing.T) {
	for n := range api.MaxNodes {
		d := right()
		d.From, d.To = n, n
		refusedDatagram(t, d)
		refusedDatagram(t, api.Datagram{From: n, To: n})
	}
	refusedDatagram(t, api.Datagram{})
	for _, size := range []int{1, 2, api.MaxMessage, api.MaxMessage + 1} {
		d := right()
		d.Seq, d.Body = 0, make([]byte, size)
		refusedDatagram(t, d)
	}
	for _, size := range []int{api.MaxMessage + 1, api.MaxMessage + 2, api.MaxLetter, api.MaxLetter + 1, 1 << 20} { // ErrArg, however long it would be
		d := right()
		d.Body = make([]byte, size)
		refusedDatagram(t, d)
	}
	d := right()
	d.Body = make([]byte, api.MaxMessage)
	liesDatagram(t, d, "\x03\x06\xac\x02\x04\x05\x80\x02"+strings.Repeat("\x00", api.MaxMessage))
}

// P18.1: nothing, forms that are cut short at each byte, and forms with one byte more.
func TestReadOfDatagramsCutShort(t *testing.T) {
	readsDatagram(t, "nothing", "", api.ErrBytes)
	for _, d := range []api.Datagram{right(), {From: 1}, {From: 1, Seq: 1}, {From: 2, To: 1, View: 1, Seq: 300, Ack: api.MaxNumber, Body: make([]byte, 200)}} {
		whole := strings.Join(partsOfDatagram(d), "")
		liesDatagram(t, d, whole)
		for size := range len(whole) {
			readsDatagram(t, "cut short", whole[:size], api.ErrBytes)
		}
		for c := range 256 {
			readsDatagram(t, "one byte more", whole+string([]byte{byte(c)}), api.ErrBytes)
		}
	}
}

// P18.1: numbers in forms too long, and beyond their bounds.
func TestReadOfWrongNumbersOfDatagrams(t *testing.T) {
	parts := partsOfDatagram(right())
	beyond := [][]uint64{{8, 9, 127, 128, 256 + 3, 1<<32 + 3}, {8, 9, 127, 128, 256 + 6, 1<<32 + 6}, {1<<62 + 2}, {1<<62 + 2}, {1<<62 + 2}}
	for at, l := range beyond {
		ahead, one, behind := apart(parts, at)
		readsDatagram(t, "too long", ahead+tooLong(one)+behind, api.ErrBytes)
		for _, n := range l {
			readsDatagram(t, "beyond", ahead+num(n)+behind, api.ErrBytes)
		}
		for _, form := range greatest() {
			readsDatagram(t, "beyond", ahead+form+behind, api.ErrBytes)
		}
	}
	ahead, one, _ := apart(parts, 5)
	readsDatagram(t, "a body's size too long", ahead+tooLong(one[:1])+one[1:], api.ErrBytes)
	for _, form := range append(greatest(), num(4), num(1<<32+3)) {
		readsDatagram(t, "a body's size beyond", ahead+form+one[1:], api.ErrBytes)
	}
}

// P18.1: bytes of datagrams that may not be.
func TestReadOfDatagramsThatMayNotBe(t *testing.T) {
	for n := range api.MaxNodes {
		readsDatagram(t, "alike", num(uint64(n))+num(uint64(n))+"\x01\x01\x01\x00", api.ErrBytes)
	}
	readsDatagram(t, "Seq 0 with a body", "\x01\x02\x03\x00\x05\x01a", api.ErrBytes)
	readsDatagram(t, "Seq 0 with a nought", "\x01\x02\x03\x00\x05\x01\x00", api.ErrBytes)
	head := "\x01\x02\x03\x04\x05"
	readsDatagram(t, "too long a body", head+"\x81\x02"+strings.Repeat("x", api.MaxMessage+1), api.ErrBytes)
	readsDatagram(t, "too long a body", head+"\xf9\x03"+strings.Repeat("x", api.MaxLetter-7), api.ErrBytes)
	liesDatagram(t, api.Datagram{From: 1, To: 2, View: 3, Seq: 4, Ack: 5, Body: []byte(strings.Repeat("x", api.MaxMessage))}, head+"\x80\x02"+strings.Repeat("x", api.MaxMessage))
}

// P18.1: ErrLong ahead of ErrBytes: MaxLetter bytes, and one more, whatever they are.
func TestReadOfManyBytesOfDatagrams(t *testing.T) {
	whole := strings.Join(partsOfDatagram(right()), "")
	for _, fill := range []string{"\x00", "\x01", "\x80", "\xff"} {
		behind := strings.Repeat(fill, 2*api.MaxLetter)
		for _, size := range []int{api.MaxMessage, api.MaxMessage + 1, api.MaxLetter - 1, api.MaxLetter} {
			readsDatagram(t, "many", (whole + behind)[:size], api.ErrBytes)
			readsDatagram(t, "many", behind[:size], api.ErrBytes)
		}
		for _, size := range []int{api.MaxLetter + 1, api.MaxLetter + 2, 2 * api.MaxLetter} {
			readsDatagram(t, "too many", (whole + behind)[:size], api.ErrLong)
			readsDatagram(t, "too many", behind[:size], api.ErrLong)
		}
	}
}

// P18.3: unlike datagrams have unlike bytes.
func TestUnlikeDatagrams(t *testing.T) {
	of := map[string]api.Datagram{}
	for _, d := range letters() {
		b, _ := message.PutDatagram(d)
		if other, is := of[string(b)]; is && !same(other, d) {
			t.Fatalf("% x are %+v and %+v", b, d, other)
		}
		of[string(b)] = d
	}
	if len(of) < 400 {
		t.Error(len(of))
	}
}

// P18.1: what was handed in stays as it was, and is not kept.
func TestDatagramsHandedIn(t *testing.T) {
	behind := []byte("abcdef")
	d := right()
	d.Body = behind[:3]
	b, _ := message.PutDatagram(d)
	want := string(b)
	if string(behind) != "abcdef" || len(d.Body) != 3 {
		t.Errorf("%q", behind)
	}
	clear(behind)
	if string(b) != want {
		t.Errorf("% x, not % x", b, want)
	}
	handed := append(slices.Clone(b), "behind"...)
	got, _ := message.ReadDatagram(handed[:len(b)])
	if string(handed) != want+"behind" {
		t.Errorf("% x", handed)
	}
	clear(handed)
	if string(got.Body) != "abc" {
		t.Errorf("%q", got.Body)
	}
}

// P18.1: what was told is the caller's.
func TestDatagramsAreTheCallers(t *testing.T) {
	d := right()
	b, _ := message.PutDatagram(d)
	c, _ := message.PutDatagram(d)
	want := string(b)
	clear(b)
	_ = append(b[:2], 99)
	if again, _ := message.PutDatagram(d); string(c) != want || string(again) != want || string(d.Body) != "ab\x00" {
		t.Errorf("% x, % x, not % x", c, again, want)
	}
	one, _ := message.ReadDatagram(c)
	two, _ := message.ReadDatagram(c)
	clear(one.Body)
	_ = append(one.Body[:1], 99)
	if string(two.Body) != "ab\x00" || string(c) != want {
		t.Errorf("%q, % x", two.Body, c)
	}
}
