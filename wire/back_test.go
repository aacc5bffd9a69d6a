package wire_test

import (
	"bytes"
	"slices"
	"strings"
	"testing"

	"millpond/api"
	"millpond/wire"
)

// steps are numbers of all sizes, the same ones each time.
func steps(count int) []uint64 {
	var l []uint64
	state := uint64(0x9e3779b97f4a7c15)
	for i := range count {
		state ^= state << 13
		state ^= state >> 7
		state ^= state << 17
		l = append(l, state>>(i%64))
	}
	return l
}

// P1.5, P0.11
func TestNumbersThereAndBack(t *testing.T) {
	for _, n := range append(edges(), steps(5000)...) {
		r := wire.Open(wire.Number(n))
		if got, e := r.Number(); got != n || e != api.OK || r.End() != api.OK {
			t.Fatalf("%d comes back as %d, %v, %d left", n, got, e, r.Left())
		}
		signed := int64(n)
		r = wire.Open(wire.Signed(signed))
		if got, e := r.Signed(); got != signed || e != api.OK || r.End() != api.OK {
			t.Fatalf("%d comes back as %d, %v, %d left", signed, got, e, r.Left())
		}
	}
}

// P1.5, P0.11
func TestBytesThereAndBack(t *testing.T) {
	for _, size := range []int{0, 1, 2, 96, 127, 128, 129, 255, 256, 16383, 16384} {
		b := make([]byte, size)
		for i := range b {
			b[i] = byte(i * 7)
		}
		r := wire.Open(wire.Bytes(b))
		if got, e := r.Bytes(size); !bytes.Equal(got, b) || e != api.OK || r.End() != api.OK {
			t.Errorf("%d bytes come back as %d, %v, %d left", size, len(got), e, r.Left())
		}
	}
}

// P1.5, P0.11
func TestListsThereAndBack(t *testing.T) {
	for _, size := range []int{0, 1, 2, 127, 128, 300} {
		want := steps(size)
		b, e := wire.Put(want, wire.Number)
		if e != api.OK {
			t.Fatalf("Put of %d is %v", size, e)
		}
		r := wire.Open(b)
		if l, e := wire.Take(r, size, (*wire.Reader).Number); !slices.Equal(l, want) || e != api.OK || r.End() != api.OK {
			t.Errorf("%d numbers come back as %d, %v, %d left", size, len(l), e, r.Left())
		}
	}
	flags := []bool{true, false, false, true}
	b, _ := wire.Put(flags, wire.Flag)
	if l, e := wire.Take(wire.Open(b), 4, (*wire.Reader).Flag); !slices.Equal(l, flags) || e != api.OK {
		t.Errorf("flags come back as %v, %v", l, e)
	}
	texts := [][]byte{[]byte("a"), nil, []byte("\x80\x00"), bytes.Repeat([]byte("x"), 200)}
	b, _ = wire.Put(texts, wire.Bytes)
	l, e := wire.Take(wire.Open(b), 4, func(r *wire.Reader) ([]byte, api.Errno) { return r.Bytes(200) })
	if !slices.EqualFunc(l, texts, bytes.Equal) || e != api.OK {
		t.Errorf("texts come back as %q, %v", l, e)
	}
}

// P1.5, P0.11: forms of all kinds, joined, are read one behind the other.
func TestJoinedFormsThereAndBack(t *testing.T) {
	list, _ := wire.Put([]int64{-5, 1 << 40}, wire.Signed)
	r := wire.Open(wire.Join(wire.Number(1<<63), wire.Flag(true), wire.Bytes([]byte("\x00\x80")), wire.Signed(-300), list, wire.Flag(false)))
	n, e1 := r.Number()
	is, e2 := r.Flag()
	b, e3 := r.Bytes(2)
	s, e4 := r.Signed()
	l, e5 := wire.Take(r, 2, (*wire.Reader).Signed)
	last, e6 := r.Flag()
	for i, e := range []api.Errno{e1, e2, e3, e4, e5, e6, r.End()} {
		if e != api.OK {
			t.Errorf("read %d is %v", i, e)
		}
	}
	if n != 1<<63 || !is || string(b) != "\x00\x80" || s != -300 || !slices.Equal(l, []int64{-5, 1 << 40}) || last {
		t.Errorf("read: %d, %v, %q, %d, %v, %v", n, is, b, s, l, last)
	}
}

// words calls yield with all words of at most size of these bytes.
func words(letters []byte, size int, yield func([]byte)) {
	word := make([]byte, 0, size)
	var grow func()
	grow = func() {
		yield(word)
		if len(word) == size {
			return
		}
		for _, b := range letters {
			word = append(word, b)
			grow()
			word = word[:len(word)-1]
		}
	}
	grow()
}

// writtenAgain fails unless what is read of b, if anything, is written as the bytes that were read.
func writtenAgain(t *testing.T, b []byte) {
	t.Helper()
	check := func(kind string, r *wire.Reader, e api.Errno, again []byte) {
		read := len(b) - r.Left()
		switch {
		case e != api.OK && read != 0:
			t.Fatalf("%s of % x: %v, and the reader has gone %d on", kind, b, e, read)
		case e == api.OK && !bytes.Equal(again, b[:read]):
			t.Fatalf("%s of % x read % x, which is written % x", kind, b, b[:read], again)
		}
	}
	r := wire.Open(b)
	n, e := r.Number()
	check("Number", r, e, wire.Number(n))
	r = wire.Open(b)
	s, e := r.Signed()
	check("Signed", r, e, wire.Signed(s))
	r = wire.Open(b)
	is, e := r.Flag()
	check("Flag", r, e, wire.Flag(is))
	r = wire.Open(b)
	body, e := r.Bytes(1 << 20)
	check("Bytes", r, e, wire.Bytes(body))
	r = wire.Open(b)
	l, e := wire.Take(r, 1<<20, (*wire.Reader).Number)
	again, _ := wire.Put(l, wire.Number)
	check("Take", r, e, again)
}

// P1.5: bytes that are read are those that are written of what was read.
func TestReadBytesAreWrittenAgain(t *testing.T) {
	all := make([]byte, 256)
	for i := range all {
		all[i] = byte(i)
	}
	words(all, 2, func(b []byte) { writtenAgain(t, b) })
	words([]byte{0, 1, 2, 3, 0x7f, 0x80, 0x81, 0xff}, 5, func(b []byte) { writtenAgain(t, b) })
	for _, first := range []string{"\x80", "\xff"} {
		for size := 7; size <= 11; size++ {
			words([]byte{0, 1, 2, 0x7f, 0x80, 0x81, 0xff}, 3, func(b []byte) {
				writtenAgain(t, wire.Join([]byte(strings.Repeat(first, size)), b))
			})
		}
	}
}

// apart fails if one of these forms is the beginning of another one, or is there twice.
func apart(t *testing.T, kind string, forms [][]byte) {
	t.Helper()
	slices.SortFunc(forms, bytes.Compare)
	for i, b := range forms[1:] { // sorted, what begins with another one stands next behind it
		if bytes.HasPrefix(b, forms[i]) {
			t.Errorf("%s: % x begins with % x", kind, b, forms[i])
		}
	}
}

// P1.5: no form is the beginning of another one of its kind.
func TestNoFormBeginsAnother(t *testing.T) {
	var numbers, signed, texts, lists [][]byte
	values := append(edges(), steps(5000)...)
	slices.Sort(values)
	for _, n := range slices.Compact(values) {
		numbers = append(numbers, wire.Number(n))
		signed = append(signed, wire.Signed(int64(n)))
	}
	words([]byte{0, 1, 2, 0x80, 0xff}, 4, func(b []byte) {
		texts = append(texts, wire.Bytes(b))
		list, _ := wire.Put(b, func(n byte) []byte { return wire.Number(uint64(n)) })
		lists = append(lists, list)
	})
	apart(t, "numbers", numbers)
	apart(t, "signed numbers", signed)
	apart(t, "flags", [][]byte{wire.Flag(false), wire.Flag(true)})
	apart(t, "bytes", texts)
	apart(t, "lists", lists)
}
