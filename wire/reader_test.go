package wire_test

import (
	"bytes"
	"math"
	"slices"
	"strings"
	"testing"

	"millpond/api"
	"millpond/wire"
)

func open(s string) *wire.Reader { return wire.Open([]byte(s)) }

// absent are the readers that are none.
func absent() map[string]*wire.Reader { return map[string]*wire.Reader{"nil": nil, "zero": {}} }

// P1.2
func TestOpenLeftEnd(t *testing.T) {
	for _, b := range [][]byte{nil, {}} {
		if r := wire.Open(b); r == nil || r.Left() != 0 || r.End() != api.OK {
			t.Errorf("a reader of no bytes has %d left, End is %v", r.Left(), r.End())
		}
	}
	r := open("\x05\x80\x01\x01")
	if r.Left() != 4 || r.End() != api.ErrBytes {
		t.Errorf("at the beginning: %d left, End is %v", r.Left(), r.End())
	}
	if n, e := r.Number(); n != 5 || e != api.OK || r.Left() != 3 {
		t.Errorf("first number: %d, %v, %d left", n, e, r.Left())
	}
	if n, e := r.Number(); n != 128 || e != api.OK || r.Left() != 1 || r.End() != api.ErrBytes {
		t.Errorf("second number: %d, %v, %d left", n, e, r.Left())
	}
	if is, e := r.Flag(); !is || e != api.OK || r.Left() != 0 || r.End() != api.OK {
		t.Errorf("flag: %v, %v, %d left", is, e, r.Left())
	}
	if n, e := r.Number(); n != 0 || e != api.ErrBytes || r.End() != api.OK {
		t.Errorf("behind the end: %d, %v", n, e)
	}
}

// P1.2
func TestEndAndLeftChangeNothing(t *testing.T) {
	r := open("\x07\x08")
	for range 3 {
		r.Left()
		r.End()
	}
	if n, e := r.Number(); n != 7 || e != api.OK {
		t.Errorf("the number is %d, %v", n, e)
	}
}

// P1.2
func TestReaderHasTheBytesAsTheyWere(t *testing.T) {
	in := roomy("\x05\x02ab")
	r := wire.Open(in)
	copy(in, "\xff\xff\xff\xff")
	if n, e := r.Number(); n != 5 || e != api.OK {
		t.Errorf("the number is %d, %v", n, e)
	}
	if b, e := r.Bytes(2); string(b) != "ab" || e != api.OK {
		t.Errorf("the bytes are %q, %v", b, e)
	}
	if string(in) != "\xff\xff\xff\xff" {
		t.Errorf("what was handed in is % x", in)
	}
}

// P1.2 to P1.4
func TestReadersThatAreNone(t *testing.T) {
	for name, r := range absent() {
		if n := r.Left(); n != 0 {
			t.Errorf("%s: Left is %d", name, n)
		}
		if e := r.End(); e != api.ErrNil {
			t.Errorf("%s: End is %v", name, e)
		}
		if n, e := r.Number(); n != 0 || e != api.ErrNil {
			t.Errorf("%s: Number is %d, %v", name, n, e)
		}
		if n, e := r.Signed(); n != 0 || e != api.ErrNil {
			t.Errorf("%s: Signed is %d, %v", name, n, e)
		}
		if is, e := r.Flag(); is || e != api.ErrNil {
			t.Errorf("%s: Flag is %v, %v", name, is, e)
		}
		for _, most := range []int{-1, 0, 9} {
			if b, e := r.Bytes(most); len(b) != 0 || e != api.ErrNil {
				t.Errorf("%s: Bytes(%d) is %q, %v", name, most, b, e)
			}
			if l, e := wire.Take(r, most, (*wire.Reader).Number); len(l) != 0 || e != api.ErrNil {
				t.Errorf("%s: Take(%d) is %v, %v", name, most, l, e)
			}
			if l, e := wire.Take[int](r, most, nil); len(l) != 0 || e != api.ErrNil {
				t.Errorf("%s: Take(%d) without a function is %v, %v", name, most, l, e)
			}
		}
	}
}

// P1.3
func TestNumbersAreRead(t *testing.T) {
	for _, n := range edges() {
		r := wire.Open(append(wire.Number(n), 0x80, 7))
		if got, e := r.Number(); got != n || e != api.OK || r.Left() != 2 {
			t.Errorf("Number of %d is %d, %v, %d left", n, got, e, r.Left())
		}
	}
	for _, n := range signedEdges() {
		r := wire.Open(append(wire.Signed(n), 0x80, 7))
		if got, e := r.Signed(); got != n || e != api.OK || r.Left() != 2 {
			t.Errorf("Signed of %d is %d, %v, %d left", n, got, e, r.Left())
		}
	}
}

// noNumbers are bytes that do not begin with a number.
func noNumbers() []string {
	nine := strings.Repeat("\xff", 9)
	l := []string{
		"", "\x80", "\xff", "\xff\x80", // cut short
		nine, strings.Repeat("\x80", 9),
		"\x80\x00", "\xff\x00", "\x80\x80\x00", "\xff\xff\xff\x00", // a needless last digit
		nine + "\x00", strings.Repeat("\x80", 9) + "\x00",
		nine + "\x02", nine + "\x03", nine + "\x7f", // above 2^64 - 1
		strings.Repeat("\x80", 9) + "\x02",
		nine + "\x80", nine + "\x81", nine + "\xff", // more than ten digits
		nine + "\x80\x00", nine + "\x81\x00", nine + "\x80\x01", nine + "\xff\x01",
		strings.Repeat("\x80", 10) + "\x01", strings.Repeat("\x80", 100) + "\x01",
	}
	for size := 1; size < 10; size++ { // each form of 2^64 - 1 that is cut short
		l = append(l, strings.Repeat("\xff", size))
	}
	return l
}

// P1.3
func TestNoNumbers(t *testing.T) {
	for _, s := range noNumbers() {
		r := open(s)
		if n, e := r.Number(); n != 0 || e != api.ErrBytes || r.Left() != len(s) {
			t.Errorf("Number of % x is %d, %v, %d left", s, n, e, r.Left())
		}
		if n, e := r.Signed(); n != 0 || e != api.ErrBytes || r.Left() != len(s) {
			t.Errorf("Signed of % x is %d, %v, %d left", s, n, e, r.Left())
		}
		if b, e := r.Bytes(math.MaxInt); len(b) != 0 || e != api.ErrBytes || r.Left() != len(s) {
			t.Errorf("Bytes of % x is %q, %v, %d left", s, b, e, r.Left())
		}
		if l, e := wire.Take(r, math.MaxInt, (*wire.Reader).Flag); len(l) != 0 || e != api.ErrBytes || r.Left() != len(s) {
			t.Errorf("Take of % x is %v, %v, %d left", s, l, e, r.Left())
		}
	}
}

// P1.3
func TestFlagsAreRead(t *testing.T) {
	r := open("\x01\x00\x02")
	for _, want := range []bool{true, false} {
		if is, e := r.Flag(); is != want || e != api.OK {
			t.Errorf("Flag is %v, %v, want %v", is, e, want)
		}
	}
	if is, e := r.Flag(); is || e != api.ErrBytes || r.Left() != 1 {
		t.Errorf("Flag of 2 is %v, %v, %d left", is, e, r.Left())
	}
	for b := 2; b < 256; b++ {
		r := wire.Open([]byte{byte(b), 1})
		if is, e := r.Flag(); is || e != api.ErrBytes || r.Left() != 2 {
			t.Errorf("Flag of %d is %v, %v, %d left", b, is, e, r.Left())
		}
	}
	if is, e := open("").Flag(); is || e != api.ErrBytes {
		t.Errorf("Flag of nothing is %v, %v", is, e)
	}
}

// P1.3
func TestBytesAreRead(t *testing.T) {
	greatest := string(wire.Number(math.MaxInt))
	beyond := string(wire.Number(math.MaxInt + 1))
	for _, x := range []struct {
		from string
		most int
		want string
		e    api.Errno
		left int
	}{
		{"\x02abc", 2, "ab", api.OK, 1}, // a most that is just enough
		{"\x02abc", 3, "ab", api.OK, 1},
		{"\x02abc", math.MaxInt, "ab", api.OK, 1},
		{"\x02ab", 2, "ab", api.OK, 0},
		{"\x02ab", 1, "", api.ErrLong, 3}, // one too few
		{"\x02ab", 0, "", api.ErrLong, 3},
		{"\x02ab", -1, "", api.ErrArg, 3},
		{"\x02ab", math.MinInt, "", api.ErrArg, 3},
		{"\x00a", 0, "", api.OK, 1},
		{"\x00", 5, "", api.OK, 0},
		{"\x01", 0, "", api.ErrLong, 1},
		{"\x00", -1, "", api.ErrArg, 1},
		{"", -1, "", api.ErrArg, 0}, // ErrArg comes ahead of ErrBytes
		{"\x80\x00", -1, "", api.ErrArg, 2},
		{"", 0, "", api.ErrBytes, 0},
		{"\x80\x00", 0, "", api.ErrBytes, 2},
		{"\x02a", 2, "", api.ErrBytes, 2}, // fewer than it says
		{"\x02a", 9, "", api.ErrBytes, 2},
		{"\x02", 2, "", api.ErrBytes, 1},
		{"\x03a", 2, "", api.ErrLong, 2}, // ErrLong comes ahead of that there are fewer
		{greatest + "a", math.MaxInt, "", api.ErrBytes, len(greatest) + 1},
		{greatest + "a", math.MaxInt - 1, "", api.ErrLong, len(greatest) + 1},
		{beyond + "a", math.MaxInt, "", api.ErrLong, len(beyond) + 1},
		{string(wire.Number(math.MaxUint64)), math.MaxInt, "", api.ErrLong, 10},
	} {
		r := open(x.from)
		if b, e := r.Bytes(x.most); string(b) != x.want || e != x.e || r.Left() != x.left {
			t.Errorf("Bytes(%d) of % x is %q, %v, %d left, want %q, %v, %d", x.most, x.from, b, e, r.Left(), x.want, x.e, x.left)
		}
	}
}

// P1.3
func TestBytesAreNewMemory(t *testing.T) {
	r := open("\x02ab\x02cd")
	again := *r
	first, _ := r.Bytes(2)
	clear(first[:cap(first)])
	second, e := r.Bytes(2)
	if string(second) != "cd" || e != api.OK {
		t.Errorf("the second bytes are %q, %v", second, e)
	}
	if b, e := again.Bytes(2); string(b) != "ab" || e != api.OK {
		t.Errorf("read again, the first bytes are %q, %v", b, e)
	}
}

// P1.3: where a reader stays beside an error, what stands there can be read as another kind.
func TestReadsAfterAnError(t *testing.T) {
	r := open("\x02ab")
	if _, e := r.Flag(); e != api.ErrBytes {
		t.Errorf("Flag is %v", e)
	}
	if _, e := r.Bytes(1); e != api.ErrLong {
		t.Errorf("Bytes(1) is %v", e)
	}
	if b, e := r.Bytes(2); string(b) != "ab" || e != api.OK || r.End() != api.OK {
		t.Errorf("Bytes(2) is %q, %v", b, e)
	}
}

// P1.4
func TestTake(t *testing.T) {
	for _, x := range []struct {
		from string
		most int
		want []uint64
		e    api.Errno
		left int
	}{
		{"\x02\x05\x80\x01", 9, []uint64{5, 128}, api.OK, 0},
		{"\x02\x05\x80\x01\x07", 2, []uint64{5, 128}, api.OK, 1},
		{"\x02\x05\x80\x01", math.MaxInt, []uint64{5, 128}, api.OK, 0},
		{"\x02\x05\x80\x01", 1, nil, api.ErrLong, 4},
		{"\x02\x05\x80\x01", 0, nil, api.ErrLong, 4},
		{"\x02\x05\x80\x01", -1, nil, api.ErrArg, 4},
		{"\x02\x05\x80\x01", math.MinInt, nil, api.ErrArg, 4},
		{"\x00\x05", 0, nil, api.OK, 1},
		{"\x00", 3, nil, api.OK, 0},
		{"", -1, nil, api.ErrArg, 0},
		{"", 0, nil, api.ErrBytes, 0},
		{"\x80\x00", 9, nil, api.ErrBytes, 2},
		{"\x02", 2, nil, api.ErrBytes, 1},
		{"\x02\x05", 2, nil, api.ErrBytes, 2},
		{"\x02\x05\x80", 2, nil, api.ErrBytes, 3},
		{"\x02\x05\x80\x00", 2, nil, api.ErrBytes, 4},
		{"\x03\x05", 2, nil, api.ErrLong, 2},
		{string(wire.Number(math.MaxInt)) + "\x05", math.MaxInt, nil, api.ErrBytes, 10},
		{string(wire.Number(math.MaxInt+1)) + "\x05", math.MaxInt, nil, api.ErrLong, 11},
		{string(wire.Number(math.MaxUint64)) + "\x05", math.MaxInt, nil, api.ErrLong, 11},
	} {
		r := open(x.from)
		if l, e := wire.Take(r, x.most, (*wire.Reader).Number); !slices.Equal(l, x.want) || e != x.e || r.Left() != x.left {
			t.Errorf("Take(%d) of % x is %v, %v, %d left, want %v, %v, %d", x.most, x.from, l, e, r.Left(), x.want, x.e, x.left)
		}
	}
}

// P1.4
func TestTakeWithoutFunction(t *testing.T) {
	for _, most := range []int{-1, 0, 9} {
		r := open("\x00\x01")
		if l, e := wire.Take[int](r, most, nil); len(l) != 0 || e != api.ErrNil || r.Left() != 2 {
			t.Errorf("Take(%d) without a function is %v, %v, %d left", most, l, e, r.Left())
		}
	}
}

// P1.4
func TestTakeCallsWithThisReader(t *testing.T) {
	r := open("\x03\x0a\x0b\x0c\x0d")
	var lefts []int
	l, e := wire.Take(r, 3, func(q *wire.Reader) (uint64, api.Errno) {
		if q != r {
			t.Error("one is called with another reader")
		}
		lefts = append(lefts, q.Left())
		return q.Number()
	})
	if !slices.Equal(l, []uint64{10, 11, 12}) || e != api.OK || !slices.Equal(lefts, []int{4, 3, 2}) || r.Left() != 1 {
		t.Errorf("Take is %v, %v; one saw %v left; %d are left", l, e, lefts, r.Left())
	}
}

// P1.4
func TestTakeEndsByTheFirstError(t *testing.T) {
	for _, wrong := range []api.Errno{api.ErrNil, api.ErrFull, api.ErrCorrupt} {
		r := open("\x04\x01\x02\x03\x04")
		called := 0
		l, e := wire.Take(r, 4, func(q *wire.Reader) (uint64, api.Errno) {
			called++
			n, e := q.Number()
			if n == 3 {
				return n, wrong
			}
			return n, e
		})
		if len(l) != 0 || e != wrong || called != 3 || r.Left() != 5 {
			t.Errorf("Take is %v, %v, by %d calls, %d left", l, e, called, r.Left())
		}
		if l, e := wire.Take(r, 4, (*wire.Reader).Number); len(l) != 4 || e != api.OK {
			t.Errorf("taken again: %v, %v", l, e)
		}
	}
}

// P1.4: the count alone says how often one is called.
func TestTakeOfThingsWithoutBytes(t *testing.T) {
	r := open("\x03\x07")
	l, e := wire.Take(r, 3, func(*wire.Reader) (struct{}, api.Errno) { return struct{}{}, api.OK })
	if len(l) != 3 || e != api.OK || r.Left() != 1 {
		t.Errorf("Take is %v, %v, %d left", l, e, r.Left())
	}
	called := 0
	for _, s := range []string{"\x00", "\x04", "", "\x80"} {
		wire.Take(open(s), 3, func(*wire.Reader) (int, api.Errno) {
			called++
			return 0, api.OK
		})
	}
	if called != 0 {
		t.Errorf("one is called %d times for nothing", called)
	}
}

// P1.4: one may go wherever it likes: beside an error the reader is back.
func TestTakeFromAReaderThatOneReplaces(t *testing.T) {
	r := open("\x02\x07\x08")
	_, e := wire.Take(r, 2, func(q *wire.Reader) (int, api.Errno) {
		*q = wire.Reader{}
		_, e := q.Number()
		return 0, e
	})
	if e != api.ErrNil || r.Left() != 3 {
		t.Errorf("Take is %v, %d left", e, r.Left())
	}
	if n, e := r.Number(); n != 2 || e != api.OK {
		t.Errorf("the reader is at %d, %v", n, e)
	}
}

func numbers(r *wire.Reader) ([]uint64, api.Errno) { return wire.Take(r, 9, (*wire.Reader).Number) }

// P1.4
func TestTakeOfLists(t *testing.T) {
	r := open("\x03\x01\x05\x00\x02\x06\x07")
	l, e := wire.Take(r, 3, numbers)
	if len(l) != 3 || !slices.Equal(l[0], []uint64{5}) || len(l[1]) != 0 || !slices.Equal(l[2], []uint64{6, 7}) || e != api.OK {
		t.Errorf("lists are %v, %v", l, e)
	}
	r = open("\x02\x01\x05\x02\x06")
	if l, e := wire.Take(r, 3, numbers); len(l) != 0 || e != api.ErrBytes || r.Left() != 5 {
		t.Errorf("lists that are cut short are %v, %v, %d left", l, e, r.Left())
	}
	r = open("\x02\x01\x05\x0a\x06")
	if l, e := wire.Take(r, 3, numbers); len(l) != 0 || e != api.ErrLong || r.Left() != 5 {
		t.Errorf("lists of which one is long are %v, %v, %d left", l, e, r.Left())
	}
}

// P1.4: no two lists of an answer share memory.
func TestTakenBytesAreApart(t *testing.T) {
	r := open("\x02\x02ab\x02cd")
	l, _ := wire.Take(r, 2, func(r *wire.Reader) ([]byte, api.Errno) { return r.Bytes(2) })
	l[0] = append(l[0], "xyz"...)
	if !bytes.Equal(l[1], []byte("cd")) {
		t.Errorf("the second one is %q", l[1])
	}
}
