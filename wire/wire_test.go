package wire_test

import (
	"bytes"
	"math"
	"math/big"
	"slices"
	"testing"

	"millpond/api"
	"millpond/wire"
)

// edges are the numbers at which a form gets a digit more, and those beside them.
func edges() []uint64 {
	l := []uint64{0, 1, 2, 5, 64, 127, 128, 129, 255, 256, 300, math.MaxInt64, math.MaxInt64 + 1, math.MaxUint64 - 1, math.MaxUint64}
	for bit := 7; bit < 64; bit += 7 {
		l = append(l, 1<<bit-1, 1<<bit, 1<<bit+1)
	}
	return l
}

// signedEdges are those of the signed numbers.
func signedEdges() []int64 {
	l := []int64{0, 1, -1, 63, 64, -63, -64, -65, 8191, 8192, -8192, -8193, math.MaxInt64 - 1, math.MaxInt64, math.MinInt64 + 1, math.MinInt64}
	for bit := 6; bit < 63; bit += 7 {
		l = append(l, 1<<bit-1, 1<<bit, -1<<bit, -1<<bit-1)
	}
	return l
}

// digits is the form of a number by the chapter's words alone: digits to the base 128, the lowest first.
func digits(n *big.Int) []byte {
	base, rest, digit := big.NewInt(128), new(big.Int).Set(n), new(big.Int)
	var b []byte
	for {
		rest.DivMod(rest, base, digit)
		if rest.Sign() == 0 {
			return append(b, byte(digit.Int64()))
		}
		b = append(b, byte(digit.Int64())+128)
	}
}

// folded is the number whose form a signed one has: 2 n, or -2 n - 1.
func folded(n int64) *big.Int {
	double := new(big.Int).Mul(big.NewInt(2), big.NewInt(n))
	if n >= 0 {
		return double
	}
	return double.Sub(double.Neg(double), big.NewInt(1))
}

// P1.1
func TestFormsOfTheChapter(t *testing.T) {
	for _, x := range []struct {
		name, want string
		got        []byte
	}{
		{"Number(0)", "\x00", wire.Number(0)},
		{"Number(127)", "\x7f", wire.Number(127)},
		{"Number(128)", "\x80\x01", wire.Number(128)},
		{"Number(300)", "\xac\x02", wire.Number(300)},
		{"Number(16383)", "\xff\x7f", wire.Number(16383)},
		{"Number(16384)", "\x80\x80\x01", wire.Number(16384)},
		{"Number(2^64-1)", "\xff\xff\xff\xff\xff\xff\xff\xff\xff\x01", wire.Number(math.MaxUint64)},
		{"Signed(0)", "\x00", wire.Signed(0)},
		{"Signed(-1)", "\x01", wire.Signed(-1)},
		{"Signed(1)", "\x02", wire.Signed(1)},
		{"Signed(-64)", "\x7f", wire.Signed(-64)},
		{"Signed(64)", "\x80\x01", wire.Signed(64)},
		{"Signed(greatest)", "\xfe\xff\xff\xff\xff\xff\xff\xff\xff\x01", wire.Signed(math.MaxInt64)},
		{"Signed(least)", "\xff\xff\xff\xff\xff\xff\xff\xff\xff\x01", wire.Signed(math.MinInt64)},
		{"Flag(false)", "\x00", wire.Flag(false)},
		{"Flag(true)", "\x01", wire.Flag(true)},
		{"Bytes(ab)", "\x02ab", wire.Bytes([]byte("ab"))},
		{"Bytes(nil)", "\x00", wire.Bytes(nil)},
		{"Bytes(empty)", "\x00", wire.Bytes([]byte{})},
		{"Join()", "", wire.Join()},
		{"Join(nil)", "", wire.Join(nil, nil)},
		{"Join(a, none, bc)", "abc", wire.Join([]byte("a"), nil, []byte("bc"))},
	} {
		if string(x.got) != x.want {
			t.Errorf("%s is % x, want % x", x.name, x.got, x.want)
		}
	}
}

// P1.1
func TestNumbersHaveTheirDigits(t *testing.T) {
	for _, n := range edges() {
		if got, want := wire.Number(n), digits(new(big.Int).SetUint64(n)); !bytes.Equal(got, want) {
			t.Errorf("Number(%d) is % x, want % x", n, got, want)
		}
	}
	for _, n := range signedEdges() {
		if got, want := wire.Signed(n), digits(folded(n)); !bytes.Equal(got, want) {
			t.Errorf("Signed(%d) is % x, want % x", n, got, want)
		}
	}
}

// P1.1
func TestBytesOfManySizes(t *testing.T) {
	for _, size := range []int{1, 127, 128, 16384} {
		b := bytes.Repeat([]byte{0x80}, size)
		want := append(wire.Number(uint64(size)), b...)
		if got := wire.Bytes(b); !bytes.Equal(got, want) {
			t.Errorf("Bytes of %d has %d bytes, and begins with % x", size, len(got), got[:3])
		}
	}
}

type pair struct {
	first  uint64
	second bool
}

func (p pair) form() []byte { return wire.Join(wire.Number(p.first), wire.Flag(p.second)) }

// P1.1
func TestPut(t *testing.T) {
	if b, e := wire.Put([]pair{{300, true}, {0, false}}, pair.form); string(b) != "\x02\xac\x02\x01\x00\x00" || e != api.OK {
		t.Errorf("Put of pairs is % x, %v", b, e)
	}
	if b, e := wire.Put([]int64{1, -1, 0}, wire.Signed); string(b) != "\x03\x02\x01\x00" || e != api.OK {
		t.Errorf("Put of signed numbers is % x, %v", b, e)
	}
	for _, l := range [][]uint64{nil, {}} {
		if b, e := wire.Put(l, wire.Number); string(b) != "\x00" || e != api.OK {
			t.Errorf("Put of no numbers is % x, %v", b, e)
		}
	}
	if b, e := wire.Put([]int{7, 8}, func(int) []byte { return nil }); string(b) != "\x02" || e != api.OK {
		t.Errorf("Put of things without bytes is % x, %v", b, e)
	}
	many := make([]bool, 128)
	if b, e := wire.Put(many, wire.Flag); len(b) != 130 || b[0] != 0x80 || b[1] != 1 || e != api.OK {
		t.Errorf("Put of 128 flags is % x, %v", b, e)
	}
}

// P1.1
func TestPutAsksInOrderAndOnce(t *testing.T) {
	var asked []int
	_, e := wire.Put([]int{3, 1, 2}, func(n int) []byte {
		asked = append(asked, n)
		return nil
	})
	if !slices.Equal(asked, []int{3, 1, 2}) || e != api.OK {
		t.Errorf("Put asked of %v, %v", asked, e)
	}
}

// P1.1
func TestPutWithoutFunction(t *testing.T) {
	for _, l := range [][]int{nil, {}, {1, 2}} {
		if b, e := wire.Put(l, nil); len(b) != 0 || e != api.ErrNil {
			t.Errorf("Put of %v without a function is % x, %v", l, b, e)
		}
	}
}

// roomy is bytes with room behind them, into which a careless append would write.
func roomy(s string) []byte { return append(make([]byte, 0, 64), s...) }

// P1.1: what is handed in is neither changed nor kept.
func TestFormsAreNewMemory(t *testing.T) {
	for name, form := range map[string]func([]byte) []byte{
		"Bytes": wire.Bytes,
		"Join":  func(b []byte) []byte { return wire.Join(b) },
		"Join of an empty one and it": func(b []byte) []byte {
			return wire.Join([]byte{}, b, []byte("end"))
		},
		"Put": func(b []byte) []byte {
			out, _ := wire.Put([][]byte{b, b}, func(b []byte) []byte { return b })
			return out
		},
	} {
		in := roomy("abc")
		out := form(in)
		was := bytes.Clone(out)
		if string(in) != "abc" || !bytes.Equal(in[:cap(in)][3:], make([]byte, cap(in)-3)) {
			t.Errorf("%s changed what it was handed: %q", name, in[:cap(in)])
		}
		copy(in, "xyz")
		if !bytes.Equal(out, was) {
			t.Errorf("%s kept what it was handed: %q, then %q", name, was, out)
		}
		clear(out[:cap(out)])
		if string(in) != "xyz" {
			t.Errorf("%s answered what it was handed", name)
		}
	}
}

// P1.1: a form that fills one buffer again and again is taken as it was at each answer.
func TestPutOfOneBuffer(t *testing.T) {
	buffer := make([]byte, 1)
	b, e := wire.Put([]byte{5, 6, 7}, func(n byte) []byte {
		buffer[0] = n
		return buffer
	})
	if string(b) != "\x03\x05\x06\x07" || e != api.OK {
		t.Errorf("Put is % x, %v", b, e)
	}
}
