// Package wire is layer 1: numbers, flags, texts and lists as bytes, in one form each, and these read again. See shared/doc/01-wire.md.
package wire

import "millpond/api"

const (
	digitBits  = 7
	more       = 1 << digitBits // added to each digit but the last one
	mostDigits = 10
	topDigit   = 1 // the greatest tenth digit: 64 bits are nine digits and one bit
)

// Number is the form of a number.
func Number(n uint64) []byte {
	var b []byte
	for ; n >= more; n >>= digitBits {
		b = append(b, more+byte(n%more))
	}
	return append(b, byte(n))
}

// Signed is the form of a signed number.
func Signed(n int64) []byte {
	double := uint64(n) << 1
	if n < 0 {
		return Number(^double) // -2 n - 1, which wraps round at no n
	}
	return Number(double)
}

// Flag is the form of a flag.
func Flag(is bool) []byte {
	if is {
		return []byte{1}
	}
	return []byte{0}
}

// Bytes is the form of bytes.
func Bytes(b []byte) []byte { return Join(Number(uint64(len(b))), b) }

// Join is all bytes, one behind the other.
func Join(l ...[]byte) []byte {
	var all []byte
	for _, b := range l {
		all = append(all, b...)
	}
	return all
}

// Put is the form of a list whose things have the form that is handed in.
func Put[T any](l []T, form func(T) []byte) ([]byte, api.Errno) {
	if form == nil {
		return nil, api.ErrNil
	}
	b := Number(uint64(len(l)))
	for _, x := range l {
		b = append(b, form(x)...)
	}
	return b, api.OK
}
