package message_test

import (
	"math"
	"slices"
	"strings"
	"testing"

	"millpond/api"
)

// apart are a form's parts ahead of one of them, that, and those behind it.
func apart(parts []string, at int) (ahead, one, behind string) {
	return strings.Join(parts[:at], ""), parts[at], strings.Join(parts[at+1:], "")
}

// tooLong is a number's form with a digit that is needless.
func tooLong(form string) string {
	last := len(form) - 1
	return form[:last] + string([]byte{form[last] | 128, 0})
}

// greatest are forms of numbers that no field has, up to what is no form any more.
func greatest() []string {
	l := []string{num(1<<62 + 1), num(math.MaxInt64), num(1 << 63), num(1<<63 + 1), num(math.MaxUint64 - 1), num(math.MaxUint64)}
	return append(l, strings.Repeat("\xff", 9)+"\x02", strings.Repeat("\x80", 10)+"\x01", strings.Repeat("\xff", 20), "\x80")
}

// P18.1: nothing, and kinds that are none.
func TestReadOfNothing(t *testing.T) {
	reads(t, "nothing", "", api.ErrBytes)
	for _, k := range []uint64{0, 14, 15, 127, 128, 141, 256 + 1, 1<<32 + 1, 1<<63 + 1, math.MaxUint64} {
		for _, behind := range []string{"", "\x01", "\x01\x01", "\x01\x01\x01", "\x01\x01\x01\x01\x00\x00"} {
			reads(t, "no kind", num(k)+behind, api.ErrBytes)
		}
	}
}

// P18.1: forms that are cut short at each byte, and forms with one byte more at each place behind which nothing is.
func TestReadOfFormsCutShort(t *testing.T) {
	for _, k := range kindsByWords() {
		whole := strings.Join(partsByWords(plain(k)), "")
		lies(t, plain(k), whole)
		for size := range len(whole) {
			reads(t, "cut short", whole[:size], api.ErrBytes)
		}
		for c := range 256 {
			reads(t, "one byte more", whole+string([]byte{byte(c)}), api.ErrBytes)
		}
		reads(t, "twice", whole+whole, api.ErrBytes)
	}
}

// P18.1: numbers in forms too long.
func TestReadOfNumbersTooLong(t *testing.T) {
	for _, k := range kindsByWords() {
		parts := partsByWords(plain(k))
		names := "K" + fieldsByWords[k]
		for at := range parts {
			ahead, one, behind := apart(parts, at)
			switch names[at] {
			case 'B': // how many bytes there are is a number, too
				reads(t, "a body's size too long", ahead+tooLong(one[:1])+one[1:], api.ErrBytes)
			default:
				reads(t, "too long", ahead+tooLong(one)+behind, api.ErrBytes)
			}
		}
	}
}

// P18.1: numbers beyond their bounds.
func TestReadOfNumbersBeyondTheirBounds(t *testing.T) {
	beyond := map[byte][]uint64{
		'K': {0, 14, 256 + 7, 1<<32 + 7},
		'P': {16, 17, 127, 128, 256, 1 << 32, 1<<32 + 1},
		'O': {0, 1<<62 + 2},
		'M': {0, 3, 4, 257, 1<<32 + 1},
		'T': {8, 9, 256, 1 << 32, 1<<32 + 1},
		'V': {1 << 31, 1<<31 + 1, 1 << 32, 1<<32 + 1, 1 << 62},
		'D': {2, 3, 127, 128, 256, 257},
		'B': {97, 98, 127, 128, 256, 1 << 32, 1<<32 + 4},
	}
	for _, k := range kindsByWords() {
		parts := partsByWords(plain(k))
		names := "K" + fieldsByWords[k]
		for at := range parts {
			ahead, one, behind := apart(parts, at)
			var forms []string
			for _, n := range beyond[names[at]] {
				forms = append(forms, num(n))
			}
			for _, form := range append(forms, greatest()...) {
				if names[at] == 'B' {
					form += one[1:]
				}
				reads(t, "beyond", ahead+form+behind, api.ErrBytes)
			}
		}
	}
}

// P18.1: what stands for a number that a kind bounds further: PSN 0.
func TestReadOfTheVersionZero(t *testing.T) {
	reads(t, "Wrote", "\x0a\x01\x01\x00", api.ErrBytes)
	reads(t, "Discard", "\x0d\x01\x00", api.ErrBytes)
	reads(t, "Image with a body", "\x07\x01\x01\x01\x00\x00\x01x", api.ErrBytes)
	reads(t, "Image with a nought", "\x07\x01\x01\x01\x00\x00\x01\x00", api.ErrBytes)
	lies(t, api.Message{Kind: api.MessageImage, Page: 1, Op: 1, Mode: api.Shared}, "\x07\x01\x01\x01\x00\x00\x00")
}

// P18.1: flags that are none.
func TestReadOfFlags(t *testing.T) {
	for c := range 256 {
		s := "\x07\x01\x01\x01\x05" + string([]byte{byte(c)}) + "\x01x"
		if c > 1 {
			reads(t, "no flag", s, api.ErrBytes)
			continue
		}
		lies(t, api.Message{Kind: api.MessageImage, Page: 1, Op: 1, Mode: api.Shared, PSN: 5, Dirty: c == 1, Body: body("x")}, s)
	}
}

// P18.1: bodies that end in a nought, are too long, or have less than they say.
func TestReadOfBodies(t *testing.T) {
	head := "\x07\x01\x01\x01\x05\x01"
	for _, s := range []string{"\x01\x00", "\x02\x00\x00", "\x02x\x00", "\x03x\x00\x00", "\x03\x00x\x00", "\x60" + strings.Repeat("x", 95) + "\x00", "\x60" + strings.Repeat("\x00", 96)} {
		reads(t, "noughts at the end", head+s, api.ErrBytes)
	}
	for _, s := range []string{"\x61" + strings.Repeat("x", 97), "\x61" + strings.Repeat("x", 96) + "\x00", "\x7f" + strings.Repeat("x", 127), "\x80\x01" + strings.Repeat("x", 128)} {
		reads(t, "too long a body", head+s, api.ErrBytes)
	}
	for _, s := range []string{"", "\x01", "\x02x", "\x60" + strings.Repeat("x", 95), "\x80", "\x61x"} {
		reads(t, "less than it says", head+s, api.ErrBytes)
	}
	for _, s := range []string{"\x00", "\x01x", "\x02\x00x", "\x60" + strings.Repeat("x", 96)} {
		lies(t, api.Message{Kind: api.MessageImage, Page: 1, Op: 1, Mode: api.Shared, PSN: 5, Dirty: true, Body: body(s[1:])}, head+s)
	}
}

// P18.1: ErrLong ahead of ErrBytes: MaxMessage bytes, and one more, whatever they are.
func TestReadOfManyBytes(t *testing.T) {
	for _, k := range kindsByWords() {
		whole := strings.Join(partsByWords(plain(k)), "")
		for _, fill := range []string{"\x00", "\x01", "\x80", "\xff"} {
			behind := strings.Repeat(fill, 2*api.MaxMessage)
			for _, size := range []int{api.MaxMessage - 1, api.MaxMessage} {
				reads(t, "many", (whole + behind)[:size], api.ErrBytes)
				reads(t, "many", behind[:size], api.ErrBytes)
			}
			for _, size := range []int{api.MaxMessage + 1, api.MaxMessage + 2, 2 * api.MaxMessage} {
				reads(t, "too many", (whole + behind)[:size], api.ErrLong)
				reads(t, "too many", behind[:size], api.ErrLong)
			}
		}
	}
}

// P18.1: what was handed in stays as it was, with what stands behind it.
func TestReadChangesNothing(t *testing.T) {
	for _, k := range kindsByWords() {
		whole := strings.Join(partsByWords(plain(k)), "")
		b := []byte(whole + "behind")
		for size := range len(whole) + 1 {
			byWords(t, b[:size])
			if !slices.Equal(b, []byte(whole+"behind")) {
				t.Fatalf("% x", b)
			}
		}
	}
}
