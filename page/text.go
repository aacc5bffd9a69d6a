package page

import (
	"bytes"
	"iter"
	"strings"

	"millpond/api"
)

const (
	digits  = "0123456789ABCDEF"
	escape  = '%'
	noughts = "%" // a text has a byte at least, so that it is a word among others
)

// Text is a body as a text.
func Text(b api.Body) string {
	var text []byte
	for _, c := range bytes.TrimRight(b[:], "\x00") {
		if isPlain(c) {
			text = append(text, c)
		} else {
			text = append(text, escape, digits[c>>4], digits[c&15])
		}
	}
	if len(text) == 0 {
		return noughts
	}
	return string(text)
}

// Body is the body whose text this is.
func Body(s string) (api.Body, api.Errno) {
	if len(s) > 3*api.BodySize {
		return api.Body{}, api.ErrLong
	}
	var b api.Body
	size := 0
	for c := range meant(s) {
		if size == len(b) {
			return api.Body{}, api.ErrBytes
		}
		b[size] = c
		size++
	}
	if Text(b) != s { // any text means some bytes, but each body has one text alone
		return api.Body{}, api.ErrBytes
	}
	return b, api.OK
}

// meant goes over the bytes that a text means. Where it is no body's, it does not matter which: Body holds their text against it.
func meant(s string) iter.Seq[byte] {
	return func(yield func(byte) bool) {
		for i := 0; i < len(s); i++ {
			c := s[i]
			if c == escape {
				if len(s)-i < 3 {
					return
				}
				c = digit(s[i+1])<<4 | digit(s[i+2])
				i += 2
			}
			if !yield(c) {
				return
			}
		}
	}
}

func digit(c byte) byte { return byte(strings.IndexByte(digits, c)) }

func isPlain(c byte) bool { return c >= 33 && c <= 126 && c != escape }
