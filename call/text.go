package call

import (
	"strconv"
	"strings"

	"millpond/api"
)

const (
	maxText = 512
	blank   = " "
	digits  = "0123456789ABCDEF"
	escape  = "%"
	nothing = "%" // no bytes are a word, too
)

// Text is a call as a text.
func Text(c api.Call) (string, api.Errno) {
	if !mayBe(c, api.MaxPages) {
		return "", api.ErrArg
	}
	k := of(c.Kind)
	text := k.word
	if k.page {
		text += blank + strconv.Itoa(c.Page)
	}
	if k.body {
		text += blank + word(c.Body)
	}
	return text, api.OK
}

// Parse is the call whose text this is.
func Parse(s string) (api.Call, api.Errno) {
	if len(s) > maxText {
		return api.Call{}, api.ErrLong
	}
	c := meant(s)
	if text, wrong := Text(c); wrong != api.OK || text != s { // any text means some call, but each call has one text alone
		return api.Call{}, api.ErrBytes
	}
	return c, api.OK
}

// meant is the call that a text means. Where it is no call's, it does not matter which: Parse holds that one's text against it.
func meant(s string) api.Call {
	next := wordsOf(s)
	c := api.Call{Kind: kindOf(next())}
	k := of(c.Kind)
	if k.page {
		c.Page, _ = strconv.Atoi(next())
	}
	if k.body {
		c.Body = bytesOf(next())
	}
	return c
}

// wordsOf tells a text's words, one each time it is asked; behind the last one empty ones.
func wordsOf(s string) func() string {
	left := s
	return func() string {
		word, rest, _ := strings.Cut(left, blank)
		left = rest
		return word
	}
}

// kindOf is the kind whose calls begin with a word; 0, if there is none.
func kindOf(word string) api.CallKind {
	var found api.CallKind
search:
	for k, known := range kinds() {
		if known.word == word {
			found = api.CallKind(k)
			break search
		}
	}
	return found
}

// word is bytes as a word.
func word(b []byte) string {
	if len(b) == 0 {
		return nothing
	}
	var w strings.Builder
	for _, c := range b {
		if isPlain(c) {
			w.WriteByte(c)
		} else {
			w.WriteString(escape)
			w.WriteByte(digits[c/16])
			w.WriteByte(digits[c%16])
		}
	}
	return w.String()
}

// bytesOf is the bytes that a word means.
func bytesOf(word string) []byte {
	pieces := strings.Split(word, escape)
	b := []byte(pieces[0])
	for _, piece := range pieces[1:] { // each of them begins with two digits, or the word is none
		if len(piece) > 1 {
			n, _ := strconv.ParseUint(piece[:2], 16, 8)
			b = append(b, byte(n))
			piece = piece[2:]
		}
		b = append(b, piece...)
	}
	return b
}

func isPlain(c byte) bool { return c > ' ' && c <= '~' && c != escape[0] }
