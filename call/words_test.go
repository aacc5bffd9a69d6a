package call_test

import (
	"fmt"
	"math/rand"
	"regexp"
	"slices"
	"strconv"
	"testing"

	"millpond/api"
	"millpond/call"
)

// textForm is the form of all texts, by the chapter's words; but that a page's number and bytes stand in it, it tells nothing of what they mean.
var textForm = regexp.MustCompile(`^(?:read (\d|1[0-5])|write (\d|1[0-5]) (%|(?:[!-$&-~]|%(?:[01][0-9A-F]|2[05]|7F|[89A-F][0-9A-F])){1,96})|sync|checkpoint)$`)

// parseByWords is what a text is by the chapter's words.
func parseByWords(s string) (api.Call, api.Errno) {
	if len(s) > 512 {
		return api.Call{}, api.ErrLong
	}
	form := textForm.FindStringSubmatch(s)
	if form == nil {
		return api.Call{}, api.ErrBytes
	}
	kinds := map[byte]api.CallKind{'r': 1, 'w': 2, 's': 3, 'c': 4}
	c := api.Call{Kind: kinds[s[0]]}
	c.Page, _ = strconv.Atoi(form[1] + form[2])
	c.Body = bytesByWords(form[3])
	return c, api.OK
}

// bytesByWords is what a word means that is bytes as a word.
func bytesByWords(word string) []byte {
	var b []byte
	for word != "" && word != "%" {
		c, size := word[0], 1
		if c == '%' {
			n, _ := strconv.ParseUint(word[1:3], 16, 8)
			c, size = byte(n), 3
		}
		b, word = append(b, c), word[size:]
	}
	return b
}

// wordByWords is bytes as a word.
func wordByWords(s string) string {
	word := ""
	for _, c := range []byte(s) {
		if c >= 33 && c <= 126 && c != '%' {
			word += string(rune(c))
		} else {
			word += fmt.Sprintf("%%%02X", c)
		}
	}
	if word == "" {
		return "%"
	}
	return word
}

// mayByWords tells by the chapter's words whether a call may be, of so many pages.
func mayByWords(c api.Call, pages int) bool {
	page := c.Page >= 0 && c.Page <= pages-1
	switch c.Kind {
	case 1:
		return page && len(c.Body) == 0
	case 2:
		return page && len(c.Body) <= 96
	case 3, 4:
		return c.Page == 0 && len(c.Body) == 0
	}
	return false
}

// textByWords is the text of a call that may be.
func textByWords(c api.Call) string {
	switch c.Kind {
	case 1:
		return fmt.Sprintf("read %d", c.Page)
	case 2:
		return fmt.Sprintf("write %d %s", c.Page, wordByWords(string(c.Body)))
	case 3:
		return "sync"
	}
	return "checkpoint"
}

// byWords fails unless a text is read as the chapter's words say, and what is read has it as its text.
func byWords(t *testing.T, s string) {
	t.Helper()
	c, e := call.Parse(s)
	if want, wrong := parseByWords(s); !same(c, want) || e != wrong {
		t.Fatalf("Parse(%q): %+v, %v; not %+v, %v", s, c, e, want, wrong)
	}
	if again, wrong := call.Text(c); e == api.OK && (again != s || wrong != api.OK) {
		t.Fatalf("Text of Parse(%q): %q, %v", s, again, wrong)
	}
}

// P19.1, P19.4, P0.11: calls of all kinds, of all pages, and of bodies of many kinds, there and back.
func TestAllTexts(t *testing.T) {
	of := map[string]api.Call{}
	for _, c := range some() {
		s := textByWords(c)
		told(t, c, s)
		byWords(t, s)
		if other, is := of[s]; is {
			t.Errorf("%q is of %+v and %+v", s, c, other)
		}
		of[s] = c
	}
	if len(of) < 500 {
		t.Error(len(of))
	}
}

// P19.1, P0.9: each text cut short at each byte, and with a byte more at each place.
func TestTextsNearEachText(t *testing.T) {
	for _, c := range append(four(), read(0), read(1), read(15), write(15, "a b\x00"), write(1, ""), write(0, "%"), write(1, "\x00")) {
		s := textByWords(c)
		for at := range len(s) {
			byWords(t, s[:at])
			byWords(t, s[at:])
			byWords(t, s[:at]+s[at+1:])
			for n := range 256 {
				letter := string([]byte{byte(n)})
				byWords(t, s[:at]+letter+s[at:])
				byWords(t, s[:at]+letter+s[at+1:])
			}
		}
		for n := range 256 {
			byWords(t, s+string([]byte{byte(n)}))
		}
	}
}

// P19.1, P0.9: all texts of few letters.
func TestAllTextsOfFewLetters(t *testing.T) {
	var grow func(s, letters string, more int)
	grow = func(s, letters string, more int) {
		byWords(t, s)
		if more > 0 {
			for i := range len(letters) {
				grow(s+letters[i:i+1], letters, more-1)
			}
		}
	}
	grow("", "rsw 0%", 4)
	grow("read", " 0159+-", 4)
	grow("write", " 01%2a", 5)
	grow("write 1 ", " 0%2AaF", 5)
	grow("sync", " %0s", 3)
	grow("checkpoint", " %0c", 3)
}

// P19.1, P0.9: each two bytes behind a '%', and each byte alone.
func TestAllEscapes(t *testing.T) {
	for a := range 256 {
		byWords(t, "write 3 "+string([]byte{byte(a)}))
		byWords(t, "write 3 x%"+string([]byte{byte(a)}))
		for b := range 256 {
			byWords(t, "write 3 %"+string([]byte{byte(a), byte(b)}))
		}
	}
}

// near is a text, a few of whose bytes are others, are gone, or are new.
func near(r *rand.Rand, s string) string {
	b := []byte(s)
	for range r.Intn(3) {
		at := r.Intn(len(b) + 1)
		c := []byte{' ', '%', '0', '1', '2', '9', 'A', 'a', 'F', 'f', '+', '-', 0, 127, 255, byte(r.Intn(256))}[r.Intn(16)]
		switch {
		case r.Intn(3) == 0:
			b = slices.Insert(b, at, c)
		case at == len(b):
		case r.Intn(2) == 0:
			b = slices.Delete(b, at, at+1)
		default:
			b[at] = c
		}
	}
	return string(b)
}

// P19.1, P19.4, P0.9: texts near those of calls, and any bytes.
func TestAnyTexts(t *testing.T) {
	r := rand.New(rand.NewSource(191))
	calls := some()
	taken := 0
	for range 60000 {
		s := near(r, textByWords(calls[r.Intn(len(calls))]))
		byWords(t, s)
		if _, e := call.Parse(s); e == api.OK {
			taken++
		}
	}
	if taken < 15000 || taken > 50000 {
		t.Error(taken)
	}
	for range 20000 {
		b := make([]byte, r.Intn(20))
		if r.Intn(100) == 0 {
			b = make([]byte, r.Intn(600))
		}
		for i := range b {
			b[i] = byte(r.Intn(256))
		}
		byWords(t, string(b))
		byWords(t, "write 1 "+string(b))
	}
}

// pick is one of these.
func pick[T any](r *rand.Rand, l ...T) T { return l[r.Intn(len(l))] }

// other is a call, up to two of whose parts are others, so that it may be or not.
func other(r *rand.Rand, c api.Call) api.Call {
	for range r.Intn(3) {
		switch r.Intn(4) {
		case 0:
			c.Kind = pick(r, append([]api.CallKind{1, 2, 3, 4}, noKinds...)...)
		case 1:
			c.Page = pick(r, append([]int{0, 1, 2, 14, 15}, wrongPages...)...)
		case 2:
			c.Body = make([]byte, pick(r, 0, 1, 95, 96, 97, 300))
		case 3:
			c.Body = nil
		}
	}
	return c
}

// P19.1: any calls, in jobs of any pages.
func TestAnyCalls(t *testing.T) {
	r := rand.New(rand.NewSource(192))
	calls := some()
	may := 0
	for range 20000 {
		c := other(r, pick(r, calls...))
		if pages := 1 + r.Intn(16); call.May(job(pages), c) != mayByWords(c, pages) {
			t.Fatalf("May(%d pages, %+v): %v", pages, c, !mayByWords(c, pages))
		}
		if !mayByWords(c, 16) {
			refused(t, c)
			continue
		}
		told(t, c, textByWords(c))
		may++
	}
	if may < 4000 || may > 16000 {
		t.Error(may)
	}
}
