package page_test

import (
	"fmt"
	"math/rand"
	"net/url"
	"regexp"
	"strings"
	"testing"

	"millpond/api"
	"millpond/page"
)

// body has these bytes ahead.
func body(s string) api.Body { return of(0, s).Body }

// there fails unless a body has that text, and the text that body.
func there(t *testing.T, b api.Body, want string) {
	t.Helper()
	if got := page.Text(b); got != want {
		t.Errorf("Text(%q): %q, not %q", b, got, want)
	}
	if got, e := page.Body(want); got != b || e != api.OK {
		t.Errorf("Body(%q): %q, %v; not %q", want, got, e, b)
	}
}

// noText fails unless a text is refused with that error.
func noText(t *testing.T, s string, want api.Errno) {
	t.Helper()
	if b, e := page.Body(s); b != (api.Body{}) || e != want {
		t.Errorf("Body(%q): %q, %v; not %v", s, b, e, want)
	}
}

// byteByWords is how a byte is told within a text, as the chapter says it.
func byteByWords(c byte) string {
	if c >= 33 && c <= 126 && c != '%' {
		return string(rune(c))
	}
	return fmt.Sprintf("%%%02X", c)
}

// textByWords is a body's text, as the chapter says it.
func textByWords(b api.Body) string {
	s := ""
	for _, c := range []byte(strings.TrimRight(string(b[:]), "\x00")) {
		s += byteByWords(c)
	}
	if s == "" {
		return "%"
	}
	return s
}

// P3.3, P0.11
func TestTextsThereAndBack(t *testing.T) {
	for bytes, text := range map[string]string{
		"": "%", "x": "x", "a b": "a%20b", "%": "%25", "%%": "%25%25", "%41": "%2541", "100%": "100%25",
		"\x00x": "%00x", "a\x00b": "a%00b", "a\x00\x00b\x00": "a%00%00b", "\x00\x00\x01": "%00%00%01",
		" ": "%20", "!": "!", "~": "~", "\x7f": "%7F", "\xff": "%FF", "\x80": "%80", "\n": "%0A", "\xab\xcd\xef": "%AB%CD%EF",
		" !$%&~\x7f\xff": "%20!$%25&~%7F%FF", "00": "00", "AF": "AF", "é": "%C3%A9",
	} {
		there(t, body(bytes), text)
	}
}

// P3.3: each byte, alone, ahead of another one, and behind one; a nought at the end is not told.
func TestTextOfEachByte(t *testing.T) {
	for n := range 256 {
		c := byte(n)
		there(t, body(string([]byte{c, 'x'})), byteByWords(c)+"x")
		there(t, body(string([]byte{0, 0, c, c, 1})), "%00%00"+byteByWords(c)+byteByWords(c)+"%01")
		if c == 0 {
			there(t, body("\x00"), "%")
			there(t, body("x\x00"), "x")
			continue
		}
		there(t, body(string([]byte{c})), byteByWords(c))
		there(t, body(string([]byte{'x', c})), "x"+byteByWords(c))
		var last api.Body
		last[api.BodySize-1] = c
		there(t, last, strings.Repeat("%00", api.BodySize-1)+byteByWords(c))
	}
}

// P3.3: bodies that are full, and the longest text there is.
func TestTextsOfFullBodies(t *testing.T) {
	for _, c := range []string{"a", "~", " ", "%", "\x01", "\xff"} {
		there(t, body(strings.Repeat(c, api.BodySize)), strings.Repeat(byteByWords(c[0]), api.BodySize))
	}
	if s := page.Text(body(strings.Repeat("\xff", api.BodySize))); len(s) != 3*api.BodySize {
		t.Errorf("the longest text has %d bytes", len(s))
	}
	there(t, full(0).Body, textByWords(full(0).Body))
}

// P3.3: ErrLong is told of more than 3 BodySize bytes, ahead of ErrBytes, whatever they are.
func TestTextsThatAreTooLong(t *testing.T) {
	const most = 3 * api.BodySize
	longest := strings.Repeat("%FF", api.BodySize)
	for _, s := range []string{longest + "a", longest + "%", longest + " ", longest + "%FF", strings.Repeat("a", most+1), strings.Repeat("%", most+1), strings.Repeat("\x00", most+1), strings.Repeat("a", 1<<20)} {
		noText(t, s, api.ErrLong)
	}
	for _, s := range []string{strings.Repeat("a", most), strings.Repeat("%", most), strings.Repeat("\x00", most), strings.Repeat("%00", api.BodySize), longest[:most-1], longest[:most-1] + "f", longest[:most-3] + "%00"} {
		noText(t, s, api.ErrBytes)
	}
}

// P3.3: texts of more bytes than a body has.
func TestTextsOfTooManyBytes(t *testing.T) {
	a := strings.Repeat("a", api.BodySize)
	for _, s := range []string{a + "a", a + "%", a + "%20", a + "%00", a + "%0", a + a, a[1:] + "%20a", a[1:] + "%00%00"} {
		noText(t, s, api.ErrBytes)
	}
	there(t, body(a[1:]+" "), a[1:]+"%20")
	there(t, body(a[2:]+"\x00b"), a[2:]+"%00b")
}

// P3.3
func TestTextsThatAreNoBodys(t *testing.T) {
	for _, s := range []string{
		"", "a%00", "%00", "%00%00", "x%00%00", "a%20%00", // nothing, and noughts at the end
		"%41", "a%42c", "%21", "%7E", "%30", // what must not be written so
		"%0a", "%a0", "%fF", "%Ff", "%ff", "%7f", "a%0d", // small letters
		"a%", "%%", "%%%", "a%2", "%2", "%0", "%F", "%20%", "%20%2", "%25%", // one digit or none
		"%2G", "%G2", "%2%", "%%25", "%-1", "%+1", "% 1", "%1 ", "%0x", "%2\x00", "%\x00\x00", "%@0", "%0@", "%:0", "%/0", "%`0", // what are no digits
		" ", "a b", "\x00", "a\x00", "\x7f", "\xff", "\n", "a\n", "é", "\u2028", "%20 ", // what must be written so
	} {
		noText(t, s, api.ErrBytes)
	}
}

// words calls yield with all words of at most size of these bytes.
func words(letters string, size int, yield func(string)) {
	var grow func(string)
	grow = func(word string) {
		yield(word)
		if len(word) == size {
			return
		}
		for i := range len(letters) {
			grow(word + letters[i:i+1])
		}
	}
	grow("")
}

// units are the bytes of a text, each as it is told.
var units = regexp.MustCompile(`^(?:[!-$&-~]|%(?:[01][0-9A-F]|20|25|7F|[89A-F][0-9A-F]))+$`)

// bodyByWords is the body whose text a word is, if any's; of a word of at most BodySize bytes.
func bodyByWords(s string) (api.Body, bool) {
	if s == "%" {
		return api.Body{}, true
	}
	if !units.MatchString(s) || strings.HasSuffix(s, "%00") {
		return api.Body{}, false
	}
	bytes, err := url.PathUnescape(s)
	return body(bytes), err == nil
}

// P3.3, P0.9: of all short words just those are taken that are some body's text, and each for that body.
func TestJustBodiesTextsAreTaken(t *testing.T) {
	taken, left := 0, 0
	check := func(s string) {
		b, ok := bodyByWords(s)
		if ok {
			taken++
			there(t, b, s)
		} else {
			left++
			noText(t, s, api.ErrBytes)
		}
		if t.Failed() {
			t.FailNow()
		}
	}
	all := ""
	for c := range 256 {
		all += string([]byte{byte(c)})
	}
	words(all, 2, func(s string) {
		check(s)
		check("%" + s) // each digit that there is, and is not
		check("x%" + s)
		check("%" + s + "%01")
	})
	words("%0127AFa~ ", 5, check)
	words("%02F", 8, check)
	if taken < 1000 || left < 1000 {
		t.Errorf("%d taken, %d not", taken, left)
	}
}

// P3.3, P0.11: Body of Text is the body, and no two have one text.
func TestBodyOfText(t *testing.T) {
	r := rand.New(rand.NewSource(3))
	seen := map[string]api.Body{}
	for range 20000 {
		var b api.Body
		r.Read(b[:])
		for i := r.Intn(api.BodySize + 1); i < api.BodySize; i++ {
			b[i] = 0
		}
		for range r.Intn(20) { // noughts and plain bytes, of which there would be few
			b[r.Intn(api.BodySize)] = []byte{0, '%', 'a', ' '}[r.Intn(4)]
		}
		s := page.Text(b)
		there(t, b, textByWords(b))
		if o, ok := seen[s]; ok && o != b {
			t.Errorf("%q is the text of two", s)
		}
		seen[s] = b
		if t.Failed() {
			break
		}
	}
}

// P3.3: the chapter's examples.
func TestTextExamples(t *testing.T) {
	there(t, body("a b"), "a%20b")
	there(t, api.Body{}, "%")
	noText(t, "a%00", api.ErrBytes)
}
