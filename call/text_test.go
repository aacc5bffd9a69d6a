package call_test

import (
	"strings"
	"testing"

	"millpond/api"
	"millpond/call"
)

// P19.1: texts that are written out.
func TestTexts(t *testing.T) {
	told(t, read(0), "read 0")
	told(t, read(9), "read 9")
	told(t, read(10), "read 10")
	told(t, read(15), "read 15")
	told(t, sync(), "sync")
	told(t, checkpoint(), "checkpoint")
	for bytes, word := range map[string]string{
		"": "%", "x": "x", "a b": "a%20b", "%": "%25", "%%": "%25%25", "%41": "%2541", "100%": "100%25",
		"\x00": "%00", "\x00\x00": "%00%00", "x\x00": "x%00", "x\x00\x00": "x%00%00", "\x00x": "%00x",
		" ": "%20", "!": "!", "~": "~", "\x7f": "%7F", "\xff": "%FF", "\x80": "%80", "\n": "%0A", "\xab\xcd\xef": "%AB%CD%EF",
		" !$%&~\x7f\xff": "%20!$%25&~%7F%FF", "00": "00", "AF": "AF", "\xc3\xa9": "%C3%A9", "sync": "sync",
	} {
		told(t, write(0, bytes), "write 0 "+word)
		told(t, write(15, bytes), "write 15 "+word)
	}
}

// P19.1: no bytes and nil are one.
func TestTextOfNoBytes(t *testing.T) {
	told(t, api.Call{Kind: api.CallWrite, Page: 3}, "write 3 %")
	told(t, api.Call{Kind: api.CallWrite, Page: 3, Body: []byte{}}, "write 3 %")
}

// P19.1: each byte, alone, behind another one, ahead of one, and twice.
func TestTextOfEachByte(t *testing.T) {
	for n := range 256 {
		c := string([]byte{byte(n)})
		w := wordByWords(c)
		told(t, write(3, c), "write 3 "+w)
		told(t, write(3, "x"+c), "write 3 x"+w)
		told(t, write(3, c+"x"), "write 3 "+w+"x")
		told(t, write(3, c+c), "write 3 "+w+w)
		told(t, write(3, strings.Repeat("\x00", 95)+c), "write 3 "+strings.Repeat("%00", 95)+w)
	}
}

// P19.1: words that are none, are not behind one blank, or are too many or too few.
func TestParseOfWords(t *testing.T) {
	noText(t, "", " ", "  ", "fly", "Read 0", "READ 0", "reads 0", "rea 0", "ad 0", "1 0", "readwrite 0", "\x00", "%", "0", "3")
	noText(t, "read", "read ", "read  0", " read 0", "read 0 ", "read0", "read\t0", "read 0\n", "read 0 %", "read 0 0", "read 0 x", "read 0 read 0", "read %", "read x")
	noText(t, "write", "write ", "write 3", "write 3 ", "write  3 x", "write 3  x", " write 3 x", "write 3 x ", "write3 x", "write 3x", "write 3 a b", "write 3 x %", "write x 3", "write % 3", "write\t3 x", "write 3\tx", "write x", "write 3 \n")
	noText(t, "sync ", " sync", "syn", "syncs", "sync 0", "sync %", "sync sync", "Sync", "sync\n", "s", "sync\x00")
	noText(t, "checkpoint ", " checkpoint", "checkpoin", "checkpoints", "checkpoint 0", "checkpoint %", "Checkpoint", "check point", "check")
}

// P19.1: a page's number in another form than its own, or beyond the bounds.
func TestParseOfPages(t *testing.T) {
	for _, page := range []string{"00", "01", "03", "003", "010", "015", "+3", "-3", "-0", "+0", "0x3", "0b1", "1_0", "3.", "3.0", "1e0", "３", "3a", "a", "A", "F", "16", "17", "20", "99", "100", "256", "259", "-1", "4294967296", "4294967299", "9223372036854775807", "9223372036854775808", "18446744073709551616", "18446744073709551619", "1" + strings.Repeat("0", 40), strings.Repeat("0", 40) + "3"} {
		noText(t, "read "+page, "write "+page+" x", "write "+page+" %")
	}
}

// P19.1: escapes in small letters, of bytes that stand as they are, and none; bytes that should have been escaped.
func TestParseOfBytes(t *testing.T) {
	noText(t, "write 3 %0a", "write 3 %fF", "write 3 %Ff", "write 3 %ff", "write 3 %2a", "write 3 x%c3%a9")
	noText(t, "write 3 %%", "write 3 x%", "write 3 %x", "write 3 %2", "write 3 x%2", "write 3 %20%", "write 3 %20%2", "write 3 %G0", "write 3 %0G", "write 3 % 0", "write 3 %+0", "write 3 %-1", "write 3 %0x", "write 3 %_0", "write 3 %2%0", "write 3 %%20", "write 3 %2520%")
	noText(t, "write 3 \xc3\xa9", "write 3 é", "write 3 a\tb", "write 3 a\nb", "write 3 a\x00", "write 3 \x7f", "write 3 \x80", "write 3 \xff")
	for n := range 256 {
		c := string([]byte{byte(n)})
		const hex = "0123456789ABCDEF"
		escaped := "%" + hex[n/16:n/16+1] + hex[n%16:n%16+1]
		if w := wordByWords(c); w == c {
			noText(t, "write 3 "+escaped, "write 3 x"+escaped, "write 3 "+escaped+"x")
			reads(t, "write 3 "+c, write(3, c), api.OK)
		} else {
			reads(t, "write 3 "+escaped, write(3, c), api.OK)
			if c != "%" { // that alone is no bytes' word
				noText(t, "write 3 "+c)
			}
			noText(t, "write 3 x"+c, "write 3 "+c+"x")
		}
		if small := strings.ToLower(escaped); small != escaped {
			noText(t, "write 3 "+small)
		}
	}
}

// P19.1: BodySize bytes, and one more, as they are and escaped.
func TestParseOfManyBytes(t *testing.T) {
	for _, c := range []string{"q", " ", "\x00", "%"} {
		full := strings.Repeat(c, api.BodySize)
		reads(t, "write 3 "+wordByWords(full), write(3, full), api.OK)
		noText(t, "write 3 "+wordByWords(full+c), "write 3 "+wordByWords(full+"q"), "write 3 "+wordByWords(full+"\x00"), "write 3 "+wordByWords(full)+"%", "write 3 "+wordByWords(full)+"%0")
	}
}

// P19.1: ErrLong ahead of ErrBytes: 512 bytes, and one more, whatever they are.
func TestParseOfLongTexts(t *testing.T) {
	for _, s := range []string{"", "read 3", "write 3 ", "write 3 %", "sync", "checkpoint ", textByWords(write(15, strings.Repeat("\xff", 96)))} {
		for _, fill := range []string{"q", " ", "%", "0", "\x00", "\xff"} {
			long := s + strings.Repeat(fill, 1<<16)
			noText(t, long[:511], long[:512])
			for _, size := range []int{513, 514, 1024, 1 << 16} {
				reads(t, long[:size], api.Call{}, api.ErrLong)
			}
		}
	}
	longest := textByWords(write(15, strings.Repeat("\xff", 96)))
	if len(longest) != 297 {
		t.Error(len(longest))
	}
	reads(t, longest, write(15, strings.Repeat("\xff", 96)), api.OK)
}

// P19.1: what was read is the caller's.
func TestWhatParseToldIsTheCallers(t *testing.T) {
	one, _ := call.Parse("write 3 a%20b")
	two, _ := call.Parse("write 3 a%20b")
	clear(one.Body)
	_ = append(one.Body[:1], 99)
	if string(two.Body) != "a b" {
		t.Errorf("%q", two.Body)
	}
	reads(t, "write 3 a%20b", write(3, "a b"), api.OK)
}
