package call_test

import (
	"math"
	"strings"
	"testing"

	"millpond/api"
	"millpond/call"
)

// P19.1: each page at its bounds and beyond, in a job of each number of pages.
func TestMayOfPages(t *testing.T) {
	for pages := 1; pages <= api.MaxPages; pages++ {
		for _, page := range append([]int{0, 1, pages - 1, pages, pages + 1, 15}, wrongPages...) {
			want := page >= 0 && page < pages
			if call.May(job(pages), read(page)) != want || call.May(job(pages), write(page, "x")) != want {
				t.Errorf("May of page %d of %d: not %v", page, pages, want)
			}
		}
		if !call.May(job(pages), sync()) || !call.May(job(pages), checkpoint()) {
			t.Errorf("May of %d pages: not of a Sync, a Checkpoint", pages)
		}
	}
}

// P19.1: the least job, and the greatest one.
func TestMayOfJobs(t *testing.T) {
	least := api.Job{Nodes: 2, Pages: 1, Frames: 1, Log: 2, Patience: 2}
	for _, c := range []api.Call{read(0), write(0, "ab"), write(0, ""), sync(), checkpoint()} {
		if !call.May(least, c) || !call.May(job(16), c) {
			t.Errorf("May(%+v)", c)
		}
	}
	for _, c := range four()[:2] {
		if call.May(least, c) || !call.May(job(4), c) {
			t.Errorf("May(%+v)", c)
		}
	}
}

// P19.1, P19.2: jobs that may not be.
func TestMayOfWrongJobs(t *testing.T) {
	for _, j := range wrongJobs() {
		for _, c := range []api.Call{read(0), write(0, "ab"), sync(), checkpoint()} {
			if call.May(j, c) {
				t.Errorf("May(%+v, %+v)", j, c)
			}
			d := call.New()
			if n, e := d.Ask(j, c); n != 0 || e != api.ErrArg {
				t.Errorf("Ask(%+v, %+v): %d, %v", j, c, n, e)
			}
			stands(t, d, 0)
		}
	}
}

// P19.1: numbers of no kind.
func TestMayOfNoKinds(t *testing.T) {
	for _, k := range noKinds {
		refused(t, api.Call{Kind: k})
		refused(t, api.Call{Kind: k, Page: 3})
		refused(t, api.Call{Kind: k, Page: 3, Body: []byte("ab")})
	}
	refused(t, api.Call{})
}

// P19.1: pages just beyond the greatest job's and further.
func TestTextOfWrongPages(t *testing.T) {
	for _, page := range wrongPages {
		refused(t, read(page))
		refused(t, write(page, "ab"))
		refused(t, write(page, ""))
	}
}

// P19.1: what a kind does not name, other than zero.
func TestMayOfWhatIsNotNamed(t *testing.T) {
	for _, page := range []int{1, 2, 15, -1, 16, 1 << 32, math.MaxInt, math.MinInt} {
		refused(t, api.Call{Kind: api.CallSync, Page: page})
		refused(t, api.Call{Kind: api.CallCheckpoint, Page: page})
	}
	for _, c := range []api.Call{read(0), read(3), sync(), checkpoint()} {
		for _, s := range []string{"x", "ab", "\x00", "\x00\x00", "%", strings.Repeat("q", 96), strings.Repeat("q", 97)} {
			c.Body = []byte(s)
			refused(t, c)
		}
		c.Body = []byte{}
		told(t, c, textByWords(c))
		c.Body = []byte("ahead")[:0]
		told(t, c, textByWords(c))
	}
}

// P19.1: bodies of BodySize bytes, of one more, and of many more, of each byte.
func TestMayOfBodies(t *testing.T) {
	for n := range 256 {
		full := strings.Repeat(string([]byte{byte(n)}), api.BodySize)
		told(t, write(7, full), "write 7 "+wordByWords(full))
		told(t, write(7, full[1:]), "write 7 "+wordByWords(full[1:]))
		refused(t, write(7, full+full[:1]))
		refused(t, write(7, full+"\x00"))
	}
	for _, size := range []int{97, 98, 191, 192, 193, 256 + 3, 1 << 16, 1<<16 + 1, 1 << 20} {
		refused(t, write(0, string(make([]byte, size))))
	}
}

// P19.1: of fewer bytes than a page has, of as many, of more.
func TestBody(t *testing.T) {
	all := ""
	for n := range 300 {
		all += string([]byte{byte(n + 1)})
	}
	for _, size := range []int{0, 1, 2, 95, 96, 97, 98, 192, 200, 256, 300} {
		var want api.Body
		for i := range min(size, api.BodySize) {
			want[i] = all[i]
		}
		if got := call.Body(write(3, all[:size])); got != want {
			t.Errorf("Body of %d bytes: %v", size, got)
		}
	}
}

// P19.1: of calls that have no bytes, and of those that may not be.
func TestBodyOfAnyCalls(t *testing.T) {
	ab := api.Body{'a', 'b'}
	for _, k := range append([]api.CallKind{1, 2, 3, 4}, noKinds...) {
		if got := call.Body(api.Call{Kind: k, Page: -1, Body: []byte("ab")}); got != ab {
			t.Errorf("Body of kind %d: %v", k, got)
		}
		for _, none := range [][]byte{nil, {}} {
			if got := call.Body(api.Call{Kind: k, Page: 3, Body: none}); got != (api.Body{}) {
				t.Errorf("Body of kind %d: %v", k, got)
			}
		}
	}
}

// P19.1: each byte, alone, behind another one, ahead of one, and last of all.
func TestBodyOfEachByte(t *testing.T) {
	for n := range 256 {
		c := byte(n)
		for _, s := range [][]byte{{c}, {'x', c}, {c, 'x'}, {0, c}, append(make([]byte, 95), c)} {
			var want api.Body
			copy(want[:], s)
			if got := call.Body(api.Call{Kind: api.CallWrite, Body: s}); got != want {
				t.Errorf("Body of %q: %v", s, got)
			}
		}
	}
}

// P19.1: what is handed in stays as it was.
func TestBodyAndTextChangeNothing(t *testing.T) {
	for _, s := range []string{"", "a b%", strings.Repeat("\x00", 96), strings.Repeat("q", 97)} {
		part, all := marked(s)
		c := api.Call{Kind: api.CallWrite, Page: 3, Body: part}
		call.May(job(16), c)
		call.Text(c)
		b := call.Body(c)
		clear(b[:])
		unmarked(t, all, s)
	}
}
