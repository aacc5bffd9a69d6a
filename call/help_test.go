package call_test

import (
	"math"
	"slices"
	"strings"
	"testing"

	"millpond/api"
	"millpond/call"
)

// noKinds are numbers of no kind; some of them have a kind's in their lowest bytes.
var noKinds = []api.CallKind{0, -1, -2, -4, 5, 6, 127, 256, 257, 1 << 32, 1<<32 + 1, math.MaxInt, math.MinInt, math.MinInt + 1}

// wrongPages are of no job; some of them have a page's number in their lowest bytes.
var wrongPages = []int{-1, -2, -16, 16, 17, 127, 256, 257, 1 << 32, 1<<32 + 1, math.MaxInt, math.MinInt, math.MinInt + 1}

// What an answer may have, at the bounds and between, and what it may not, just beyond and further.
var (
	rightErrnos = []api.Errno{1, 2, 8, 11, 12}
	wrongErrnos = []api.Errno{-1, -2, -12, 13, 14, 256, 257, 1 << 32, 1<<32 + 1, math.MaxInt, math.MinInt, math.MinInt + 1}
	rightPSNs   = []int64{0, 1, 2, 300, api.MaxStamp - 1, api.MaxStamp}
	wrongPSNs   = []int64{-1, -2, -api.MaxStamp, api.MaxStamp + 1, api.MaxStamp + 2, 1 << 32, 1<<32 + 1, api.MaxNumber, math.MaxInt64, math.MinInt64, math.MinInt64 + 1}
)

// job has so many pages; of the greatest kind otherwise.
func job(pages int) api.Job {
	return api.Job{Nodes: api.MaxNodes, Pages: pages, Frames: api.MaxFrames, Log: api.MaxLog, Patience: api.MaxPatience}
}

// wrongJobs may not be: one number of each is out of its bounds.
func wrongJobs() []api.Job {
	l := []api.Job{{}}
	for _, n := range []int{1, 9, math.MaxInt, math.MinInt} {
		j := job(16)
		j.Nodes = n
		l = append(l, j)
	}
	for _, n := range []int{0, 17, -1} {
		j := job(16)
		j.Pages = n
		l = append(l, j)
		j = job(16)
		j.Frames = n
		l = append(l, j)
	}
	for _, n := range []int{1, 65} {
		j := job(16)
		j.Log = n
		l = append(l, j)
	}
	for _, n := range []int{1, 101} {
		j := job(16)
		j.Patience = n
		l = append(l, j)
	}
	return l
}

func read(page int) api.Call { return api.Call{Kind: api.CallRead, Page: page} }

func write(page int, s string) api.Call {
	return api.Call{Kind: api.CallWrite, Page: page, Body: []byte(s)}
}

func sync() api.Call { return api.Call{Kind: api.CallSync} }

func checkpoint() api.Call { return api.Call{Kind: api.CallCheckpoint} }

// bodies are of no bytes, end in noughts, and are full.
func bodies() []string {
	l := []string{
		"", "x", "ab", "a b", "%", "%%", "%41", " ", "\x00", "\x00\x00", "x\x00", "x\x00\x00", "\x00x", "a\x00b",
		"\xff", "\xc3\xa9", "\x80\x7f", "!~", " %\x00", "write", "00", "AF", "af",
		strings.Repeat("q", 95), strings.Repeat("\x00", 95) + "y", strings.Repeat("%", 95) + " ",
	}
	for _, c := range []string{"q", "~", "%", " ", "\x00", "\x01", "\xff"} {
		l = append(l, strings.Repeat(c, api.BodySize))
	}
	return l
}

// some are calls of all kinds that may be: all pages, and bodies of many kinds.
func some() []api.Call {
	l := []api.Call{sync(), checkpoint()}
	for page := range api.MaxPages {
		l = append(l, read(page))
		for _, s := range bodies() {
			l = append(l, write(page, s))
		}
	}
	return l
}

// four is a call of each kind.
func four() []api.Call { return []api.Call{read(3), write(3, "ab"), sync(), checkpoint()} }

// same tells whether two calls are: all that a call has, one by one; no bytes and nil are one.
func same(a, b api.Call) bool {
	return a.Kind == b.Kind && a.Page == b.Page && string(a.Body) == string(b.Body)
}

// reads fails unless a text is read so.
func reads(t *testing.T, s string, want api.Call, wrong api.Errno) {
	t.Helper()
	if c, e := call.Parse(s); !same(c, want) || e != wrong {
		t.Errorf("Parse(%q): %+v, %v; not %+v, %v", s, c, e, want, wrong)
	}
}

// noText fails unless a text is no call's.
func noText(t *testing.T, l ...string) {
	t.Helper()
	for _, s := range l {
		reads(t, s, api.Call{}, api.ErrBytes)
	}
}

// told fails unless a call has that text, which is read as it, and it may be in the greatest job.
func told(t *testing.T, c api.Call, s string) {
	t.Helper()
	if got, e := call.Text(c); got != s || e != api.OK || !call.May(job(16), c) {
		t.Errorf("Text(%+v): %q, %v; not %q", c, got, e, s)
	}
	reads(t, s, c, api.OK)
}

// refused fails unless a call may be in no job.
func refused(t *testing.T, c api.Call) {
	t.Helper()
	if s, e := call.Text(c); s != "" || e != api.ErrArg || call.May(job(16), c) {
		t.Errorf("Text(%+v): %q, %v; May %v", c, s, e, call.May(job(16), c))
	}
	d := call.New()
	if n, e := d.Ask(job(16), c); n != 0 || e != api.ErrArg {
		t.Errorf("Ask(%+v): %d, %v", c, n, e)
	}
	stands(t, d, 0)
}

// stands fails unless so many calls were taken, and of calls that one is pending, or none.
func stands(t *testing.T, d *call.Desk, last int64, pending ...api.Call) {
	t.Helper()
	if got := d.Last(); got != last {
		t.Errorf("Last: %d, not %d", got, last)
	}
	var number int64
	var want api.Call
	if len(pending) > 0 {
		number, want = last, pending[0]
	}
	n, c, is := d.Pending()
	if n != number || !same(c, want) || is != (len(pending) > 0) {
		t.Errorf("Pending: %d, %+v, %v; not %d, %+v", n, c, is, number, want)
	}
}

// asks fails unless a call is taken, by that number.
func asks(t *testing.T, d *call.Desk, c api.Call, want int64) {
	t.Helper()
	if n, e := d.Ask(job(16), c); n != want || e != api.OK {
		t.Errorf("Ask(%+v): %d, %v; not %d", c, n, e, want)
	}
}

// answers fails unless the pending call is answered so.
func answers(t *testing.T, d *call.Desk, e api.Errno, v api.Version, want api.Answer) {
	t.Helper()
	a, wrong := d.Answer(e, v)
	if a.Number != want.Number || !same(a.Call, want.Call) || a.Errno != want.Errno || a.V != want.V || wrong != api.OK {
		t.Errorf("Answer(%v, PSN %d): %+v, %v; not %+v", e, v.PSN, a, wrong, want)
	}
}

// noAnswer fails unless an answer is refused with that error.
func noAnswer(t *testing.T, d *call.Desk, e api.Errno, v api.Version, want api.Errno) {
	t.Helper()
	a, wrong := d.Answer(e, v)
	if a.Number != 0 || !same(a.Call, api.Call{}) || a.Errno != 0 || a.V != (api.Version{}) || wrong != want {
		t.Errorf("Answer(%v, PSN %d): %+v, %v; not %v", e, v.PSN, a, wrong, want)
	}
}

// loses fails unless the pending call is lost: that number.
func loses(t *testing.T, d *call.Desk, want int64) {
	t.Helper()
	if n, e := d.Lose(); n != want || e != api.OK {
		t.Errorf("Lose: %d, %v; not %d", n, e, want)
	}
}

// noLoss fails unless a loss is refused with that error.
func noLoss(t *testing.T, d *call.Desk, want api.Errno) {
	t.Helper()
	if n, e := d.Lose(); n != 0 || e != want {
		t.Errorf("Lose: %d, %v; not %v", n, e, want)
	}
}

// with is a desk that took as many calls, each answered but the last one, which is pending.
func with(t *testing.T, l ...api.Call) *call.Desk {
	t.Helper()
	d := call.New()
	for i, c := range l {
		asks(t, d, c, int64(i+1))
		if i < len(l)-1 {
			if _, e := d.Answer(api.OK, api.Version{}); e != api.OK {
				t.Error(e)
			}
		}
	}
	return d
}

// version has a PSN, and these bytes ahead.
func version(psn int64, s string) api.Version {
	v := api.Version{PSN: psn}
	copy(v.Body[:], s)
	return v
}

// marked are bytes amidst others, and all of them.
func marked(s string) (part, all []byte) {
	all = []byte("ahead" + s + "behind")
	return all[5 : 5+len(s)], all
}

// unmarked fails unless the others are as they were.
func unmarked(t *testing.T, all []byte, s string) {
	t.Helper()
	if !slices.Equal(all, []byte("ahead"+s+"behind")) {
		t.Errorf("%q", all)
	}
}
