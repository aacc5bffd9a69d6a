package call_test

import (
	"testing"

	"millpond/api"
	"millpond/call"
)

// P19.1: the chapter's examples of texts.
func TestExamplesOfTexts(t *testing.T) {
	told(t, write(3, "a b"), "write 3 a%20b")
	noText(t, "read 03", "write 3", "sync ")
}

// P19.2: the chapter's examples of a desk.
func TestExamplesOfDesks(t *testing.T) {
	d := call.New()
	asks(t, d, read(0), 1)
	if n, e := d.Ask(job(16), sync()); n != 0 || e != api.ErrBusy {
		t.Error(n, e)
	}
	stands(t, d, 1, read(0))
	answers(t, d, api.OK, version(2, ""), api.Answer{Number: 1, Call: read(0), V: version(2, "")})
	noAnswer(t, d, api.OK, api.Version{}, api.ErrNone)
	asks(t, d, sync(), 2)
	loses(t, d, 2)
	stands(t, d, 2)
	refused(t, read(16))
	refused(t, write(0, string(make([]byte, 97))))
}

// P19.1 to P19.3: what README.md shows.
func TestReadme(t *testing.T) {
	c, e := call.Parse("write 3 a%20b")
	if !same(c, write(3, "a b")) || e != api.OK {
		t.Error(c, e)
	}
	if s, e := call.Text(c); s != "write 3 a%20b" || e != api.OK {
		t.Error(s, e)
	}
	if b := call.Body(c); b != version(0, "a b").Body {
		t.Error(b)
	}
	j := job(4)
	if !call.May(j, c) {
		t.Error("May")
	}
	d := call.New()
	if n, e := d.Ask(j, c); n != 1 || e != api.OK {
		t.Error(n, e)
	}
	if n, e := d.Ask(j, api.Call{Kind: api.CallSync}); n != 0 || e != api.ErrBusy {
		t.Error(n, e)
	}
	if n, got, is := d.Pending(); n != 1 || !same(got, c) || !is {
		t.Error(n, got, is)
	}
	o := d.Copy()
	v := version(1, "a b")
	if a, e := d.Answer(api.OK, v); !call.SameAnswer(a, api.Answer{Number: 1, Call: c, V: v}) || e != api.OK {
		t.Error(a, e)
	}
	if n, e := o.Lose(); n != 1 || e != api.OK {
		t.Error(n, e)
	}
	if d.Last() != 1 || !call.Same(d, o) {
		t.Error(d.Last())
	}
}
