package pool_test

import (
	"testing"

	"millpond/api"
	"millpond/pool"
)

// P15.1, P15.2, P15.3: the chapter's examples.
func TestExamples(t *testing.T) {
	if p, e := pool.New(0); p != nil || e != api.ErrArg {
		t.Error(p, e)
	}
	p := made(t, 2)
	sets(t, p, shared(16), api.ErrArg)
	sets(t, p, shared(1), api.OK)
	sets(t, p, shared(2), api.OK)
	sets(t, p, shared(3), api.ErrFull)
	victims(t, p, 1, 2, 1)
	gets(t, p, shared(2))
	victims(t, p, 1)
	pins(t, p, 1)
	victims(t, p, 2)
	pins(t, p, 2)
	noVictim(t, p)
	drops(t, p, shared(1))
	if e := p.Unpin(1); e != api.ErrNone || p.Room() != 1 {
		t.Error(e, p.Room())
	}
	sets(t, p, shared(3), api.OK)
	if p.Pins(3) != 0 {
		t.Error(p.Pins(3))
	}
}

// P15.1, P15.2, P15.3, P15.4: what README.md shows.
func TestReadme(t *testing.T) {
	p := made(t, 2)
	sets(t, p, shared(7), api.OK)
	sets(t, p, shared(4), api.OK)
	sets(t, p, shared(9), api.ErrFull)
	victims(t, p, 7)
	gets(t, p, shared(4))
	pins(t, p, 7)
	victims(t, p, 4)
	drops(t, p, shared(4))
	c := p.Copy()
	nine := api.Frame{Page: 9, Mode: api.Exclusive}
	sets(t, p, nine, api.OK)
	has(t, p, 0, shared(7), nine)
	if has(t, c, 1, shared(7)); pool.Same(c, p) {
		t.Error("the same")
	}
	if many := p.Clear(); many != 2 {
		t.Error(many)
	}
}
