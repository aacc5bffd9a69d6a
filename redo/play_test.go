package redo_test

import (
	"math/rand"
	"slices"
	"testing"

	"millpond/api"
	"millpond/device"
	"millpond/redo"
)

// play is a node's log, as the chapter's words say that it goes on, beside the log itself.
type play struct {
	j       api.Job
	d       *device.Device
	node    int
	epoch   int64
	l       *redo.Log
	start   int64
	all     []api.Record
	flushed int
}

// holds fails unless the log, and what the device says of it, are as they should be.
func (p *play) holds(t *testing.T) {
	t.Helper()
	next := p.start + int64(len(p.all))
	stands(t, p.l, p.start, next, p.start+int64(p.flushed)-1, p.j.Log-len(p.all))
	has(t, p.l, p.all...)
	reads(t, p.d, p.j, p.node, p.start, p.all[:p.flushed]...)
}

func (p *play) append(t *testing.T, r *rand.Rand) {
	page, psn := r.Intn(p.j.Pages), 1+r.Int63n(1000)
	if len(p.all) == p.j.Log {
		refused(t, p.l, page, psn, api.ErrFull)
		return
	}
	x := recordOf(p.node, p.epoch, p.start+int64(len(p.all)), page, psn)
	append1(t, p.l, page, psn, x.LSN)
	p.all = append(p.all, x)
}

// cutTo is where it is cut: behind elder incarnations' records, as a node does it when it comes up.
func (p *play) cutTo(r *rand.Rand) int {
	to := 0
	for to < p.flushed && p.all[to].Epoch < p.epoch {
		to++
	}
	return to + r.Intn(p.flushed-to+1)
}

func (p *play) cut(t *testing.T, r *rand.Rand) {
	to := p.cutTo(r)
	cut(t, p.l, p.start+int64(to), api.OK)
	p.start, p.all, p.flushed = p.start+int64(to), p.all[to:], p.flushed-to
}

// crash lets the node go down in the midst of a Flush and a Cut, and come up.
func (p *play) crash(t *testing.T, r *rand.Rand) {
	wait := len(p.all) - p.flushed
	things := r.Intn(2*wait + 2)
	p.d.Cut(things)
	flush(t, p.l, api.OK)
	if things > 2*wait {
		p.flushed = len(p.all)
		p.cut(t, r)
	} else {
		p.flushed += things / 2
		cut(t, p.l, p.l.Flushed()+1, api.OK) // this one is lost
	}
	p.d.Whole()
	p.up(t)
}

// up lets the node come up anew, with what is on the device; its elder log is refused from then on.
func (p *play) up(t *testing.T) {
	p.epoch, _ = p.d.Up(p.node)
	was, want := p.d.Copy(), api.OK
	if p.l.Flushed() < p.l.Next()-1 {
		want = api.ErrFenced
	}
	flush(t, p.l, want)
	cut(t, p.l, p.l.Start(), api.ErrFenced)
	untouched(t, "an elder log", p.d, was)
	p.all = slices.Clone(p.all[:p.flushed])
	p.l = opened(t, p.d, p.j, p.node, p.epoch)
}

// P6.1 to P6.5, P0.5: whatever is asked, in any order, with crashes amidst, each log is as the words say, and no other node's log is touched.
func TestAnyCallsAreAsTheWordsSay(t *testing.T) {
	r := rand.New(rand.NewSource(66))
	for range 150 {
		j := of(2+r.Intn(3), 1+r.Intn(4), 2+r.Intn(7))
		d := made(t, j, make([]int64, j.Nodes)...)
		var plays []*play
		for node := range j.Nodes {
			epoch, _ := d.Up(node)
			plays = append(plays, &play{j: j, d: d, node: node, epoch: epoch, start: 1, l: opened(t, d, j, node, epoch)})
		}
		for range 150 {
			p := plays[r.Intn(len(plays))]
			switch n := r.Intn(16); {
			case n < 7:
				p.append(t, r)
			case n < 11:
				flush(t, p.l, api.OK)
				p.flushed = len(p.all)
			case n < 14:
				p.cut(t, r)
			case n < 15:
				p.crash(t, r)
			default:
				p.up(t)
			}
			for _, p := range plays {
				p.holds(t)
			}
		}
	}
}
