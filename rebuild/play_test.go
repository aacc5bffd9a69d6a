package rebuild_test

import (
	"math/rand"
	"slices"
	"testing"

	"millpond/api"
	"millpond/device"
	"millpond/page"
	"millpond/rebuild"
	"millpond/redo"
)

// play is nodes that write pages one after the other, each one's log ahead of all else, beside what is durable by the document's words.
type play struct {
	t      *testing.T
	r      *rand.Rand
	j      api.Job
	d      *device.Device
	epochs []int64
	logs   []*redo.Log
	had    []api.Version // of each page its youngest durable one
}

// holds fails unless the device alone says what is durable.
func (p *play) holds(what string) {
	p.t.Helper()
	if l := durable(p.t, p.d, p.j); !slices.Equal(l, p.had) {
		p.t.Fatalf("%s: Durable is %+v, not %+v", what, l, p.had)
	}
}

// up lets a node come up anew, and begin its log behind what others have rebuilt by then.
func (p *play) up(node int) {
	p.epochs[node], _ = p.d.Up(node)
	p.logs[node], _ = redo.Open(p.d, p.j, node, p.epochs[node])
	p.rebuild(node)
	p.cut(node)
}

// write writes a page, durably: or torn behind any of its sectors, by a node that goes down with that.
func (p *play) write(node int) {
	number := p.r.Intn(p.j.Pages)
	v := version(p.had[number].PSN+1, byte(p.r.Intn(256)))
	if p.logs[node].Room() == 0 {
		p.rebuild(node)
		p.cut(node)
	}
	if _, e := p.logs[node].Append(number, v); e != api.OK {
		p.t.Fatal(e)
	}
	if p.r.Intn(3) > 0 {
		p.logs[node].Flush()
		p.had[number] = v
		return
	}
	sectors := p.r.Intn(3)
	p.d.Cut(sectors)
	p.logs[node].Flush()
	p.d.Whole()
	if sectors == 2 {
		p.had[number] = v
	}
	p.holds("a record that was cut")
	p.up(node)
}

// back writes a page's youngest version back, or a first part of its sectors; only what its place does not have yet, as no node writes what is clean.
func (p *play) back(node int) {
	number := p.r.Intn(p.j.Pages)
	if v, whole, _ := rebuild.Place(p.d, p.j, number); whole && v == p.had[number] {
		return
	}
	l, _ := page.Put(number, p.had[number])
	p.d.Cut(p.r.Intn(3))
	p.d.Write(node, p.epochs[node], pageAt(p.t, p.j, number), l[:]...)
	p.d.Whole()
}

// rebuild rebuilds, after some tries that are cut.
func (p *play) rebuild(node int) {
	for range p.r.Intn(3) {
		p.d.Cut(p.r.Intn(2 * p.j.Pages))
		if _, e := rebuild.Rebuild(p.d, p.j, node, p.epochs[node]); e != api.OK {
			p.t.Fatal(e)
		}
		p.d.Whole()
		p.holds("Rebuild that was cut")
	}
	rebuilt(p.t, p.d, p.j, node, p.epochs[node], len(slices.Collect(rebuild.Missing(p.d, p.j))))
	follows(p.t, p.d, p.j, node, p.epochs[node], p.had)
}

// cut cuts a node's log behind its last record; what was in it stands in its place by then.
func (p *play) cut(node int) {
	l := p.logs[node]
	if e := l.Cut(l.Next()); e != api.OK {
		p.t.Fatal(e)
	}
	p.holds("a log that is cut")
}

// P12.4, P0.4, P0.5: whatever nodes do by the rules of the whole, and wherever it is cut, what the device alone says is the youngest durable write of each page, ahead of a Rebuild, in it and behind it.
func TestNothingDurableIsLost(t *testing.T) {
	r := rand.New(rand.NewSource(4))
	for range 150 {
		j := of(2+r.Intn(3), 1+r.Intn(4), 2+r.Intn(5))
		p := &play{t: t, r: r, j: j, d: made(t, j), epochs: make([]int64, j.Nodes), logs: make([]*redo.Log, j.Nodes), had: make([]api.Version, j.Pages)}
		for node := range j.Nodes {
			p.up(node)
		}
		for range 100 {
			node := r.Intn(j.Nodes)
			switch n := r.Intn(16); {
			case n < 9:
				p.write(node)
			case n < 14:
				p.back(node)
			case n < 15:
				p.up(node)
			default:
				p.rebuild(node)
				p.cut(node)
			}
			p.holds("an act")
			asWords(t, p.d, j)
		}
	}
}
