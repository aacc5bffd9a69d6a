package pool_test

import (
	"testing"

	"millpond/api"
	"millpond/pool"
)

// P15.3: no victim where all places are free, where all frames are pinned, where both are: hand and what was used stay.
func TestNoVictim(t *testing.T) {
	noVictim(t, made(t, 1))
	noVictim(t, made(t, api.MaxFrames))
	p := with(t, 4, 3, 5)
	victims(t, p, 3)
	drops(t, p, shared(3), shared(5))
	noVictim(t, p)

	p = passed(t, 3, 5, 7)
	victims(t, p, 3)
	gets(t, p, shared(5), shared(3))
	pins(t, p, 3, 5, 7)
	for range 5 {
		noVictim(t, p)
	}
	unpins(t, p, 3, 5, 7)
	victims(t, p, 7, 5, 7, 3) // the hand stood at 5, which was used, as 3 was

	p = with(t, 4, 3, 5, 7)
	pins(t, p, 3, 5, 7, 7)
	drops(t, p, shared(5))
	noVictim(t, p)
	unpins(t, p, 7)
	noVictim(t, p)
	unpins(t, p, 7)
	victims(t, p, 7, 7)
}

// P15.3: of one frame it is the victim each time, used or not, in any place.
func TestVictimOfOne(t *testing.T) {
	for places := 1; places <= api.MaxFrames; places++ {
		for at := range places {
			p := made(t, places)
			for page := range at + 1 {
				sets(t, p, shared(page), api.OK)
			}
			for page := range at {
				drops(t, p, shared(page))
			}
			victims(t, p, at, at)
			gets(t, p, shared(at))
			victims(t, p, at)
			pins(t, p, at)
			noVictim(t, p)
		}
	}
}

// P15.3: the victim stays, and is what it was.
func TestVictimStays(t *testing.T) {
	p := made(t, 3)
	sets(t, p, rich(8, 1), api.OK)
	sets(t, p, rich(4, 2), api.OK)
	for _, page := range []int{8, 4, 8} {
		victims(t, p, page)
		has(t, p, 1, rich(4, 2), rich(8, 1))
		if p.Pins(page) != 0 {
			t.Error("pinned by being one")
		}
	}
}

// P15.3: where all were used, the one at the hand's place: at 0, and behind that, and at the last place.
func TestVictimWhereAllWereUsed(t *testing.T) {
	for hand := range 5 {
		p := passed(t, 10, 11, 12, 13, 14)
		for n := range hand {
			victims(t, p, 10+n)
		}
		for page := 10; page < 15; page++ {
			gets(t, p, shared(page))
		}
		for n := range 12 {
			victims(t, p, 10+(hand+n)%5)
		}
	}
}

// P15.3: places that are free or pinned are passed, and a pinned one stays used; a used one is passed once.
func TestVictimPasses(t *testing.T) {
	p := with(t, 6, 0, 1, 2, 3, 4)
	victims(t, p, 0, 1, 2, 3, 4)
	gets(t, p, shared(0), shared(1), shared(2))
	pins(t, p, 1)
	drops(t, p, shared(3))
	victims(t, p, 4)    // the hand stood at the place 5, which is free; 0 and 2 were used, 1 is pinned, 3 gone
	victims(t, p, 0, 2) // and are not used any more
	unpins(t, p, 1)
	victims(t, p, 4, 0, 2) // the hand was behind 1, which was used while it was pinned
	victims(t, p, 4, 0, 1) // and is passed once
}

// P15.3: the hand is passed on by a victim alone, and only up to behind it: what lies behind that stays used.
func TestVictimLeavesTheRest(t *testing.T) {
	p := passed(t, 0, 1, 2, 3)
	gets(t, p, shared(0), shared(2))
	victims(t, p, 1, 3, 0, 1, 2) // 2 was used yet when the hand stood behind 1
	p = passed(t, 0, 1, 2, 3)
	gets(t, p, shared(0), shared(2))
	victims(t, p, 1)
	gets(t, p, shared(0)) // used anew since the hand passed it
	victims(t, p, 3, 1, 2, 3, 0)
}

// P15.3: Len and Room.
func TestLenAndRoom(t *testing.T) {
	for places := 1; places <= api.MaxFrames; places++ {
		p := made(t, places)
		counts := func(many int) {
			t.Helper()
			if p.Len() != many || p.Room() != places-many {
				t.Errorf("of %d places: Len %d, Room %d, not %d", places, p.Len(), p.Room(), many)
			}
		}
		for page := range places {
			counts(page)
			sets(t, p, shared(page), api.OK)
			sets(t, p, rich(page, 2), api.OK)
			pins(t, p, page)
			counts(page + 1)
		}
		noVictim(t, p)
		p.Set(shared(-1))
		p.Drop(-1)
		for page := range places {
			counts(places - page)
			p.Drop(page)
			p.Drop(page)
			counts(places - page - 1)
		}
	}
}

// P15.5: each set of five frames that were used, and each that are pinned, and each hand: the victim is none that is pinned, nor one that was used while another one was not; asked on and on, the same ones come round and round.
func TestWhatFollows(t *testing.T) {
	const many = 5
	for used := range 1 << many {
		for pinned := range 1 << many {
			for hand := range many {
				p := passed(t, 0, 1, 2, 3, 4)
				for page := range hand {
					victims(t, p, page)
				}
				open := 0
				for page := range many {
					if used>>page&1 > 0 {
						gets(t, p, shared(page))
					}
					if pinned>>page&1 > 0 {
						pins(t, p, page)
					} else {
						open++
					}
				}
				if open == 0 {
					noVictim(t, p)
					continue
				}
				first, is := p.Copy().Victim()
				if _, there := p.Look(first); !is || !there || pinned>>first&1 > 0 {
					t.Fatalf("used %b, pinned %b, hand %d: the victim %d, %v", used, pinned, hand, first, is)
				}
				if fresh := ^used &^ pinned & (1<<many - 1); fresh != 0 && used>>first&1 > 0 {
					t.Fatalf("used %b, pinned %b, hand %d: the victim %d was used", used, pinned, hand, first)
				}
				round(t, p, open, used&^pinned == 0 || ^used&^pinned&(1<<many-1) == 0)
			}
		}
	}
}

// round fails unless all that are not pinned come, each once in as many: from the first one on, or, where some were used and others were not, from when the hand has gone round.
func round(t *testing.T, p *pool.Pool, open int, first bool) {
	t.Helper()
	if !first {
		for range open {
			p.Victim()
		}
	}
	for range 3 {
		came := map[int]int{}
		for range open {
			page, is := p.Victim()
			if came[page]++; !is || p.Pins(page) > 0 || came[page] > 1 {
				t.Fatalf("%d, %v: %v", page, is, came)
			}
		}
	}
}
