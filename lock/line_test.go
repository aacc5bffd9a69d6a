package lock_test

import (
	"testing"

	"millpond/api"
	"millpond/lock"
)

// P13.1: wishes stand in the line in the order in which they came, and are begun so, one behind the other.
func TestLine(t *testing.T) {
	l := plays(t, lock.New(), "want 1 shared: grant 1 shared to 1", "want 2 exclusive:", "want 3 shared:", "clean 1:", "want 2 shared:", "want 1 exclusive:")
	stands(t, l, "line 2x 3s 1c 2s 1x hand 1s op 1")
	plays(t, l, "got 1 1: yield 2 for 2 to 1")
	stands(t, l, "1=1 line 3s 1c 2s 1x hand 2x op 2")
	plays(t, l, "got 2 2: share 3 for 3 to 2")
	stands(t, l, "2!2 owner 2 line 1c 2s 1x hand 3s op 3")
	plays(t, l, "got 3 3: flush 4 to 2")
	stands(t, l, "2=3 3=3 owner 2 past 1 line 2s 1x hand 1c op 4")
	plays(t, l, "wrote 2 3 5: discard 5 to 1, drop 6 to 3") // 2 holds it: 5 is done at once; 2 is the lowest one, and supplies
	stands(t, l, "2=3 3=3 hand 1x op 6")
	plays(t, l, "gone 3 6: yield 6 for 1 to 2", "got 1 6:")
	stands(t, l, "1!6 owner 1 op 6")
}

// P13.1: wishes that are done at once take a number each, and the next ones are begun behind them in the same call, with all that they tell.
func TestWishesThatAreDoneAtOnce(t *testing.T) {
	l := plays(t, lock.New(), "want 1 exclusive: grant 1 exclusive to 1", "want 1 shared:", "want 3 shared:", "want 3 exclusive:")
	stands(t, l, "line 1s 3s 3x hand 1x op 1")
	plays(t, l, "got 1 1: share 3 for 3 to 1")
	stands(t, l, "1!1 owner 1 line 3x hand 3s op 3")
	plays(t, l, "want 1 exclusive:", "want 3 shared:", "clean 1:")
	plays(t, l, "got 3 3: yield 4 for 3 to 1")
	stands(t, l, "1=3 3=3 owner 1 line 1x 1c hand 3x op 4")
	plays(t, l, "want 3 shared:", "got 3 4: yield 5 for 1 to 3", "got 1 5: flush 6 to 1")
	stands(t, l, "1!5 owner 1 past 1 3 line 3s hand 1c op 6")

	l = of("want 1 exclusive", "got 1 1", "want 2 shared", "want 1 shared", "want 2 shared", "want 1 exclusive")
	plays(t, l, "got 2 2: drop 4 to 2")
	stands(t, l, "1=2 2=2 owner 1 hand 1x op 4")
	l = of("want 3 exclusive", "got 3 1", "want 1 exclusive", "want 1 shared", "clean 1")
	plays(t, l, "got 1 2: flush 4 to 1")
	l = of("want 1 exclusive", "got 1 1", "clean 2", "want 1 exclusive", "want 1 shared", "want 4 shared")
	plays(t, l, "wrote 1 1 3: discard 3 to 2, share 5 for 4 to 1")
	stands(t, l, "1!1 owner 1 hand 4s op 5")

	l = plays(t, lock.New(), "want 1 shared: grant 1 shared to 1", "clean 6:", "want 1 shared:", "clean 2:", "clean 4:", "want 4 shared:", "clean 1:")
	plays(t, l, "got 1 1: discard 2147483647 to 6, discard 2147483647 to 2, discard 2147483647 to 4, share 5 for 4 to 1")
	stands(t, l, "1=1 line 1c hand 4s op 5")
	plays(t, l, "got 4 5: discard 2147483647 to 1")
	stands(t, l, "1=5 4=5 op 6")
}

// P13.1: all that wait for an owner that gives the page up go on behind it, each as it finds the page.
func TestNextOnesBehindRelease(t *testing.T) {
	l := of("want 5 exclusive", "got 5 1", "want 3 exclusive", "got 3 2")
	plays(t, l, "clean 5: flush 3 to 3", "clean 2:", "want 1 exclusive:", "clean 0:")
	plays(t, l, "release 3 2: discard 2147483647 to 5, discard 2147483647 to 2, grant 5 exclusive to 1")
	stands(t, l, "line 0c hand 1x op 5")
	plays(t, l, "got 1 5: flush 6 to 1")
	stands(t, l, "1!5 owner 1 past 0 hand 0c op 6")
}

// P13.1: a wish that stands in the line, or in hand, is not asked again; one of another kind, or of another node, is; what is done can be asked anew.
func TestWishesThatAreThere(t *testing.T) {
	kinds := map[string]string{"want 1 shared": "1s", "want 1 exclusive": "1x", "clean 1": "1c"}
	for first, in := range kinds {
		l := of("want 4 exclusive", "got 4 1", first) // each of them waits for 4
		nothing(t, l, first, first)
		line := ""
		for other, word := range kinds {
			if other != first {
				plays(t, l, other+":")
				nothing(t, l, other, first, other)
				line += " " + word
			}
		}
		past := ""
		if in == "1c" {
			past = " past 1"
		}
		stands(t, l, "4!1 owner 4"+past+" line"+line+" hand "+in+" op 2")
		for _, node := range []string{"0", "4", "7"} {
			for _, other := range []string{"want " + node + " shared", "want " + node + " exclusive", "clean " + node} {
				was := len(l.Book().Line)
				plays(t, l, other+":")
				if many := len(l.Book().Line); many != was+1 {
					t.Errorf("%s behind %s: %d in the line", other, first, many)
				}
				nothing(t, l, other)
			}
		}
	}
	l := plays(t, lock.New(), "want 1 shared: grant 1 shared to 1", "got 1 1:", "release 1 1:", "want 1 shared: grant 2 shared to 1", "got 1 2:", "want 1 shared:", "want 1 shared:")
	stands(t, l, "1=2 op 4")
}

// P13.1: all wishes of all nodes stand in one line.
func TestLongLine(t *testing.T) {
	l := plays(t, lock.New(), "want 0 exclusive: grant 1 exclusive to 0")
	want := book("hand 0x op 1")
	for node := api.MaxNodes - 1; node >= 0; node-- {
		for _, kind := range []api.WishKind{api.WishClean, api.WishExclusive, api.WishShared} {
			w := api.Wish{Node: node, Kind: kind}
			for range 2 {
				if told := wishes(l, w); len(told) != 0 {
					t.Errorf("%+v: %+v", w, told)
				}
			}
			if w != want.Hand {
				want.Line = append(want.Line, w)
			}
			says(t, l, want)
		}
	}
	if len(want.Line) != 3*api.MaxNodes-1 {
		t.Error(len(want.Line))
	}
}
