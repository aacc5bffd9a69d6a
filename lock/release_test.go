package lock_test

import (
	"fmt"
	"testing"

	"millpond/api"
	"millpond/lock"
)

// anyNumbers are numbers that a node may say in its Release: below 4, which is in hand in most tests here, that one, and above it; most of them are in no book.
func anyNumbers() []int64 {
	return append([]int64{4}, numbers...)
}

// releases is a Release of that node by that number.
func releases(node int, op int64) string {
	return fmt.Sprintf("release %d %d", node, op)
}

// grants is what a wish that begins anew is told by the number 5, where nobody holds the page any more.
func grants(mode string, node int) string {
	return fmt.Sprintf("grant 5 %s to %d", mode, node)
}

// P13.1: Release of each that can hold the page, with nothing in hand, by whatever number: it holds the page no more, and is the owner no more; a second one is nothing.
func TestRelease(t *testing.T) {
	for _, r := range []struct {
		situation string
		node      int
		last      string
	}{
		{alone, 4, "op 3"},
		{keeper, 4, "op 3"},
		{single, 4, "op 3"},
		{owned, 2, "4=3 6=3 owner 4 op 3"},
		{owned, 4, "2=2 6=3 op 3"},
		{owned, 6, "2=2 4=3 owner 4 op 3"},
		{several, 2, "4=3 6=3 op 3"},
		{several, 4, "2=2 6=3 op 3"},
		{several, 6, "2=2 4=3 op 3"},
	} {
		for _, op := range anyNumbers() {
			l := situation(t, r.situation)
			plays(t, l, releases(r.node, op)+":")
			stands(t, l, r.last)
			for _, again := range anyNumbers() {
				nothing(t, l, releases(r.node, again))
			}
		}
	}
}

// P13.1: who gave the page up by a number that the book does not have asks for it as any other one does.
func TestWantBehindRelease(t *testing.T) {
	for _, op := range anyNumbers() {
		l := situation(t, alone)
		plays(t, l, releases(4, op)+":", "want 4 shared: grant 4 shared to 4", "got 4 4:")
		stands(t, l, "4=4 op 4")
		l = situation(t, owned)
		plays(t, l, releases(4, op)+":", "want 4 exclusive: drop 4 to 6", "gone 6 4: yield 4 for 4 to 2", "got 4 4:")
		stands(t, l, "4!4 owner 4 op 4")
	}
}

// P13.1: Release of a node that does not hold the page, and of one that may not be, is nothing, with nothing in hand and while something is waited for, by whatever number.
func TestReleaseOfOneThatDoesNotHoldIt(t *testing.T) {
	for s, holders := range map[string][]int{free: nil, alone: {4}, keeper: {4}, single: {4}, owned: {2, 4, 6}, several: {2, 4, 6}} {
		for _, wish := range []string{"", "want 1 shared", "want 1 exclusive", "clean 1", "want 0 shared", "clean 7"} {
			for _, op := range anyNumbers() {
				l := situation(t, s)
				if wish != "" {
					asks(l, wish)
				}
				nothing(t, l, saying("release", op, holders...)...)
			}
		}
	}
}

// P13.1: Release of a node that may not be is nothing, whatever others hold and wait for.
func TestReleaseOfNoNode(t *testing.T) {
	for _, l := range some(t) {
		for _, op := range anyNumbers() {
			nothing(t, l, saying("release", op, 0, 1, 2, 3, 4, 5, 6, 7)...)
		}
	}
}

// P13.1: Release of one whose Gone is waited for: that is there; its own Gone is nothing any more.
func TestReleaseInsteadOfGone(t *testing.T) {
	l := situation(t, owned)
	plays(t, l, "want 1 exclusive: drop 4 to 2, drop 4 to 6", "release 2 2:")
	stands(t, l, "4=3 6=3 owner 4 hand 1x op 4")
	nothing(t, l, "gone 2 4", "release 2 2")
	plays(t, l, "release 6 3: yield 4 for 1 to 4")
	stands(t, l, "4=3 owner 4 hand 1x op 4")
	nothing(t, l, "gone 6 4", "gone 2 4")
	plays(t, l, "got 1 4:")
	stands(t, l, "1!4 owner 1 past 4 op 4")

	l = situation(t, several)
	plays(t, l, "want 4 exclusive: drop 4 to 2, drop 4 to 6", "gone 6 4:", "release 2 2: grant 4 exclusive to 4")
	l = situation(t, several)
	plays(t, l, "want 4 exclusive: drop 4 to 2, drop 4 to 6", "release 6 3:", "gone 2 4: grant 4 exclusive to 4")
}

// P13.1: Release of one whose Gone is waited for, by whatever number: that is there.
func TestReleaseInsteadOfGoneByAnyNumber(t *testing.T) {
	for _, op := range anyNumbers() {
		for _, again := range anyNumbers() {
			l := situation(t, owned)
			plays(t, l, "want 1 exclusive: drop 4 to 2, drop 4 to 6", releases(6, op)+":")
			stands(t, l, "2=2 4=3 owner 4 hand 1x op 4")
			nothing(t, l, "gone 6 4", releases(6, again))
			plays(t, l, releases(2, again)+": yield 4 for 1 to 4")
			stands(t, l, "4=3 owner 4 hand 1x op 4")
			nothing(t, l, "gone 2 4", releases(2, op), releases(6, op))
			plays(t, l, "got 1 4:")
			stands(t, l, "1!4 owner 1 past 4 op 4")
		}
		l := situation(t, several) // who asks holds it: nobody supplies
		plays(t, l, "want 4 exclusive: drop 4 to 2, drop 4 to 6", "gone 2 4:", releases(6, op)+": grant 4 exclusive to 4", "got 4 4:")
		stands(t, l, "4!4 owner 4 op 4")
	}
}

// P13.1: Release of a supplier, or of the wish's own node, while others are dropped: that is found when they are gone. It is not begun anew, and has its number yet.
func TestReleaseWhileOthersAreDropped(t *testing.T) {
	l := situation(t, owned) // the owner was to supply
	plays(t, l, "want 1 exclusive: drop 4 to 2, drop 4 to 6", "release 4 3:")
	stands(t, l, "2=2 6=3 hand 1x op 4")
	plays(t, l, "gone 2 4:", "gone 6 4: grant 4 exclusive to 1", "got 1 4:")
	stands(t, l, "1!4 owner 1 op 4")

	l = situation(t, several) // the lowest one was to supply
	plays(t, l, "want 1 exclusive: drop 4 to 4, drop 4 to 6", "release 2 2:", "gone 4 4:", "gone 6 4: grant 4 exclusive to 1", "got 1 4:")
	stands(t, l, "1!4 owner 1 op 4")

	l = situation(t, several) // who asks held it: the others are gone, it takes the page from the device
	plays(t, l, "want 4 exclusive: drop 4 to 2, drop 4 to 6", "release 4 3:", "gone 2 4:", "gone 6 4: grant 4 exclusive to 4", "got 4 4:")
	stands(t, l, "4!4 owner 4 op 4")

	l = situation(t, owned) // who asks is the owner
	plays(t, l, "want 4 exclusive: drop 4 to 2, drop 4 to 6", "release 4 3:", "gone 2 4:", "gone 6 4: grant 4 exclusive to 4", "got 4 4:")
	stands(t, l, "4!4 owner 4 op 4")

	l = situation(t, owned) // who asks held it, another one was to supply, and does
	plays(t, l, "want 2 exclusive: drop 4 to 6", "release 2 2:", "gone 6 4: yield 4 for 2 to 4", "got 2 4:")
	stands(t, l, "2!4 owner 2 past 4 op 4")
}

// P13.1: the same by whatever number: while a Gone is waited for, no Got is, so nothing is begun anew.
func TestReleaseWhileOthersAreDroppedByAnyNumber(t *testing.T) {
	for _, op := range anyNumbers() {
		l := situation(t, owned)
		plays(t, l, "want 1 exclusive: drop 4 to 2, drop 4 to 6", releases(4, op)+":")
		stands(t, l, "2=2 6=3 hand 1x op 4")
		for _, again := range anyNumbers() {
			nothing(t, l, releases(4, again))
		}
		plays(t, l, "gone 2 4:", "gone 6 4: grant 4 exclusive to 1", "got 1 4:")
		stands(t, l, "1!4 owner 1 op 4")

		l = situation(t, owned) // who asks held it
		plays(t, l, "want 2 exclusive: drop 4 to 6", releases(2, op)+":")
		stands(t, l, "4=3 6=3 owner 4 hand 2x op 4")
		plays(t, l, "gone 6 4: yield 4 for 2 to 4", "got 2 4:")
		stands(t, l, "2!4 owner 2 past 4 op 4")
	}
}

// P13.1: Release of a supplier whose number is below the one in hand: it did not send the page; another one does, by a new number.
func TestReleaseAheadOfSending(t *testing.T) {
	l := situation(t, owned)
	plays(t, l, "want 1 shared: share 4 for 1 to 4", "want 7 shared:", "release 4 3: share 5 for 1 to 2")
	stands(t, l, "2=2 6=3 line 7s hand 1s op 5")
	nothing(t, l, "got 1 4", "release 4 3", "release 4 4") // it supplies no more
	plays(t, l, "release 2 2: share 6 for 1 to 6", "release 6 3: grant 7 shared to 1")
	stands(t, l, "line 7s hand 1s op 7")
	nothing(t, l, "got 1 4", "got 1 5", "got 1 6")
	plays(t, l, "got 1 7: share 8 for 7 to 1")
	stands(t, l, "1=7 hand 7s op 8")

	for _, s := range []string{alone, keeper} {
		l = situation(t, s)
		plays(t, l, "want 1 shared: share 4 for 1 to 4", "release 4 3: grant 5 shared to 1", "got 1 5:")
		stands(t, l, "1=5 op 5")
		l = situation(t, s)
		plays(t, l, "want 1 exclusive: yield 4 for 1 to 4", "release 4 3: grant 5 exclusive to 1")
		stands(t, l, "hand 1x op 5")
		nothing(t, l, "got 1 4")
		plays(t, l, "got 1 5:")
		stands(t, l, "1!5 owner 1 op 5")
	}

	l = situation(t, owned) // others were dropped ahead of it
	plays(t, l, "want 2 exclusive: drop 4 to 6", "gone 6 4: yield 4 for 2 to 4", "release 4 3: grant 5 exclusive to 2")
	stands(t, l, "2=2 hand 2x op 5")
	nothing(t, l, "gone 6 4", "gone 6 5", "got 2 4")
	plays(t, l, "got 2 5:")
	stands(t, l, "2!5 owner 2 op 5")
}

// P13.1: the same by each number: below the one in hand the wish is begun anew, else its Got is waited for as before.
func TestReleaseOfTheSupplierByAnyNumber(t *testing.T) {
	for _, op := range anyNumbers() {
		for _, s := range []string{alone, keeper, single} {
			for mode, w := range map[string]string{"shared": "1s", "exclusive": "1x"} {
				l := situation(t, s)
				asks(l, "want 1 "+mode)
				if op < 4 {
					plays(t, l, releases(4, op)+": "+grants(mode, 1))
					stands(t, l, "hand "+w+" op 5")
					nothing(t, l, "got 1 4")
					continue
				}
				plays(t, l, releases(4, op)+":")
				stands(t, l, "hand "+w+" op 4")
				plays(t, l, "got 1 4:")
				stands(t, l, map[string]string{"1s": "1=4 op 4", "1x": "1!4 owner 1 op 4"}[w])
			}
		}
		l := situation(t, several) // another one supplies
		plays(t, l, "want 1 shared: share 4 for 1 to 2")
		if op < 4 {
			plays(t, l, releases(2, op)+": share 5 for 1 to 4", "got 1 5:")
			stands(t, l, "1=5 4=5 6=3 op 5")
		} else {
			plays(t, l, releases(2, op)+":", "got 1 4:")
			stands(t, l, "1=4 4=3 6=3 op 4")
		}
	}
}

// P13.1: a supplier that gave the page up, by a number that is not below the one in hand, supplies yet: a second Release by one that is below begins the wish anew. Behind that it supplies no more.
func TestReleaseOfTheSupplierTwice(t *testing.T) {
	for _, op := range anyNumbers() {
		if op < 4 {
			continue
		}
		for _, again := range anyNumbers() {
			for mode, w := range map[string]string{"shared": "1s", "exclusive": "1x"} {
				l := situation(t, alone)
				asks(l, "want 1 "+mode)
				plays(t, l, releases(4, op)+":")
				if again >= 4 {
					nothing(t, l, releases(4, again))
					continue
				}
				plays(t, l, releases(4, again)+": "+grants(mode, 1))
				stands(t, l, "hand "+w+" op 5")
				nothing(t, l, releases(4, op), releases(4, again), "got 1 4")
				plays(t, l, "got 1 5:")
				stands(t, l, map[string]string{"1s": "1=5 op 5", "1x": "1!5 owner 1 op 5"}[w])
			}
		}
	}
	l := situation(t, owned) // the next one supplies, and gives it up twice, too
	plays(t, l, "want 1 shared: share 4 for 1 to 4", "release 4 4:", "release 4 4:", "release 4 0: share 5 for 1 to 2")
	nothing(t, l, "release 4 0", "release 4 4")
	plays(t, l, "release 2 5:", "release 2 4: share 6 for 1 to 6", "got 1 6:")
	stands(t, l, "1=6 6=6 op 6")
}

// P13.1: the Release of a new lock's supplier by the number in hand, and once more by one below it.
func TestReleaseOfASupplierThatHoldsItNoMore(t *testing.T) {
	for _, again := range []string{"release 2 1", "release 2 0", "release 2 -5"} {
		l := plays(t, lock.New(), "want 2 shared: grant 1 shared to 2", "want 0 shared:", "got 2 1: share 2 for 0 to 2", "release 2 2:")
		stands(t, l, "hand 0s op 2")
		plays(t, l, again+": grant 3 shared to 0")
		stands(t, l, "hand 0s op 3")
		plays(t, l, "got 0 3:")
		stands(t, l, "0=3 op 3")
	}
}

// P13.1: Release of a supplier by the number in hand: it has sent the page already, whose Got is waited for as before.
func TestReleaseBehindSending(t *testing.T) {
	l := situation(t, owned)
	plays(t, l, "want 1 shared: share 4 for 1 to 4", "release 4 4:")
	stands(t, l, "2=2 6=3 hand 1s op 4")
	nothing(t, l, "release 4 4", "release 4 5", "got 4 4", "got 1 3")
	plays(t, l, "got 1 4:")
	stands(t, l, "1=4 2=2 6=3 op 4")

	for _, s := range []string{alone, keeper} {
		l = situation(t, s)
		plays(t, l, "want 1 shared: share 4 for 1 to 4", "want 2 exclusive:", "release 4 4:")
		stands(t, l, "line 2x hand 1s op 4")
		plays(t, l, "got 1 4: yield 5 for 2 to 1")
		stands(t, l, "1=4 hand 2x op 5")
		l = situation(t, s)
		plays(t, l, "want 1 exclusive: yield 4 for 1 to 4", "release 4 4:")
		stands(t, l, "hand 1x op 4")
		plays(t, l, "got 1 4:")
		stands(t, l, "1!4 owner 1 op 4")
	}

	l = situation(t, several) // one that is not the supplier gives it up beside
	plays(t, l, "want 1 shared: share 4 for 1 to 2", "release 4 4:", "release 2 4:", "got 1 4:")
	stands(t, l, "1=4 6=3 op 4")
}

// P13.1: Release of others while the page is sent changes nothing of that.
func TestReleaseOfOthersWhileThePageIsSent(t *testing.T) {
	l := situation(t, owned)
	plays(t, l, "want 1 shared: share 4 for 1 to 4", "release 2 2:", "release 6 3:")
	stands(t, l, "4=3 owner 4 hand 1s op 4")
	plays(t, l, "got 1 4:")
	stands(t, l, "1=4 4=4 owner 4 op 4")

	l = situation(t, single) // the wish's own node
	plays(t, l, "want 4 exclusive: grant 4 exclusive to 4", "release 4 2:")
	stands(t, l, "hand 4x op 4")
	plays(t, l, "got 4 4:")
	stands(t, l, "4!4 owner 4 op 4")

	l = situation(t, keeper)
	plays(t, l, "want 4 exclusive: grant 4 exclusive to 4", "release 4 3:")
	stands(t, l, "hand 4x op 4")

	for _, op := range anyNumbers() {
		l = situation(t, owned)
		plays(t, l, "want 1 shared: share 4 for 1 to 4", releases(2, op)+":", releases(6, op)+":")
		stands(t, l, "4=3 owner 4 hand 1s op 4")
		l = situation(t, keeper)
		plays(t, l, "want 4 exclusive: grant 4 exclusive to 4", releases(4, op)+":", "got 4 4:")
		stands(t, l, "4!4 owner 4 op 4")
	}
}

// P13.1: Release of an owner whose Wrote is waited for: the wish's node needs no past image any more; other pasts stay.
func TestReleaseInsteadOfWrote(t *testing.T) {
	for _, s := range []string{alone, keeper, owned} {
		for _, op := range anyNumbers() {
			l := situation(t, s)
			plays(t, l, "clean 1: flush 4 to 4")
			nothing(t, l, "release 1 4", "release 1 3")
			plays(t, l, releases(4, op)+": discard 2147483647 to 1")
			stands(t, l, map[string]string{alone: "op 4", keeper: "op 4", owned: "2=2 6=3 op 4"}[s])
			nothing(t, l, "release 4 3", releases(4, op), "wrote 4 3 7")
		}
	}
	l := of("want 5 exclusive", "got 5 1", "want 3 exclusive", "got 3 2", "want 0 exclusive", "got 0 3")
	plays(t, l, "clean 7: flush 4 to 0", "want 2 shared:", "release 0 3: discard 2147483647 to 7, grant 5 shared to 2")
	stands(t, l, "past 3 5 hand 2s op 5")

	l = situation(t, owned) // of others, while it is
	plays(t, l, "clean 1: flush 4 to 4", "release 2 2:", "release 6 3:")
	stands(t, l, "4=3 owner 4 past 1 hand 1c op 4")
	plays(t, l, "wrote 4 3 7: discard 7 to 1")

	for _, op := range anyNumbers() { // the owner asked for it itself, and others stand in the line
		l = situation(t, alone)
		plays(t, l, "clean 4: flush 4 to 4", "want 1 exclusive:", releases(4, op)+fmt.Sprintf(": discard %d to 4, %s", api.MaxStamp, grants("exclusive", 1)))
		stands(t, l, "hand 1x op 5")
		l = situation(t, owned)
		plays(t, l, "clean 1: flush 4 to 4", releases(2, op)+":", releases(6, op)+":")
		stands(t, l, "4=3 owner 4 past 1 hand 1c op 4")
	}
}

// P13.1: an owner gave the page up, and is none any more: who reads it next has it from the device, and a Clean waits for nobody.
func TestOwnerIsNoneBehindRelease(t *testing.T) {
	l := plays(t, lock.New(), "want 1 exclusive: grant 1 exclusive to 1", "got 1 1:", "release 1 1:",
		"want 1 shared: grant 2 shared to 1", "got 1 2:", "clean 2: discard 2147483647 to 2", "wrote 1 2 5:")
	stands(t, l, "1=2 op 3")
}
