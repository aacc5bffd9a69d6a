package lock_test

import (
	"testing"

	"millpond/lock"
)

// P13.1: Release of each that can hold the page, with nothing in hand: with its number, and twice.
func TestRelease(t *testing.T) {
	for _, r := range []struct{ situation, call, last string }{
		{alone, "release 4 3", "op 3"},
		{keeper, "release 4 3", "op 3"},
		{single, "release 4 2", "op 3"},
		{owned, "release 2 2", "4=3 6=3 owner 4 op 3"},
		{owned, "release 4 3", "2=2 6=3 op 3"},
		{owned, "release 6 3", "2=2 4=3 owner 4 op 3"},
		{several, "release 2 2", "4=3 6=3 op 3"},
		{several, "release 4 3", "2=2 6=3 op 3"},
		{several, "release 6 3", "2=2 4=3 op 3"},
	} {
		l := situation(t, r.situation)
		plays(t, l, r.call+":")
		stands(t, l, r.last)
		nothing(t, l, r.call)
	}
}

// P13.1: Release with another number, or of one that does not hold the page, is nothing.
func TestReleaseByAnotherNumber(t *testing.T) {
	for _, op := range append(numbers, 4) {
		l := situation(t, free)
		nothing(t, l, saying("release", op)...)
		l = situation(t, single)
		if nothing(t, l, saying("release", op, 4)...); op != 2 {
			nothing(t, l, saying("release", op)...)
		}
		for _, s := range []string{alone, keeper} {
			l = situation(t, s)
			if nothing(t, l, saying("release", op, 4)...); op != 3 {
				nothing(t, l, saying("release", op)...)
			}
		}
		for _, s := range []string{owned, several} {
			l = situation(t, s)
			if nothing(t, l, saying("release", op, 2, 4, 6)...); op != 3 && op != 2 {
				nothing(t, l, saying("release", op)...)
			}
		}
	}
	nothing(t, situation(t, owned), "release 2 3", "release 4 2", "release 6 2", "release 4 1", "release 2 1")
	l := situation(t, alone)
	plays(t, l, "want 1 shared: share 4 for 1 to 4")
	nothing(t, l, "release 1 4", "release 1 3", "release 4 5", "release 4 2", "release 4 0", "release 0 4") // 1 has it only behind its Got
}

// P13.1: Release of one whose Gone is waited for: that is there; its own Gone is nothing any more.
func TestReleaseInsteadOfGone(t *testing.T) {
	l := situation(t, owned)
	plays(t, l, "want 1 exclusive: drop 4 to 2, drop 4 to 6")
	nothing(t, l, "release 2 4", "release 2 3", "release 6 4", "release 6 2")
	plays(t, l, "release 2 2:")
	stands(t, l, "4=3 6=3 owner 4 hand 1x op 4")
	nothing(t, l, "gone 2 4", "release 2 2")
	plays(t, l, "release 6 3: yield 4 for 1 to 4")
	stands(t, l, "4=3 owner 4 hand 1x op 4")
	nothing(t, l, "gone 6 4", "gone 2 4")
	plays(t, l, "got 1 4:")
	stands(t, l, "1!4 owner 1 past 4 op 4")

	l = situation(t, several)
	plays(t, l, "want 4 exclusive: drop 4 to 2, drop 4 to 6", "gone 6 4:", "release 2 2: grant 4 exclusive to 4")
	l = situation(t, several)
	plays(t, l, "want 4 exclusive: drop 4 to 2, drop 4 to 6", "release 6 3:", "gone 2 4: grant 4 exclusive to 4")
}

// P13.1: Release of a supplier, or of the wish's own node, while others are dropped: that is found when they are gone. It is not begun anew, and has its number yet.
func TestReleaseWhileOthersAreDropped(t *testing.T) {
	l := situation(t, owned) // the owner was to supply
	plays(t, l, "want 1 exclusive: drop 4 to 2, drop 4 to 6")
	nothing(t, l, "release 4 4") // it has sent nothing
	plays(t, l, "release 4 3:")
	stands(t, l, "2=2 6=3 hand 1x op 4")
	plays(t, l, "gone 2 4:", "gone 6 4: grant 4 exclusive to 1", "got 1 4:")
	stands(t, l, "1!4 owner 1 op 4")

	l = situation(t, several) // the lowest one was to supply
	plays(t, l, "want 1 exclusive: drop 4 to 4, drop 4 to 6")
	nothing(t, l, "release 2 4")
	plays(t, l, "release 2 2:", "gone 4 4:", "gone 6 4: grant 4 exclusive to 1", "got 1 4:")
	stands(t, l, "1!4 owner 1 op 4")

	l = situation(t, several) // who asks held it: the others are gone, it takes the page from the device
	plays(t, l, "want 4 exclusive: drop 4 to 2, drop 4 to 6", "release 4 3:", "gone 2 4:", "gone 6 4: grant 4 exclusive to 4", "got 4 4:")
	stands(t, l, "4!4 owner 4 op 4")

	l = situation(t, owned) // who asks is the owner
	plays(t, l, "want 4 exclusive: drop 4 to 2, drop 4 to 6", "release 4 3:", "gone 2 4:", "gone 6 4: grant 4 exclusive to 4", "got 4 4:")
	stands(t, l, "4!4 owner 4 op 4")

	l = situation(t, owned) // who asks held it, another one was to supply, and does
	plays(t, l, "want 2 exclusive: drop 4 to 6", "release 2 2:", "gone 6 4: yield 4 for 2 to 4", "got 2 4:")
	stands(t, l, "2!4 owner 2 past 4 op 4")
}

// P13.1: Release of a supplier whose number is below the one in hand: it did not send the page; another one does, by a new number.
func TestReleaseAheadOfSending(t *testing.T) {
	l := situation(t, owned)
	plays(t, l, "want 1 shared: share 4 for 1 to 4", "want 7 shared:", "release 4 3: share 5 for 1 to 2")
	stands(t, l, "2=2 6=3 line 7s hand 1s op 5")
	nothing(t, l, "got 1 4", "release 4 3", "release 4 4")
	plays(t, l, "release 2 2: share 6 for 1 to 6", "release 6 3: grant 7 shared to 1")
	stands(t, l, "line 7s hand 1s op 7")
	nothing(t, l, "got 1 4", "got 1 5", "got 1 6")
	plays(t, l, "got 1 7: share 8 for 7 to 1")
	stands(t, l, "1=7 hand 7s op 8")

	for _, s := range []string{alone, keeper} {
		l = situation(t, s)
		plays(t, l, "want 1 shared: share 4 for 1 to 4", "release 4 3: grant 5 shared to 1", "got 1 5:")
		stands(t, l, "1=5 op 5")
		l = situation(t, s)
		plays(t, l, "want 1 exclusive: yield 4 for 1 to 4", "release 4 3: grant 5 exclusive to 1")
		stands(t, l, "hand 1x op 5")
		nothing(t, l, "got 1 4")
		plays(t, l, "got 1 5:")
		stands(t, l, "1!5 owner 1 op 5")
	}

	l = situation(t, owned) // others were dropped ahead of it
	plays(t, l, "want 2 exclusive: drop 4 to 6", "gone 6 4: yield 4 for 2 to 4", "release 4 3: grant 5 exclusive to 2")
	stands(t, l, "2=2 hand 2x op 5")
	nothing(t, l, "gone 6 4", "gone 6 5", "got 2 4")
	plays(t, l, "got 2 5:")
	stands(t, l, "2!5 owner 2 op 5")
}

// P13.1: Release of a supplier by the number in hand: it has sent the page already, whose Got is waited for as before.
func TestReleaseBehindSending(t *testing.T) {
	l := situation(t, owned)
	plays(t, l, "want 1 shared: share 4 for 1 to 4", "release 4 4:")
	stands(t, l, "2=2 6=3 hand 1s op 4")
	nothing(t, l, "release 4 4", "release 4 3", "got 4 4", "got 1 3")
	plays(t, l, "got 1 4:")
	stands(t, l, "1=4 2=2 6=3 op 4")

	for _, s := range []string{alone, keeper} {
		l = situation(t, s)
		plays(t, l, "want 1 shared: share 4 for 1 to 4", "want 2 exclusive:", "release 4 4:")
		stands(t, l, "line 2x hand 1s op 4")
		plays(t, l, "got 1 4: yield 5 for 2 to 1")
		stands(t, l, "1=4 hand 2x op 5")
		l = situation(t, s)
		plays(t, l, "want 1 exclusive: yield 4 for 1 to 4", "release 4 4:")
		stands(t, l, "hand 1x op 4")
		plays(t, l, "got 1 4:")
		stands(t, l, "1!4 owner 1 op 4")
	}

	l = situation(t, several) // one that is not the supplier has not sent it
	plays(t, l, "want 1 shared: share 4 for 1 to 2")
	nothing(t, l, "release 4 4", "release 6 4")
	plays(t, l, "release 4 3:", "release 2 4:", "got 1 4:")
	stands(t, l, "1=4 6=3 op 4")
}

// P13.1: Release of others while the page is sent changes nothing of that.
func TestReleaseOfOthersWhileThePageIsSent(t *testing.T) {
	l := situation(t, owned)
	plays(t, l, "want 1 shared: share 4 for 1 to 4", "release 2 2:", "release 6 3:")
	stands(t, l, "4=3 owner 4 hand 1s op 4")
	plays(t, l, "got 1 4:")
	stands(t, l, "1=4 4=4 owner 4 op 4")

	l = situation(t, single) // the wish's own node
	plays(t, l, "want 4 exclusive: grant 4 exclusive to 4", "release 4 2:")
	stands(t, l, "hand 4x op 4")
	plays(t, l, "got 4 4:")
	stands(t, l, "4!4 owner 4 op 4")

	l = situation(t, keeper)
	plays(t, l, "want 4 exclusive: grant 4 exclusive to 4", "release 4 3:")
	stands(t, l, "hand 4x op 4")
}

// P13.1: Release of an owner whose Wrote is waited for: the wish's node needs no past image any more; other pasts stay.
func TestReleaseInsteadOfWrote(t *testing.T) {
	for _, s := range []string{alone, keeper, owned} {
		l := situation(t, s)
		plays(t, l, "clean 1: flush 4 to 4")
		nothing(t, l, "release 4 4", "release 4 2", "release 1 4")
		plays(t, l, "release 4 3: discard 2147483647 to 1")
		stands(t, l, map[string]string{alone: "op 4", keeper: "op 4", owned: "2=2 6=3 op 4"}[s])
		nothing(t, l, "release 4 3")
	}
	l := of("want 5 exclusive", "got 5 1", "want 3 exclusive", "got 3 2", "want 0 exclusive", "got 0 3")
	plays(t, l, "clean 7: flush 4 to 0", "want 2 shared:", "release 0 3: discard 2147483647 to 7, grant 5 shared to 2")
	stands(t, l, "past 3 5 hand 2s op 5")

	l = situation(t, owned) // of others, while it is
	plays(t, l, "clean 1: flush 4 to 4", "release 2 2:", "release 6 3:")
	stands(t, l, "4=3 owner 4 past 1 hand 1c op 4")
	plays(t, l, "wrote 4 3 7: discard 7 to 1")
}

// P13.1: an owner gave the page up, and is none any more: who reads it next has it from the device, and a Clean waits for nobody.
func TestOwnerIsNoneBehindRelease(t *testing.T) {
	l := plays(t, lock.New(), "want 1 exclusive: grant 1 exclusive to 1", "got 1 1:", "release 1 1:",
		"want 1 shared: grant 2 shared to 1", "got 1 2:", "clean 2: discard 2147483647 to 2", "wrote 1 2 5:")
	stands(t, l, "1=2 op 3")
}
