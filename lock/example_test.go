package lock_test

import (
	"testing"

	"millpond/lock"
)

// P13.1: the chapter's examples.
func TestExamples(t *testing.T) {
	l := lock.New()
	stands(t, l, "")
	plays(t, l, "want 1 shared: grant 1 shared to 1")
	stands(t, l, "hand 1s op 1")
	plays(t, l, "got 1 1:")
	stands(t, l, "1=1 op 1")
	plays(t, l, "want 2 shared: share 2 for 2 to 1", "got 2 2:")
	stands(t, l, "1=2 2=2 op 2")

	plays(t, l, "want 3 exclusive: drop 3 to 2")
	stands(t, l, "1=2 2=2 hand 3x op 3")
	plays(t, l, "gone 2 3: yield 3 for 3 to 1")
	stands(t, l, "1=2 hand 3x op 3")

	plays(t, l, "got 3 3:")
	stands(t, l, "3!3 owner 3 op 3")
	plays(t, l, "want 1 shared: share 4 for 1 to 3", "got 1 4:")
	stands(t, l, "1=4 3=4 owner 3 op 4")

	plays(t, l, "want 1 exclusive: yield 5 for 1 to 3", "got 1 5:")
	stands(t, l, "1!5 owner 1 past 3 op 5")
	plays(t, l, "clean 3: flush 6 to 1")
	stands(t, l, "1!5 owner 1 past 3 hand 3c op 6")
	plays(t, l, "wrote 1 5 9: discard 9 to 3")
	stands(t, l, "1!5 owner 1 op 6")

	plays(t, l, "want 2 shared: share 7 for 2 to 1", "release 1 5: grant 8 shared to 2")
	stands(t, l, "hand 2s op 8")
	plays(t, l, "got 2 8:")
	stands(t, l, "2=8 op 8")
}

// P13.1: the chapter's example of another lock: the owner writes the page back, and is to be dropped itself.
func TestExampleOfAnotherLock(t *testing.T) {
	l := plays(t, lock.New(),
		"want 6 exclusive: grant 1 exclusive to 6", "got 6 1:",
		"want 3 shared: share 2 for 3 to 6", "got 3 2:",
		"want 5 shared: share 3 for 5 to 6", "got 5 3:")
	stands(t, l, "3=2 5=3 6=3 owner 6 op 3")
	plays(t, l, "want 3 exclusive: drop 4 to 5", "wrote 6 3 1:")
	stands(t, l, "3=2 5=3 6=3 hand 3x op 4")
	plays(t, l, "gone 5 4: drop 4 to 6")
	stands(t, l, "3=2 6=3 hand 3x op 4")
	plays(t, l, "gone 6 4: grant 4 exclusive to 3")
	stands(t, l, "3=2 hand 3x op 4")
	plays(t, l, "got 3 4:")
	stands(t, l, "3!4 owner 3 op 4")
}

// P13.1: what README.md shows.
func TestReadme(t *testing.T) {
	l := plays(t, lock.New(),
		"want 1 exclusive: grant 1 exclusive to 1", "got 1 1:",
		"want 2 shared: share 2 for 2 to 1", "want 3 exclusive:",
		"got 2 2: drop 3 to 2", "gone 2 3: yield 3 for 3 to 1", "got 3 3:",
		"clean 1: flush 4 to 3", "wrote 3 3 9: discard 9 to 1", "release 3 3:")
	stands(t, l, "op 4")
}
