package lock_test

import "testing"

// begun is a wish in a situation: what it tells, how the book stands then, what comes behind, and how the book stands at last.
type begun struct {
	situation, line, stands string
	behind                  []string
	last                    string
}

// begins fails unless all of them go so.
func begins(t *testing.T, all []begun) {
	t.Helper()
	for _, b := range all {
		t.Run(b.situation+": "+b.line, func(t *testing.T) {
			l := situation(t, b.situation)
			plays(t, l, b.line)
			stands(t, l, b.stands)
			if plays(t, l, b.behind...); b.behind != nil {
				stands(t, l, b.last)
			}
		})
	}
}

// P13.1: a shared wish, of nodes that hold the page and of others, in each situation.
func TestSharedWishes(t *testing.T) {
	begins(t, []begun{
		{free, "want 1 shared: grant 4 shared to 1", "hand 1s op 4", []string{"got 1 4:"}, "1=4 op 4"},
		{free, "want 0 shared: grant 4 shared to 0", "hand 0s op 4", []string{"got 0 4:"}, "0=4 op 4"},
		{free, "want 7 shared: grant 4 shared to 7", "hand 7s op 4", []string{"got 7 4:"}, "7=4 op 4"},

		{alone, "want 4 shared:", "4!3 owner 4 op 4", nil, ""},
		{alone, "want 1 shared: share 4 for 1 to 4", "4!3 owner 4 hand 1s op 4", []string{"got 1 4:"}, "1=4 4=4 owner 4 op 4"},
		{alone, "want 0 shared: share 4 for 0 to 4", "4!3 owner 4 hand 0s op 4", []string{"got 0 4:"}, "0=4 4=4 owner 4 op 4"},

		{owned, "want 2 shared:", "2=2 4=3 6=3 owner 4 op 4", nil, ""},
		{owned, "want 4 shared:", "2=2 4=3 6=3 owner 4 op 4", nil, ""},
		{owned, "want 6 shared:", "2=2 4=3 6=3 owner 4 op 4", nil, ""},
		{owned, "want 1 shared: share 4 for 1 to 4", "2=2 4=3 6=3 owner 4 hand 1s op 4", []string{"got 1 4:"}, "1=4 2=2 4=4 6=3 owner 4 op 4"},
		{owned, "want 7 shared: share 4 for 7 to 4", "2=2 4=3 6=3 owner 4 hand 7s op 4", []string{"got 7 4:"}, "2=2 4=4 6=3 7=4 owner 4 op 4"},

		{several, "want 2 shared:", "2=2 4=3 6=3 op 4", nil, ""},
		{several, "want 4 shared:", "2=2 4=3 6=3 op 4", nil, ""},
		{several, "want 6 shared:", "2=2 4=3 6=3 op 4", nil, ""},
		{several, "want 1 shared: share 4 for 1 to 2", "2=2 4=3 6=3 hand 1s op 4", []string{"got 1 4:"}, "1=4 2=4 4=3 6=3 op 4"},
		{several, "want 5 shared: share 4 for 5 to 2", "2=2 4=3 6=3 hand 5s op 4", []string{"got 5 4:"}, "2=4 4=3 5=4 6=3 op 4"},

		{single, "want 4 shared:", "4=2 op 4", nil, ""},
		{single, "want 1 shared: share 4 for 1 to 4", "4=2 hand 1s op 4", []string{"got 1 4:"}, "1=4 4=4 op 4"},

		{keeper, "want 4 shared:", "4=3 owner 4 op 4", nil, ""},
		{keeper, "want 1 shared: share 4 for 1 to 4", "4=3 owner 4 hand 1s op 4", []string{"got 1 4:"}, "1=4 4=4 owner 4 op 4"},
	})
}

// P13.1: an exclusive wish, of nodes that hold the page and of others, in each situation.
func TestExclusiveWishes(t *testing.T) {
	begins(t, []begun{
		{free, "want 1 exclusive: grant 4 exclusive to 1", "hand 1x op 4", []string{"got 1 4:"}, "1!4 owner 1 op 4"},
		{free, "want 0 exclusive: grant 4 exclusive to 0", "hand 0x op 4", []string{"got 0 4:"}, "0!4 owner 0 op 4"},
		{free, "want 7 exclusive: grant 4 exclusive to 7", "hand 7x op 4", []string{"got 7 4:"}, "7!4 owner 7 op 4"},

		{alone, "want 4 exclusive:", "4!3 owner 4 op 4", nil, ""},
		{alone, "want 1 exclusive: yield 4 for 1 to 4", "4!3 owner 4 hand 1x op 4", []string{"got 1 4:"}, "1!4 owner 1 past 4 op 4"},
		{alone, "want 7 exclusive: yield 4 for 7 to 4", "4!3 owner 4 hand 7x op 4", []string{"got 7 4:"}, "7!4 owner 7 past 4 op 4"},

		{owned, "want 2 exclusive: drop 4 to 6", "2=2 4=3 6=3 owner 4 hand 2x op 4",
			[]string{"gone 6 4: yield 4 for 2 to 4", "got 2 4:"}, "2!4 owner 2 past 4 op 4"},
		{owned, "want 4 exclusive: drop 4 to 2, drop 4 to 6", "2=2 4=3 6=3 owner 4 hand 4x op 4",
			[]string{"gone 6 4:", "gone 2 4: grant 4 exclusive to 4", "got 4 4:"}, "4!4 owner 4 op 4"},
		{owned, "want 6 exclusive: drop 4 to 2", "2=2 4=3 6=3 owner 4 hand 6x op 4",
			[]string{"gone 2 4: yield 4 for 6 to 4", "got 6 4:"}, "6!4 owner 6 past 4 op 4"},
		{owned, "want 1 exclusive: drop 4 to 2, drop 4 to 6", "2=2 4=3 6=3 owner 4 hand 1x op 4",
			[]string{"gone 2 4:", "gone 6 4: yield 4 for 1 to 4", "got 1 4:"}, "1!4 owner 1 past 4 op 4"},

		{several, "want 2 exclusive: drop 4 to 4, drop 4 to 6", "2=2 4=3 6=3 hand 2x op 4",
			[]string{"gone 4 4:", "gone 6 4: grant 4 exclusive to 2", "got 2 4:"}, "2!4 owner 2 op 4"},
		{several, "want 4 exclusive: drop 4 to 2, drop 4 to 6", "2=2 4=3 6=3 hand 4x op 4",
			[]string{"gone 2 4:", "gone 6 4: grant 4 exclusive to 4", "got 4 4:"}, "4!4 owner 4 op 4"},
		{several, "want 6 exclusive: drop 4 to 2, drop 4 to 4", "2=2 4=3 6=3 hand 6x op 4",
			[]string{"gone 4 4:", "gone 2 4: grant 4 exclusive to 6", "got 6 4:"}, "6!4 owner 6 op 4"},
		{several, "want 7 exclusive: drop 4 to 4, drop 4 to 6", "2=2 4=3 6=3 hand 7x op 4",
			[]string{"gone 6 4:", "gone 4 4: yield 4 for 7 to 2", "got 7 4:"}, "7!4 owner 7 op 4"},

		{single, "want 4 exclusive: grant 4 exclusive to 4", "4=2 hand 4x op 4", []string{"got 4 4:"}, "4!4 owner 4 op 4"},
		{single, "want 1 exclusive: yield 4 for 1 to 4", "4=2 hand 1x op 4", []string{"got 1 4:"}, "1!4 owner 1 op 4"},

		{keeper, "want 4 exclusive: grant 4 exclusive to 4", "4=3 owner 4 hand 4x op 4", []string{"got 4 4:"}, "4!4 owner 4 op 4"},
		{keeper, "want 1 exclusive: yield 4 for 1 to 4", "4=3 owner 4 hand 1x op 4", []string{"got 1 4:"}, "1!4 owner 1 past 4 op 4"},
	})
}

// P13.1: a Clean, of nodes that hold the page and of others, in each situation.
func TestCleanWishes(t *testing.T) {
	begins(t, []begun{
		{free, "clean 1: discard 2147483647 to 1", "op 4", nil, ""},
		{free, "clean 0: discard 2147483647 to 0", "op 4", nil, ""},
		{free, "clean 7: discard 2147483647 to 7", "op 4", nil, ""},

		{alone, "clean 1: flush 4 to 4", "4!3 owner 4 past 1 hand 1c op 4", []string{"wrote 4 3 9: discard 9 to 1"}, "4!3 owner 4 op 4"},
		{alone, "clean 4: flush 4 to 4", "4!3 owner 4 past 4 hand 4c op 4", []string{"wrote 4 3 9: discard 9 to 4"}, "4!3 owner 4 op 4"},

		{owned, "clean 1: flush 4 to 4", "2=2 4=3 6=3 owner 4 past 1 hand 1c op 4", []string{"wrote 4 3 9: discard 9 to 1"}, "2=2 4=3 6=3 op 4"},
		{owned, "clean 2: flush 4 to 4", "2=2 4=3 6=3 owner 4 past 2 hand 2c op 4", []string{"wrote 4 3 9: discard 9 to 2"}, "2=2 4=3 6=3 op 4"},
		{owned, "clean 4: flush 4 to 4", "2=2 4=3 6=3 owner 4 past 4 hand 4c op 4", []string{"wrote 4 3 9: discard 9 to 4"}, "2=2 4=3 6=3 op 4"},

		{several, "clean 1: discard 2147483647 to 1", "2=2 4=3 6=3 op 4", nil, ""},
		{several, "clean 2: discard 2147483647 to 2", "2=2 4=3 6=3 op 4", nil, ""},
		{single, "clean 4: discard 2147483647 to 4", "4=2 op 4", nil, ""},
		{keeper, "clean 4: flush 4 to 4", "4=3 owner 4 past 4 hand 4c op 4", []string{"wrote 4 3 9: discard 9 to 4"}, "4=3 op 4"},
	})
}

// P13.1: Clean of a node that is a past already, with an owner and without; other pasts stay, where nothing is written.
func TestCleanOfPasts(t *testing.T) {
	chain := []string{"want 5 exclusive", "got 5 1", "want 3 exclusive", "got 3 2", "want 1 exclusive", "got 1 3"}
	l := of(chain...)
	stands(t, l, "1!3 owner 1 past 3 5 op 3")
	plays(t, l, "clean 5: flush 4 to 1")
	stands(t, l, "1!3 owner 1 past 3 5 hand 5c op 4")
	plays(t, l, "wrote 1 3 8: discard 8 to 3, discard 8 to 5")
	stands(t, l, "1!3 owner 1 op 4")

	l = of(append(chain, "release 1 3")...)
	stands(t, l, "past 3 5 op 3")
	plays(t, l, "clean 5: discard 2147483647 to 5")
	stands(t, l, "past 3 op 4")
	plays(t, l, "clean 5: discard 2147483647 to 5")
	stands(t, l, "past 3 op 5")
	plays(t, l, "clean 3: discard 2147483647 to 3")
	stands(t, l, "op 6")
}

// P13.1: who was a past, and gets the page again, is one yet; each owner that yields becomes one.
func TestPastsGather(t *testing.T) {
	l := of("want 5 exclusive", "got 5 1", "want 3 exclusive", "got 3 2")
	plays(t, l, "want 5 exclusive: yield 3 for 5 to 3", "got 5 3:")
	stands(t, l, "5!3 owner 5 past 3 5 op 3")
	plays(t, l, "want 7 shared: share 4 for 7 to 5", "got 7 4:", "want 0 exclusive: drop 5 to 7", "gone 7 5: yield 5 for 0 to 5", "got 0 5:")
	stands(t, l, "0!5 owner 0 past 3 5 op 5")
	plays(t, l, "want 3 exclusive: yield 6 for 3 to 0", "got 3 6:")
	stands(t, l, "3!6 owner 3 past 0 3 5 op 6")
	plays(t, l, "wrote 3 6 2: discard 2 to 0, discard 2 to 3, discard 2 to 5")
	stands(t, l, "3!6 owner 3 op 6")
}
