package lock_test

import (
	"fmt"
	"testing"
)

// chain is a page that 5, 3 and 1 held exclusively, one behind the other.
var chain = []string{"want 5 exclusive", "got 5 1", "want 3 exclusive", "got 3 2", "want 1 exclusive", "got 1 3"}

// P13.1: Wrote of an owner that holds the page exclusively, with pasts and without: it is the owner yet.
func TestWroteOfOneThatHoldsItExclusively(t *testing.T) {
	l := of(chain...)
	stands(t, l, "1!3 owner 1 past 3 5 op 3")
	plays(t, l, "wrote 1 3 6: discard 6 to 3, discard 6 to 5")
	stands(t, l, "1!3 owner 1 op 3")
	nothing(t, l, "wrote 1 3 6", "wrote 1 3 7", "wrote 1 3 0")
}

// P13.1: Wrote of an owner that holds the page shared, with pasts and without: there is none any more.
func TestWroteOfOneThatHoldsItShared(t *testing.T) {
	l := of(append(chain, "want 7 shared", "got 7 4")...)
	stands(t, l, "1=4 7=4 owner 1 past 3 5 op 4")
	plays(t, l, "wrote 1 4 6: discard 6 to 3, discard 6 to 5")
	stands(t, l, "1=4 7=4 op 4")
	nothing(t, l, "wrote 1 4 6", "wrote 7 4 6")
	l = situation(t, owned)
	plays(t, l, "wrote 4 3 0:")
	stands(t, l, several)
}

// P13.1: Wrote by another number, of one that is not the owner, of one that does not hold the page: that version is on the device, which pasts are told, but no more.
func TestWroteOfOthers(t *testing.T) {
	l := of(append(chain, "want 7 shared", "got 7 4")...)
	was := l.Book()
	for _, op := range append(numbers, 4) {
		for node := range 8 {
			if node == 1 && op == 4 {
				continue
			}
			plays(t, l, fmt.Sprintf("wrote %d %d 6: discard 6 to 3, discard 6 to 5", node, op))
			says(t, l, was)
		}
	}
	for _, op := range append(numbers, 4) { // without an owner
		for _, s := range []string{free, single, several} {
			nothing(t, situation(t, s), fmt.Sprint("wrote 4 ", op, " 6"), fmt.Sprint("wrote 2 ", op, " 6"), fmt.Sprint("wrote 0 ", op, " 6"))
		}
	}
	l = of(append(chain, "release 1 3")...)
	stands(t, l, "past 3 5 op 3")
	plays(t, l, "wrote 1 3 6: discard 6 to 3, discard 6 to 5", "wrote 0 0 7: discard 7 to 3, discard 7 to 5")
	stands(t, l, "past 3 5 op 3")
}

// P13.1: Wrote that is waited for, of an owner that holds it exclusively or shared; by another number, and of others, it is waited for yet.
func TestWroteThatIsWaitedFor(t *testing.T) {
	l := of(chain...)
	plays(t, l, "clean 0: flush 4 to 1")
	stands(t, l, "1!3 owner 1 past 0 3 5 hand 0c op 4")
	for _, call := range []string{"wrote 1 4 2", "wrote 1 2 2", "wrote 0 4 2", "wrote 5 1 2", "wrote 3 2 2", "wrote 7 3 2"} {
		plays(t, l, call+": discard 2 to 0, discard 2 to 3, discard 2 to 5")
		stands(t, l, "1!3 owner 1 past 0 3 5 hand 0c op 4")
	}
	plays(t, l, "want 6 exclusive:", "wrote 1 3 2: discard 2 to 0, discard 2 to 3, discard 2 to 5, yield 5 for 6 to 1")
	stands(t, l, "1!3 owner 1 hand 6x op 5")

	l = situation(t, owned)
	plays(t, l, "clean 6: flush 4 to 4", "clean 5:", "clean 6:", "wrote 4 3 8: discard 8 to 6, discard 2147483647 to 5")
	stands(t, l, "2=2 4=3 6=3 op 5")

	l = situation(t, alone) // the next Clean finds the owner, which holds it exclusively, again
	plays(t, l, "clean 6: flush 4 to 4", "clean 5:", "wrote 4 3 8: discard 8 to 6, flush 5 to 4")
	stands(t, l, "4!3 owner 4 past 5 hand 5c op 5")
}

// P13.1: who has sent the page, and says Wrote by the number in hand, is not told by its op, as the book has it: it is the owner yet.
func TestWroteByTheNumberInHand(t *testing.T) {
	l := of(append(chain, "want 7 shared")...)
	plays(t, l, "wrote 1 4 6: discard 6 to 3, discard 6 to 5")
	stands(t, l, "1!3 owner 1 past 3 5 hand 7s op 4")
	plays(t, l, "got 7 4:", "wrote 1 4 6: discard 6 to 3, discard 6 to 5")
	stands(t, l, "1=4 7=4 op 4")
}
