package message_test

import (
	"slices"
	"testing"

	"millpond/api"
	"millpond/message"
)

// told is what Kinds tells at once.
type told struct {
	kind api.MessageKind
	name string
}

// allByWords is what Kinds goes over, by the chapter's table.
func allByWords() []told {
	var l []told
	for _, k := range kindsByWords() {
		l = append(l, told{k, namesByWords[k]})
	}
	return l
}

// fields are those that letters stand for.
func fields(letters string) []api.Field {
	var l []api.Field
	for _, c := range letters {
		l = append(l, map[rune]api.Field{'P': api.FieldPage, 'O': api.FieldOp, 'M': api.FieldMode, 'T': api.FieldTo, 'V': api.FieldPSN, 'D': api.FieldDirty, 'B': api.FieldBody}[c])
	}
	return l
}

// P18.2: the numbers of the kinds, their names, and what they name.
func TestKindsByTheTable(t *testing.T) {
	for n, k := range []api.MessageKind{api.MessageWant, api.MessageGrant, api.MessageShare, api.MessageYield, api.MessageDrop, api.MessageGone, api.MessageImage, api.MessageGot, api.MessageRelease, api.MessageWrote, api.MessageClean, api.MessageFlush, api.MessageDiscard} {
		if int(k) != n+1 || message.Name(k) != namesByWords[n+1] {
			t.Errorf("the kind %d: %q", k, message.Name(k))
		}
		if l := message.Fields(k); !slices.Equal(l, fields(fieldsByWords[k])) || !slices.IsSorted(l) {
			t.Errorf("%s names %v", message.Name(k), l)
		}
	}
}

// P18.2: which kinds a master says.
func TestMaster(t *testing.T) {
	var l []string
	for k := api.MessageKind(-3); k < 20; k++ {
		if message.Master(k) {
			l = append(l, message.Name(k))
		}
	}
	if !slices.Equal(l, []string{"grant", "share", "yield", "drop", "flush", "discard"}) {
		t.Error(l)
	}
}

// P18.2: numbers that are no kind.
func TestLooksAtNoKinds(t *testing.T) {
	for _, k := range noKinds {
		if message.Name(k) != "" || len(message.Fields(k)) > 0 || message.Master(k) {
			t.Errorf("the kind %d: %q, %v, %v", k, message.Name(k), message.Fields(k), message.Master(k))
		}
	}
}

// P18.2: what Fields tells is the caller's.
func TestFieldsAreTheCallers(t *testing.T) {
	for _, k := range kindsByWords() {
		l, other := message.Fields(k), message.Fields(k)
		for i := range l {
			l[i] = 99
		}
		_ = append(l[:1], 98)
		if want := fields(fieldsByWords[k]); !slices.Equal(message.Fields(k), want) || !slices.Equal(other, want) || !message.May(plain(k)) {
			t.Errorf("the kind %d names %v", k, message.Fields(k))
		}
	}
}

// P18.2: Kinds gone through wholly, left at each place, gone through again, and within itself.
func TestKinds(t *testing.T) {
	want := allByWords()
	goes := message.Kinds()
	for many := 1; many <= len(want)+1; many++ {
		for _, kinds := range []func(func(api.MessageKind, string) bool){goes, message.Kinds()} {
			var l []told
			for k, name := range kinds {
				if l = append(l, told{k, name}); len(l) == many {
					break
				}
			}
			if !slices.Equal(l, want[:min(many, len(want))]) {
				t.Errorf("%d of Kinds: %v", many, l)
			}
		}
	}
	pairs := 0
	for range goes {
		for range goes {
			pairs++
		}
	}
	if pairs != 13*13 {
		t.Error(pairs)
	}
}
