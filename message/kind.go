package message

import (
	"iter"

	"millpond/api"
)

// kind is what all messages of a kind have in common.
type kind struct {
	name   string
	master bool
	names  []api.Field
}

// kinds tells of each kind, at its number. At 0, which none has, nothing stands.
func kinds() [1 + api.MessageDiscard]kind {
	return [...]kind{
		api.MessageWant:    {"want", false, []api.Field{api.FieldPage, api.FieldMode}},
		api.MessageGrant:   {"grant", true, []api.Field{api.FieldPage, api.FieldOp, api.FieldMode}},
		api.MessageShare:   {"share", true, []api.Field{api.FieldPage, api.FieldOp, api.FieldTo}},
		api.MessageYield:   {"yield", true, []api.Field{api.FieldPage, api.FieldOp, api.FieldTo}},
		api.MessageDrop:    {"drop", true, []api.Field{api.FieldPage, api.FieldOp}},
		api.MessageGone:    {"gone", false, []api.Field{api.FieldPage, api.FieldOp}},
		api.MessageImage:   {"image", false, []api.Field{api.FieldPage, api.FieldOp, api.FieldMode, api.FieldPSN, api.FieldDirty, api.FieldBody}},
		api.MessageGot:     {"got", false, []api.Field{api.FieldPage, api.FieldOp}},
		api.MessageRelease: {"release", false, []api.Field{api.FieldPage, api.FieldOp}},
		api.MessageWrote:   {"wrote", false, []api.Field{api.FieldPage, api.FieldOp, api.FieldPSN}},
		api.MessageClean:   {"clean", false, []api.Field{api.FieldPage}},
		api.MessageFlush:   {"flush", true, []api.Field{api.FieldPage, api.FieldOp}},
		api.MessageDiscard: {"discard", true, []api.Field{api.FieldPage, api.FieldPSN}},
	}
}

// Name is a kind's, or none.
func Name(k api.MessageKind) string { return of(k).name }

// Fields is what a kind names, in order.
func Fields(k api.MessageKind) []api.Field { return of(k).names }

// Master tells whether a page's master says messages of a kind.
func Master(k api.MessageKind) bool { return of(k).master }

// Kinds goes over the kinds, rising, each with its name.
func Kinds() iter.Seq2[api.MessageKind, string] {
	return func(yield func(api.MessageKind, string) bool) {
		for k := api.MessageWant; k <= api.MessageDiscard; k++ {
			if !yield(k, Name(k)) {
				return
			}
		}
	}
}

// of tells of a kind; of what is none nothing.
func of(k api.MessageKind) kind {
	if k < api.MessageWant || k > api.MessageDiscard {
		return kind{}
	}
	return kinds()[k]
}
