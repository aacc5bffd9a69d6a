package message

import (
	"bytes"

	"millpond/api"
	"millpond/wire"
)

// kindPart is a message's kind, which stands ahead of what that names.
func kindPart() part[api.Message] {
	return number(func(m *api.Message) *api.MessageKind { return &m.Kind })
}

// fieldParts is a message's fields, each at its number.
func fieldParts() [1 + api.FieldBody]part[api.Message] {
	return [...]part[api.Message]{
		api.FieldPage:  number(func(m *api.Message) *int { return &m.Page }),
		api.FieldOp:    number(func(m *api.Message) *int64 { return &m.Op }),
		api.FieldMode:  number(func(m *api.Message) *api.Mode { return &m.Mode }),
		api.FieldTo:    number(func(m *api.Message) *int { return &m.To }),
		api.FieldPSN:   number(func(m *api.Message) *int64 { return &m.PSN }),
		api.FieldDirty: partOf(func(m *api.Message) *bool { return &m.Dirty }, wire.Flag, (*wire.Reader).Flag),
		api.FieldBody:  partOf(func(m *api.Message) *api.Body { return &m.Body }, putBody, readBody),
	}
}

// named is what a kind names, in order.
func named(k api.MessageKind) []part[api.Message] {
	fields := fieldParts()
	var l []part[api.Message]
	for _, f := range Fields(k) {
		l = append(l, fields[f])
	}
	return l
}

// putBody leaves the noughts at a body's end out.
func putBody(b api.Body) []byte { return wire.Bytes(bytes.TrimRight(b[:], "\x00")) }

func readBody(r *wire.Reader) (api.Body, api.Errno) {
	var b api.Body
	written, wrong := r.Bytes(len(b))
	copy(b[:], written)
	return b, wrong
}

// mayHave tells whether what a message has in a field that its kind names may be there.
func mayHave(m api.Message, f api.Field) bool {
	switch f {
	case api.FieldPage:
		return m.Page >= 0 && m.Page < api.MaxPages
	case api.FieldOp:
		return m.Op >= 1 && m.Op <= api.MaxNumber
	case api.FieldMode:
		return m.Mode == api.Shared || m.Mode == api.Exclusive
	case api.FieldTo:
		return isNode(m.To)
	case api.FieldPSN:
		return m.PSN >= leastPSN(m.Kind) && m.PSN <= api.MaxStamp
	case api.FieldBody:
		return m.PSN != 0 || m.Body == api.Body{}
	}
	return true // a flag may be either
}

// leastPSN is 0 where a page is sent, which may be one that was never written; what was written back, or is needless, was written.
func leastPSN(k api.MessageKind) int64 {
	if k == api.MessageImage {
		return 0
	}
	return 1
}

func isNode(n int) bool { return n >= 0 && n < api.MaxNodes }
