package message_test

import (
	"bytes"
	"slices"
	"testing"

	"millpond/api"
	"millpond/message"
)

// P18.1, P18.2: the chapter's examples.
func TestExamples(t *testing.T) {
	lies(t, api.Message{Kind: api.MessageWant, Page: 3, Mode: api.Exclusive}, "\x01\x03\x02")
	lies(t, api.Message{Kind: api.MessageImage, Page: 1, Op: 2, Mode: api.Shared, PSN: 5, Dirty: true, Body: body("x")}, "\x07\x01\x02\x01\x05\x01\x01\x78")
	reads(t, "a mode that is none", "\x01\x03\x03", api.ErrBytes)
	reads(t, "a byte more", "\x01\x03\x02\x00", api.ErrBytes)
	reads(t, "a page that is none", "\x01\x10\x01", api.ErrBytes)
	refused(t, api.Message{Kind: api.MessageGot, Page: 1, Op: 0})
	refused(t, api.Message{Kind: api.MessageGot, Page: 1, Op: 1, To: 1})
	if message.Name(13) != "discard" || message.Name(14) != "" {
		t.Error(message.Name(13), message.Name(14))
	}
}

// P18.1, P18.2: what README.md shows.
func TestReadme(t *testing.T) {
	want := api.Message{Kind: api.MessageWant, Page: 3, Mode: api.Exclusive}
	b, e := message.Put(want)
	if !bytes.Equal(b, []byte{1, 3, 2}) || e != api.OK {
		t.Error(b, e)
	}
	if m, e := message.Read(b); m != want || e != api.OK {
		t.Error(m, e)
	}
	want.To = 1
	refused(t, want)
	sent := api.Datagram{From: 0, To: 1, View: 5, Seq: 1, Body: b}
	letter, e := message.PutDatagram(sent)
	if !bytes.Equal(letter, []byte{0, 1, 5, 1, 0, 3, 1, 3, 2}) || e != api.OK {
		t.Error(letter, e)
	}
	if d, e := message.ReadDatagram(letter); !same(d, sent) || e != api.OK {
		t.Error(d, e)
	}
	if message.Name(api.MessageWant) != "want" || !slices.Equal(message.Fields(api.MessageWant), []api.Field{api.FieldPage, api.FieldMode}) || message.Master(api.MessageWant) {
		t.Error("what tells of Want")
	}
}
