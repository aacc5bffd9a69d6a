package message

import (
	"bytes"

	"millpond/api"
	"millpond/wire"
)

// PutDatagram is a datagram's bytes.
func PutDatagram(d api.Datagram) ([]byte, api.Errno) {
	return unlessGivenUp(func() []byte {
		need(mayBeSent(d), api.ErrArg)
		return put(d, ofDatagram()...)
	})
}

// ReadDatagram is the datagram whose bytes these are.
func ReadDatagram(b []byte) (api.Datagram, api.Errno) {
	return unlessGivenUp(func() api.Datagram {
		need(len(b) <= api.MaxLetter, api.ErrLong)
		var d api.Datagram
		read(wire.Open(b), &d, ofDatagram()...)
		need(mayBeSent(d) && bytes.Equal(put(d, ofDatagram()...), b), api.ErrBytes)
		return d
	})
}

// mayBeSent tells whether there may be such a datagram.
func mayBeSent(d api.Datagram) bool {
	switch {
	case !isNode(d.From) || !isNode(d.To) || d.From == d.To:
		return false
	case !isNumber(d.View) || !isNumber(d.Seq) || !isNumber(d.Ack):
		return false
	case d.Seq == 0:
		return len(d.Body) == 0
	}
	return len(d.Body) <= api.MaxMessage
}

func isNumber(n int64) bool { return n >= 0 && n <= api.MaxNumber }

// ofDatagram is all that a datagram has, in order.
func ofDatagram() []part[api.Datagram] {
	return []part[api.Datagram]{
		number(func(d *api.Datagram) *int { return &d.From }),
		number(func(d *api.Datagram) *int { return &d.To }),
		number(func(d *api.Datagram) *int64 { return &d.View }),
		number(func(d *api.Datagram) *int64 { return &d.Seq }),
		number(func(d *api.Datagram) *int64 { return &d.Ack }),
		partOf(func(d *api.Datagram) *[]byte { return &d.Body }, wire.Bytes, letter),
	}
}

// letter is what a datagram carries.
func letter(r *wire.Reader) ([]byte, api.Errno) { return r.Bytes(api.MaxMessage) }
