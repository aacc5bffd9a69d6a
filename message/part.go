package message

import (
	"millpond/api"
	"millpond/wire"
)

// part is how one thing that an M has is put as bytes, read again, and taken away.
type part[M any] struct {
	put  func(M) []byte
	read func(*wire.Reader, *M)
	drop func(*M)
}

// partOf is the part that stands at a place of an M.
func partOf[M, T any](at func(*M) *T, form func(T) []byte, take func(*wire.Reader) (T, api.Errno)) part[M] {
	return part[M]{
		put: func(m M) []byte { return form(*at(&m)) },
		read: func(r *wire.Reader, m *M) {
			what, wrong := take(r)
			need(wrong == api.OK, api.ErrBytes) // wire has other errors, too; but here all tell that the bytes are none of an M
			*at(m) = what
		},
		drop: func(m *M) {
			var nothing T
			*at(m) = nothing
		},
	}
}

// number is the part of any kind of number. One that is too great for that kind is read as one below 0, or as one that has another form.
func number[M any, N ~int | ~int64](at func(*M) *N) part[M] {
	return partOf(at,
		func(n N) []byte { return wire.Number(uint64(n)) },
		func(r *wire.Reader) (N, api.Errno) {
			n, wrong := r.Number()
			return N(n), wrong
		})
}

// put is these parts of an M, one behind the other.
func put[M any](m M, parts ...part[M]) []byte {
	var b []byte
	for _, p := range parts {
		b = append(b, p.put(m)...)
	}
	return b
}

// read fills these parts of an M, one behind the other.
func read[M any](r *wire.Reader, m *M, parts ...part[M]) {
	for _, p := range parts {
		p.read(r, m)
	}
}

// drop takes these parts of an M away.
func drop[M any](m *M, parts ...part[M]) {
	for _, p := range parts {
		p.drop(m)
	}
}
