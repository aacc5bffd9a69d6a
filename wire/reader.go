package wire

import "millpond/api"

// Reader goes over bytes, from form to form.
type Reader struct {
	open bool // tells a reader of no bytes from a zero one
	left []byte
}

// Open is a reader at the beginning of these bytes, as they are now.
func Open(b []byte) *Reader { return &Reader{open: true, left: Join(b)} }

// Left is how many bytes there are behind where the reader is.
func (r *Reader) Left() int {
	if r.none() {
		return 0
	}
	return len(r.left)
}

// End is OK, if no bytes are left.
func (r *Reader) End() api.Errno {
	switch {
	case r.none():
		return api.ErrNil
	case len(r.left) > 0:
		return api.ErrBytes
	}
	return api.OK
}

// Number reads a number.
func (r *Reader) Number() (uint64, api.Errno) { return whole(r, (*Reader).number) }

// Signed reads a signed number.
func (r *Reader) Signed() (int64, api.Errno) { return whole(r, (*Reader).signed) }

// Flag reads a flag.
func (r *Reader) Flag() (bool, api.Errno) { return whole(r, (*Reader).flag) }

// Bytes reads bytes, at most so many.
func (r *Reader) Bytes(most int) ([]byte, api.Errno) {
	return whole(r, func(r *Reader) ([]byte, api.Errno) { return r.bytes(most) })
}

// Take reads a list of at most so many things, each by one.
func Take[T any](r *Reader, most int, one func(*Reader) (T, api.Errno)) ([]T, api.Errno) {
	if one == nil {
		return nil, api.ErrNil
	}
	return whole(r, func(r *Reader) ([]T, api.Errno) { return list(r, most, one) })
}

func (r *Reader) none() bool { return r == nil || !r.open }

// whole is the one place that keeps a reader where it was beside an error, so that what reads need not undo how far it went.
func whole[T any](r *Reader, read func(*Reader) (T, api.Errno)) (T, api.Errno) {
	var zero T
	if r.none() {
		return zero, api.ErrNil
	}
	was := *r
	x, wrong := read(r)
	if wrong != api.OK {
		*r = was
		return zero, wrong
	}
	return x, api.OK
}

func (r *Reader) number() (uint64, api.Errno) {
	var n uint64
	shift := 0
digits:
	for i, b := range r.left {
		switch {
		case i > 0 && b == 0: // a last digit that is needless
			break digits
		case i == mostDigits-1 && b > topDigit: // this also ends what has too many digits
			break digits
		}
		n |= uint64(b%more) << shift
		shift += digitBits
		if b < more {
			r.left = r.left[i+1:]
			return n, api.OK
		}
	}
	return 0, api.ErrBytes
}

func (r *Reader) signed() (int64, api.Errno) {
	n, wrong := r.number()
	half := int64(n >> 1)
	if n%2 == 1 {
		half = ^half // -half - 1
	}
	return half, wrong
}

func (r *Reader) flag() (bool, api.Errno) {
	if len(r.left) == 0 || r.left[0] > 1 {
		return false, api.ErrBytes
	}
	is := r.left[0] == 1
	r.left = r.left[1:]
	return is, api.OK
}

func (r *Reader) bytes(most int) ([]byte, api.Errno) {
	n, wrong := r.count(most)
	switch {
	case wrong != api.OK:
		return nil, wrong
	case n > len(r.left):
		return nil, api.ErrBytes
	}
	b := Join(r.left[:n])
	r.left = r.left[n:]
	return b, api.OK
}

// list grows what it answers thing by thing: a count that is read is no reason yet to take the memory for it.
func list[T any](r *Reader, most int, one func(*Reader) (T, api.Errno)) ([]T, api.Errno) {
	n, wrong := r.count(most)
	if wrong != api.OK {
		return nil, wrong
	}
	var l []T
	for range n {
		x, wrong := one(r)
		if wrong != api.OK {
			return nil, wrong
		}
		l = append(l, x)
	}
	return l, api.OK
}

// count reads how many of something follow.
func (r *Reader) count(most int) (int, api.Errno) {
	if most < 0 {
		return 0, api.ErrArg
	}
	n, wrong := r.number()
	switch {
	case wrong != api.OK:
		return 0, wrong
	case n > uint64(most):
		return 0, api.ErrLong
	}
	return int(n), api.OK
}
