package pool

import "millpond/api"

// isFrame tells whether a frame may be.
func isFrame(f api.Frame) bool {
	return f.Page >= 0 && f.Page < api.MaxPages && isMode(f.Mode) &&
		f.Op >= 0 && f.Op <= api.MaxNumber && isStamp(f.First) && isVersion(f.V)
}

func isMode(m api.Mode) bool { return m == api.Shared || m == api.Exclusive }

func isStamp(n int64) bool { return n >= 0 && n <= api.MaxStamp }

// isVersion tells whether a version may be: one that was never written has noughts.
func isVersion(v api.Version) bool {
	return isStamp(v.PSN) && (v.PSN > 0 || v.Body == api.Body{})
}
