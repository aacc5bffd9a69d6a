package holder

import (
	"iter"

	"millpond/api"
)

// Look is a page's frame, if it has one; that is no use of it.
func (h *Holder) Look(page int) (api.Frame, bool) { return h.has().Look(page) }

// Frames goes over the frames, by rising pages. A copy is gone over, as they were when it was called.
func (h *Holder) Frames() iter.Seq[api.Frame] { return h.has().Pool.Copy().All() }

// Marks goes over the marks, in their order, as they were when it was called.
func (h *Holder) Marks() iter.Seq[api.Mark] { return h.has().Past.Copy().All() }

// Room is how many records the log has room for.
func (h *Holder) Room() int { return h.has().Log.Room() }

// Start is the log's first record's number.
func (h *Holder) Start() int64 { return h.has().Start() }

// Next is the log's next record's number.
func (h *Holder) Next() int64 { return h.has().Next() }

// Flushed is the number of the log's last record that stands on the device.
func (h *Holder) Flushed() int64 { return h.has().Flushed() }

// has is what a holder has; of none it is no log, no pool and no marks, whose looks tell nothing.
func (h *Holder) has() own {
	if h.none() {
		return own{}
	}
	return h.own
}
