package rebuild

import (
	"iter"

	"millpond/api"
	"millpond/area"
	"millpond/device"
	"millpond/page"
)

// Best is, of each page, its best one.
func Best(d *device.Device, j api.Job) ([]api.Found, api.Errno) {
	if wrong := refusal(d, j, true); wrong != api.OK {
		return nil, wrong
	}
	logged, wrong := bestLogged(d, j)
	if wrong != api.OK {
		return nil, wrong
	}
	var l []api.Found
	for p := range j.Pages {
		l = append(l, better(d, j, p, logged[p]))
	}
	return l, api.OK
}

// Durable is, of each page, its best one's version.
func Durable(d *device.Device, j api.Job) ([]api.Version, api.Errno) {
	best, wrong := Best(d, j)
	var l []api.Version
	for _, f := range best {
		l = append(l, f.V)
	}
	return l, wrong
}

// Missing goes over the best ones that are missing, as they are when it begins.
func Missing(d *device.Device, j api.Job) iter.Seq[api.Found] {
	return func(yield func(api.Found) bool) {
		best, _ := Best(d, j) // none beside an error
		missing(best)(yield)
	}
}

func missing(best []api.Found) iter.Seq[api.Found] {
	return func(yield func(api.Found) bool) {
		for _, f := range best {
			if !f.In && !yield(f) {
				return
			}
		}
	}
}

// Place is the version in a page's place, and whether that is whole.
func Place(d *device.Device, j api.Job, p int) (api.Version, bool, api.Errno) {
	at, wrong := area.Page(j, p)
	if wrong := refusal(d, j, wrong == api.OK); wrong != api.OK {
		return api.Version{}, false, wrong
	}
	a, b := halves(d, at)
	v, wrong := page.Get(p, a, b)
	return v, wrong == api.OK, api.OK
}

// bestLogged are the best ones of the logs alone, by pages; those of pages that are none of the job's too, for which nobody asks. Of one PSN the first record stays, as they come by the lowest node and LSN first.
func bestLogged(d *device.Device, j api.Job) (map[int]api.Found, api.Errno) {
	best := map[int]api.Found{}
	wrong := overLogs(d, j, func(r api.Record) {
		v := api.Version{PSN: r.PSN, Body: r.Body}
		if page.Better(v, best[r.Page].V) {
			best[r.Page] = api.Found{Page: r.Page, V: v, Node: r.Node, LSN: r.LSN}
		}
	})
	return best, wrong
}

// better is a page's best one, of what its place has and the logs' best one (zeros, if no log has the page). A place that is not whole counts as version 0, and does not have it.
func better(d *device.Device, j api.Job, p int, logged api.Found) api.Found {
	laid, whole, _ := Place(d, j, p)
	best := logged
	if !page.Better(logged.V, laid) {
		best = api.Found{Page: p, V: laid}
	}
	best.In = whole && best.V == laid
	return best
}
