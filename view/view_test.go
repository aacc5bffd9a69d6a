package view_test

import (
	"math"
	"math/bits"
	"math/rand"
	"slices"
	"testing"

	"millpond/api"
	"millpond/view"
)

// first is the view of a new device.
var first = api.View{Open: true}

// far are numbers that no bound lets in; some have one that may be in their lowest byte, or in their lowest four.
var far = []int{-1, -2, -8, -256, 256, 258, 1 << 32, 1<<32 + 2, 2 - 1<<32, 1<<62 + 1, math.MaxInt, math.MaxInt - 1, math.MinInt, math.MinInt + 1, math.MinInt + 2}

// wrongNodes are none; wrongEpochs no member's; wrongNumbers no view's but the first one's.
var (
	wrongNodes   = append([]int{api.MaxNodes, api.MaxNodes + 1, 15, 16}, far...)
	wrongEpochs  = []int64{0, -1, -2, math.MinInt64, math.MinInt64 + 1, api.MaxEpoch + 1, api.MaxEpoch + 2, -api.MaxEpoch, 1 << 32, 1<<32 + 1, 1<<32 + 3, 1<<62 + 1, math.MaxInt64}
	wrongNumbers = []int64{0, -1, -2, math.MinInt64, math.MinInt64 + 1, api.MaxNumber + 1, api.MaxNumber + 2, -api.MaxNumber, math.MaxInt64}
)

// of is a view; what follows are its members, each node with its epoch.
func of(number int64, open bool, founder int, members ...int64) api.View {
	v := api.View{Number: number, Open: open, Founder: founder}
	for i := 0; i+1 < len(members); i += 2 {
		v.Members[members[i]] = api.Member{In: true, Epoch: members[i+1]}
	}
	return v
}

// full is a view in which all nodes are.
func full(number int64, open bool) api.View {
	return of(number, open, 5, 0, 1, 1, 9, 2, 256, 3, 77777, 4, 4, 5, api.MaxEpoch, 6, 3, 7, api.MaxEpoch-1)
}

// some are views that may be, at the bounds and between.
func some() []api.View {
	return []api.View{
		first,
		of(1, false, 2, 2, 1), of(1, true, 0, 0, 1), of(1, true, 7, 7, api.MaxEpoch),
		of(2, false, 0, 0, 3, 2, 1), of(2, true, 2, 0, 3, 2, 1), of(300, false, 1, 1, 255, 7, 256),
		of(1<<32, true, 6, 3, 1, 6, 1<<24, 7, 2), of(0x0102030405060708, false, 3, 3, 0x01020304),
		full(5, false), full(6, true), full(api.MaxNumber, false), full(api.MaxNumber, true),
		of(api.MaxNumber-1, true, 0, 0, 1, 1, 1), of(api.MaxNumber, false, 7, 0, 1, 7, 1), of(api.MaxNumber, true, 3, 3, 5),
	}
}

// wrong are views that may not be, most of them for one thing.
func wrong() []api.View {
	l := []api.View{
		{}, {Founder: 1, Open: true}, {Founder: 7, Open: true}, {Founder: -1, Open: true}, {Founder: 8, Open: true}, // nearly the first one
		of(0, true, 0, 0, 1), of(0, false, 0, 0, 1), of(0, true, 2, 2, 1), of(0, true, 0, 7, api.MaxEpoch), full(0, true), full(0, false),
		of(1, true, 0), of(1, false, 0), of(2, true, 3), of(api.MaxNumber, false, 0), // nobody is in
		of(1, true, 0, 1, 1), of(1, false, 1, 0, 1), of(5, true, 7, 0, 1, 1, 1, 2, 1, 3, 1, 4, 1, 5, 1, 6, 1), of(5, false, 0, 1, 1, 2, 1), // the founder is not
	}
	for node := range api.MaxNodes { // an epoch of one that is no member; a member without one
		for _, epoch := range []int64{1, -1, 7, api.MaxEpoch, math.MaxInt64, math.MinInt64} {
			for _, v := range []api.View{first, of(3, false, (node+1)%api.MaxNodes, int64(node+1)%api.MaxNodes, 4), full(3, true)} {
				v.Members[node] = api.Member{Epoch: epoch}
				if v.Founder == node && v.Number > 0 {
					v.Founder = (node + 1) % api.MaxNodes
				}
				l = append(l, v)
			}
		}
		v := first
		v.Members[node].In = true
		l = append(l, v)
		for _, epoch := range wrongEpochs {
			l = append(l, of(3, true, node, int64(node), epoch), of(3, true, (node+1)%api.MaxNodes, int64(node), epoch, int64(node+1)%api.MaxNodes, 4))
			v := full(api.MaxNumber, false)
			v.Members[node].Epoch = epoch
			l = append(l, v)
		}
		v = full(4, true)
		v.Founder = node
		v.Members[node] = api.Member{}
		l = append(l, v)
	}
	for _, n := range wrongNumbers {
		l = append(l, full(n, true), full(n, false), of(n, true, 0, 0, 1), of(n, false, 0, 0, 1))
		if n != 0 {
			l = append(l, api.View{Number: n, Open: true}, api.View{Number: n})
		}
	}
	for _, n := range wrongNodes {
		for _, v := range []api.View{first, of(1, false, 0, 0, 1), full(6, true)} {
			v.Founder = n
			l = append(l, v)
		}
	}
	return l
}

// mayByWords tells by the chapter's words whether a view may be.
func mayByWords(v api.View) bool {
	if v.Number == 0 && v.Open && v.Founder == 0 && v.Members == [api.MaxNodes]api.Member{} {
		return true
	}
	ok := v.Number >= 1 && v.Number <= 1<<62
	founders := 0
	for node, m := range v.Members {
		if m.In && node == v.Founder {
			founders++
		}
		if m.In {
			ok = ok && m.Epoch >= 1 && m.Epoch <= 2147483647
		} else {
			ok = ok && m.Epoch == 0
		}
	}
	return ok && founders == 1
}

// rights and wrongs are what near takes from.
var rights, wrongs = some(), wrong()

// near is a view that may be, or nearly so.
func near(r *rand.Rand) api.View {
	var v api.View
	switch r.Intn(4) {
	case 0:
		v = rights[r.Intn(len(rights))]
	case 1:
		v = wrongs[r.Intn(len(wrongs))]
	default:
		v = api.View{Number: 1 + r.Int63n(5), Open: r.Intn(2) == 0, Founder: r.Intn(api.MaxNodes)}
		for in, node := r.Intn(256), 0; node < api.MaxNodes; node++ {
			if in>>node&1 == 1 || node == v.Founder {
				v.Members[node] = api.Member{In: true, Epoch: 1 + r.Int63n(4)}
			}
		}
	}
	for range r.Intn(4) - 1 {
		node := r.Intn(api.MaxNodes)
		switch r.Intn(6) {
		case 0:
			v.Number = append([]int64{1, 2, api.MaxNumber}, wrongNumbers...)[r.Intn(3+len(wrongNumbers))]
		case 1:
			v.Founder = r.Intn(10) - 1
		case 2:
			v.Open = !v.Open
		case 3:
			v.Members[node].In = !v.Members[node].In
		case 4:
			v.Members[node].Epoch = append([]int64{1, api.MaxEpoch}, wrongEpochs...)[r.Intn(2+len(wrongEpochs))]
		case 5:
			v.Members[node] = api.Member{}
		}
	}
	return v
}

// is fails unless a call answered that view.
func is(t *testing.T, name string, got api.View, e api.Errno, want api.View) {
	t.Helper()
	if got != want || e != api.OK {
		t.Errorf("%s: %+v, %v; not %+v", name, got, e, want)
	}
}

// refused fails unless a call answered that error, and nothing beside it.
func refused(t *testing.T, name string, got api.View, e, want api.Errno) {
	t.Helper()
	if got != (api.View{}) || e != want {
		t.Errorf("%s: %+v, %v; not %v", name, got, e, want)
	}
}

// joined is Join's answer.
func joined(t *testing.T, v api.View, node int, epoch int64) api.View {
	t.Helper()
	next, e := view.Join(v, node, epoch)
	if e != api.OK {
		t.Fatalf("Join(%+v, %d, %d): %v", v, node, epoch, e)
	}
	return next
}

// P9.1, P9.2, P9.3: the chapter's examples.
func TestExamples(t *testing.T) {
	one := joined(t, first, 2, 1)
	is(t, "Join of the first one", one, api.OK, of(1, false, 2, 2, 1))
	two := joined(t, one, 0, 3)
	is(t, "Join of that", two, api.OK, of(2, false, 0, 0, 3, 2, 1))
	for page, want := range map[int]int{0: 0, 1: 2, 5: 2} {
		if m, ok := view.Master(two, page); m != want || !ok {
			t.Errorf("Master(%d): %d, %v", page, m, ok)
		}
	}
	v, e := view.Join(two, 0, 3)
	refused(t, "Join(0, 3)", v, e, api.ErrThere)
	if four := joined(t, two, 0, 4); view.Is(four, 0, 3) || !view.Is(four, 0, 4) {
		t.Errorf("Join(0, 4): %+v", four)
	}
	v, e = view.Out(two, 2, 0)
	is(t, "Out(2, 0)", v, e, of(3, false, 2, 2, 1))
	v, e = view.Out(two, 2, 2)
	refused(t, "Out(2, 2)", v, e, api.ErrArg)
	v, e = view.Out(two, 2, 1)
	refused(t, "Out(2, 1)", v, e, api.ErrNone)
	v, e = view.Get(api.Sector{})
	is(t, "Get of noughts", v, e, first)
	if s, e := view.Put(api.View{}); s != (api.Sector{}) || e != api.ErrArg {
		t.Errorf("Put of the first one, but not open: % x, %v", s, e)
	}
}

// P9.1: views at the bounds and between.
func TestViewsThatMayBe(t *testing.T) {
	for _, v := range some() {
		if !view.May(v) {
			t.Errorf("%+v may be", v)
		}
	}
}

// P9.1: nearly the first one; numbers, founders, epochs just beyond their bounds and far from them; a founder that is no member, an epoch of one that is none.
func TestViewsThatMayNotBe(t *testing.T) {
	for _, v := range wrong() {
		if view.May(v) {
			t.Errorf("%+v may not be", v)
		}
	}
}

// P9.1: each set of members with each founder, open and not.
func TestMayOfEachSetOfMembers(t *testing.T) {
	for in := range 256 {
		for founder := range api.MaxNodes {
			for _, number := range []int64{0, 1, api.MaxNumber, api.MaxNumber + 1} {
				for _, open := range []bool{true, false} {
					v := api.View{Number: number, Open: open, Founder: founder}
					for node := range api.MaxNodes {
						if in>>node&1 == 1 {
							v.Members[node] = api.Member{In: true, Epoch: int64(node) + 1}
						}
					}
					later := number >= 1 && number <= api.MaxNumber && in>>founder&1 == 1
					if want := later || number == 0 && open && founder == 0 && in == 0; view.May(v) != want {
						t.Errorf("May(%+v) is not %v", v, want)
					}
					if want := bits.OnesCount(uint(in)); later && view.Count(v) != want {
						t.Errorf("Count(%+v): %d", v, view.Count(v))
					}
				}
			}
		}
	}
}

// P9.1: any views, by the chapter's words.
func TestMayOfAnyViews(t *testing.T) {
	r := rand.New(rand.NewSource(91))
	var many [2]int
	for range 100000 {
		v := near(r)
		want := mayByWords(v)
		if view.May(v) != want {
			t.Fatalf("May(%+v) is not %v", v, want)
		}
		if want {
			many[0]++
		} else {
			many[1]++
		}
	}
	if slices.Min(many[:]) < 10000 {
		t.Errorf("%v may be, or not", many)
	}
}
