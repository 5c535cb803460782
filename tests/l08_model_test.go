package tests

import (
	"slices"
	"testing"

	"loop.example/g00709/impl"
)

// The document's machine, written down a second time to compare with: on the
// model of a warp, and without the functions of the package.

func evSubmit(id int, r impl.Req) impl.Event { return impl.Event{Kind: 1, Warp: id, Req: r} }

func evPick(id int) impl.Event { return impl.Event{Kind: 2, Warp: id} }

func evGrow(n int) impl.Event { return impl.Event{Kind: 3, N: n} }

func sameMach(a impl.Mach, b impl.Mach) bool {
	return slices.Equal(a.Mem.Words, b.Mem.Words) && slices.EqualFunc(a.Warps, b.Warps, sameWarp)
}

func sameEvent(a impl.Event, b impl.Event) bool {
	return a.Kind == b.Kind && a.Warp == b.Warp && a.N == b.N && a.Req.Kind == b.Req.Kind && slices.Equal(a.Req.Vals, b.Req.Vals)
}

func copyEvents(list []impl.Event) []impl.Event {
	list = slices.Clone(list)
	for i := range list {
		list[i].Req.Vals = slices.Clone(list[i].Req.Vals)
	}
	return list
}

func isZeroMach(m impl.Mach) bool { return sameMach(m, impl.Mach{}) }

func copyMach(m impl.Mach) impl.Mach {
	next := impl.Mach{Mem: impl.Mem{Words: slices.Clone(m.Mem.Words)}}
	for _, w := range m.Warps {
		next.Warps = append(next.Warps, copyWarp(w))
	}
	return next
}

// headsOver returns the heads, before the chunk, of the large blocks that reach to it.
func headsOver(words []uint32, chunk int) []int {
	var list []int
	for at, x := range words[:chunk] {
		if c, _ := readCtl(x); c.State == 2 && at+c.Run > chunk {
			list = append(list, at)
		}
	}
	return list
}

// holdersOf returns the numbers of the warps that hold the chunk.
func holdersOf(warps []impl.Warp, chunk int) []int {
	var list []int
	for id, w := range warps {
		if slices.Contains(span(w.Probe, w.Held), chunk) {
			list = append(list, id)
		}
	}
	return list
}

func validMach(m impl.Mach) bool {
	words := m.Mem.Words
	if len(words) > 16 || len(m.Warps) < 1 || len(m.Warps) > 4 {
		return false
	}
	for _, x := range words {
		if _, ok := readCtl(x); !ok {
			return false
		}
	}
	for _, w := range m.Warps {
		if !validWarp(w, len(words)) {
			return false
		}
	}
	for chunk, x := range words {
		c, _ := readCtl(x)
		if c.State == 2 && chunk+c.Run > len(words) {
			return false
		}
		owners := len(headsOver(words, chunk)) + len(holdersOf(m.Warps, chunk))
		if c.State == 3 && owners != 1 || c.State != 3 && owners != 0 {
			return false
		}
	}
	return true
}

// ownersModel returns the owners of the chunks of a valid machine.
func ownersModel(m impl.Mach) []int {
	var list []int
	for chunk, x := range m.Mem.Words {
		c, _ := readCtl(x)
		switch {
		case c.State < 2:
			list = append(list, -1)
		case c.State == 2 || len(headsOver(m.Mem.Words, chunk)) > 0:
			list = append(list, -2)
		default:
			list = append(list, holdersOf(m.Warps, chunk)[0])
		}
	}
	return list
}

func allIdle(m impl.Mach) bool {
	return !slices.ContainsFunc(m.Warps, func(w impl.Warp) bool { return w.Kind != 0 })
}

func validEvent(e impl.Event) bool {
	warp := e.Warp >= 0 && e.Warp < 4
	none := e.Req.Kind == 0 && len(e.Req.Vals) == 0
	switch e.Kind {
	case 1:
		return warp && e.N == 0 && validReq(e.Req)
	case 2:
		return warp && e.N == 0 && none
	case 3:
		return e.Warp == 0 && e.N > 0 && e.N <= 16 && none
	}
	return false
}

// done is what an event leaves.
type done struct {
	mach  impl.Mach
	facts []impl.Fact
	code  int
}

// doModel processes an event of a machine.
func doModel(m impl.Mach, e impl.Event) done {
	if !validMach(m) {
		return done{code: 1}
	}
	m = copyMach(m)
	if !validEvent(e) || e.Warp >= len(m.Warps) {
		return done{mach: m, code: 1}
	}
	switch w := &m.Warps[e.Warp]; e.Kind {
	case 1:
		if w.Kind != 0 {
			return done{mach: m, code: 2}
		}
		*w = askedModel(e.Req)
	case 2:
		if w.Kind == 0 {
			return done{mach: m, code: 4}
		}
		s := stepModel(*w, e.Warp, m.Mem.Words)
		*w, m.Mem.Words = s.warp, s.words
		return done{mach: m, facts: s.facts}
	case 3:
		if len(m.Mem.Words)+e.N > 16 {
			return done{mach: m, code: 3}
		}
		m.Mem.Words = append(m.Mem.Words, make([]uint32, e.N)...)
	}
	return done{mach: m}
}

// askedModel is a warp after the submission of a valid request.
func askedModel(r impl.Req) impl.Warp {
	w := warpOf(r, allLanes(r))
	w.Got = slices.Repeat([]int{-1}, 8)
	if w.Todo == 0 {
		w.Kind = 0
	}
	return w
}

// runModel processes the events in order.
func runModel(m impl.Mach, list []impl.Event) done {
	all := done{mach: m}
	for _, e := range list {
		d := doModel(all.mach, e)
		all.mach, all.facts = d.mach, append(all.facts, d.facts...)
	}
	return all
}

// checkMach compares what is asked of a machine with the model, and returns whether it is valid.
func checkMach(t *testing.T, m impl.Mach) bool {
	t.Helper()
	ok, idle, owners := validMach(m), false, []int(nil)
	if ok {
		idle, owners = allIdle(m), ownersModel(m)
	}
	if got := impl.MachOk(m); got != ok {
		t.Fatalf("MachOk(%+v): got %v", m, got)
	}
	if got := impl.Owners(m); !slices.Equal(got, owners) {
		t.Fatalf("Owners(%+v): got %v, want %v", m, got, owners)
	}
	if got := impl.Quiet(m); got != idle {
		t.Fatalf("Quiet(%+v): got %v", m, got)
	}
	return ok
}

// checkDo compares an event with the model, and returns what the model expects.
func checkDo(t *testing.T, m impl.Mach, e impl.Event) done {
	t.Helper()
	was, events := copyMach(m), copyEvents([]impl.Event{e})
	want := doModel(m, e)
	next, facts, code := impl.MachDo(m, e)
	if code != want.code || !sameMach(next, want.mach) || !slices.Equal(facts, want.facts) {
		t.Fatalf("MachDo(%+v, %+v):\ngot  %+v %v %d\nwant %+v %v %d", m, e, next, facts, code, want.mach, want.facts, want.code)
	}
	if !sameMach(m, was) || !sameEvent(e, events[0]) {
		t.Fatalf("MachDo(%+v, %+v): an argument is changed", was, e)
	}
	return want
}

// checkRun compares a run with the model, and returns what the model expects.
func checkRun(t *testing.T, m impl.Mach, list []impl.Event) done {
	t.Helper()
	was, events := copyMach(m), copyEvents(list)
	want := runModel(m, list)
	next, facts, ok := impl.MachRun(m, list)
	if !ok || !sameMach(next, want.mach) || !slices.Equal(facts, want.facts) {
		t.Fatalf("MachRun(%+v, %+v):\ngot  %+v %v %v\nwant %+v %v true", m, list, next, facts, ok, want.mach, want.facts)
	}
	if !sameMach(m, was) || !slices.EqualFunc(list, events, sameEvent) {
		t.Fatalf("MachRun(%+v, %+v): an argument is changed", was, events)
	}
	return want
}

func checkRunRefused(t *testing.T, m impl.Mach, list []impl.Event) {
	t.Helper()
	next, facts, ok := impl.MachRun(m, list)
	if ok || !isZeroMach(next) || len(facts) != 0 {
		t.Fatalf("MachRun(%+v, %d events): got %+v %v %v, want zero values and false", m, len(list), next, facts, ok)
	}
}
