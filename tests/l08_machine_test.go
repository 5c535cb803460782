package tests

import (
	"iter"
	"math"
	"slices"
	"testing"

	"loop.example/g00709/impl"
)

// Promise 2, the machine: each chunk is free, a page, part of one large block,
// or held by one warp, and every event leaves a valid machine valid. Here on
// single machines and events, valid and not valid ones; whole runs are in
// l08_runs_test.go.

func machOf(words []uint32, warps ...impl.Warp) impl.Mach {
	return impl.Mach{Mem: impl.Mem{Words: words}, Warps: warps}
}

// reserving returns a warp that requests a large block and holds some chunks.
func reserving(size int, phase int, probe int, n int) impl.Warp {
	w := warpOf(takeReq(size), 1)
	w.Phase, w.Probe, w.Held = phase, probe, n
	return w
}

// freeing returns a warp that is freeing the chunks of a large block.
func freeing(probe int, n int) impl.Warp {
	w := warpOf(giveReq(16*probe), 1)
	w.Phase, w.Probe, w.Held = 2, probe, n
	return w
}

// idles returns that many idle warps.
func idles(n int) []impl.Warp {
	var list []impl.Warp
	for range n {
		list = append(list, impl.WarpNew())
	}
	return list
}

func TestMachConstants(t *testing.T) {
	got := []int{
		impl.MaxWarps, impl.MaxEvents, impl.EvSubmit, impl.EvPick, impl.EvGrow,
		impl.MachFine, impl.MachForm, impl.MachBusy, impl.MachFull, impl.MachIdle,
	}
	if !slices.Equal(got, []int{4, 400, 1, 2, 3, 0, 1, 2, 3, 4}) {
		t.Errorf("got %v", got)
	}
}

func TestNewMachs(t *testing.T) {
	for chunks := range 17 {
		for warps := 1; warps <= 4; warps++ {
			m, ok := impl.MachNew(chunks, warps)
			none := slices.Repeat([]int{-1}, 8)
			want := machOf(make([]uint32, chunks), slices.Repeat([]impl.Warp{{Vals: none, Got: none}}, warps)...)
			if !ok || !sameMach(m, want) {
				t.Errorf("MachNew(%d, %d): got %+v %v", chunks, warps, m, ok)
			}
			if !checkMach(t, m) || !impl.Quiet(m) {
				t.Errorf("MachNew(%d, %d): not valid, or not quiet", chunks, warps)
			}
		}
	}
}

func badWarpCounts() []int {
	return []int{0, -1, 5, -2, -4, 6, 8, 16, 256, 1 << 32, 1<<32 + 1, -1 << 32, -1<<32 + 1, math.MinInt, math.MinInt + 1, math.MaxInt - 3, math.MaxInt}
}

func TestNewMachsRefused(t *testing.T) {
	check := func(chunks int, warps int) {
		if m, ok := impl.MachNew(chunks, warps); ok || !isZeroMach(m) {
			t.Errorf("MachNew(%d, %d): got %+v %v", chunks, warps, m, ok)
		}
	}
	for _, chunks := range badChunkCounts() {
		check(chunks, 1)
		check(chunks, 4)
		check(chunks, 0)
	}
	for _, warps := range badWarpCounts() {
		check(0, warps)
		check(16, warps)
	}
}

func TestOwnersOfKnownMachs(t *testing.T) {
	full := append([]uint32{head(16)}, slices.Repeat([]uint32{held}, 15)...)
	for _, c := range []struct {
		words  []uint32
		warps  []impl.Warp
		owners []int
	}{
		{nil, idles(1), nil},
		{[]uint32{0, page(0, 1), page(4, 1), page(2, 15)}, idles(4), []int{-1, -1, -1, -1}},
		{full, idles(2), slices.Repeat([]int{-2}, 16)},
		{[]uint32{head(2), held, head(2), held, head(3), held, held}, idles(1), []int{-2, -2, -2, -2, -2, -2, -2}},
		{append(make([]uint32, 14), head(2), held), idles(1), append(slices.Repeat([]int{-1}, 14), -2, -2)},
		{[]uint32{head(2), held, held, page(1, 1)}, []impl.Warp{reserving(17, 1, 2, 1)}, []int{-2, -2, 0, -1}},
		{[]uint32{held, held, held, 0}, []impl.Warp{impl.WarpNew(), reserving(64, 2, 0, 3)}, []int{1, 1, 1, -1}},
		{[]uint32{held, held}, []impl.Warp{reserving(32, 3, 0, 2)}, []int{0, 0}},
		{[]uint32{held, held, held, held, 0}, []impl.Warp{freeing(3, 1), reserving(33, 0, 2, 1), reserving(80, 2, 0, 1), freeing(1, 1)}, []int{2, 3, 1, 0, -1}},
		{[]uint32{held, head(2), held, held}, []impl.Warp{freeing(3, 1), impl.WarpNew(), freeing(0, 1)}, []int{2, -2, -2, 0}},
		{slices.Repeat([]uint32{held}, 16), []impl.Warp{impl.WarpNew(), impl.WarpNew(), impl.WarpNew(), freeing(0, 16)}, slices.Repeat([]int{3}, 16)},
	} {
		m := machOf(c.words, c.warps...)
		if !impl.MachOk(m) || !slices.Equal(impl.Owners(m), c.owners) {
			t.Errorf("%+v: got %v %v, want the owners %v", m, impl.MachOk(m), impl.Owners(m), c.owners)
		}
		checkMach(t, m)
	}
}

// mismatched has machines whose words and warps are valid, but not together.
func mismatched() []impl.Mach {
	full := append([]uint32{head(16)}, slices.Repeat([]uint32{held}, 15)...)
	idle := impl.WarpNew()
	return []impl.Mach{
		// A held chunk that nobody has.
		machOf([]uint32{held}, idle), machOf([]uint32{0, held}, idle), machOf([]uint32{head(2), held, held}, idle),
		machOf([]uint32{held, head(2), held}, idle), machOf([]uint32{held, held}, freeing(0, 1)), machOf([]uint32{held, held}, freeing(1, 1)),
		machOf([]uint32{head(2), held, 0, held}, idle), machOf([]uint32{held}, warpOf(giveReq(0), 1)), machOf([]uint32{held, held}, reserving(32, 0, 0, 1)),
		// A head without the chunks after it.
		machOf([]uint32{head(2)}, idle), machOf([]uint32{0, head(2)}, idle), machOf([]uint32{head(3), held}, idle), machOf(full[:15], idle),
		machOf(append(make([]uint32, 15), head(2)), idle), machOf(append([]uint32{0}, full[:15]...), idle),
		// A chunk after a head that is not held.
		machOf([]uint32{head(2), 0}, idle), machOf([]uint32{head(2), page(4, 1)}, idle), machOf([]uint32{head(3), held, 0}, idle),
		machOf([]uint32{head(3), 0, held}, idle), machOf([]uint32{head(2), head(2), held}, idle), machOf([]uint32{head(3), head(2), held}, idle),
		machOf([]uint32{head(3), held, head(2), held}, idle), machOf([]uint32{head(4), head(3), held, held}, idle),
		// A chunk of a warp that is not held.
		machOf([]uint32{0}, freeing(0, 1)), machOf([]uint32{page(0, 1)}, freeing(0, 1)), machOf([]uint32{held, 0}, freeing(0, 2)),
		machOf([]uint32{0, held}, freeing(0, 2)), machOf([]uint32{head(2), held}, freeing(0, 2)), machOf([]uint32{head(2), held}, freeing(0, 1)),
		machOf([]uint32{0, 0}, reserving(32, 1, 0, 1)), machOf([]uint32{held, page(3, 1)}, reserving(32, 3, 0, 2)), machOf([]uint32{held, 0, 0}, reserving(48, 2, 0, 2)),
		// A chunk that two have.
		machOf([]uint32{head(2), held}, freeing(1, 1)), machOf([]uint32{head(3), held, held}, idle, freeing(2, 1)), machOf([]uint32{head(2), held, 0}, reserving(32, 0, 1, 1)),
		machOf([]uint32{held}, freeing(0, 1), freeing(0, 1)), machOf([]uint32{held, held}, freeing(0, 2), reserving(32, 1, 0, 1)),
		machOf([]uint32{held, held, held}, freeing(0, 2), freeing(1, 2)), machOf([]uint32{held, held, held}, freeing(1, 2), idle, freeing(0, 2)),
		machOf([]uint32{head(3), held, held}, freeing(1, 1), freeing(1, 1)), machOf(full, freeing(15, 1)), machOf(slices.Repeat([]uint32{held}, 16), freeing(0, 16), idle, idle, freeing(15, 1)),
	}
}

// checkMachRefused checks that no function accepts the machine.
func checkMachRefused(t *testing.T, m impl.Mach) {
	t.Helper()
	if impl.MachOk(m) || len(impl.Owners(m)) != 0 || impl.Quiet(m) {
		t.Fatalf("%+v: got %v %v %v, want false, nil and false", m, impl.MachOk(m), impl.Owners(m), impl.Quiet(m))
	}
	for _, e := range []impl.Event{evSubmit(0, takeReq(1)), evPick(0), evGrow(1), {}} {
		next, facts, code := impl.MachDo(m, e)
		if code != 1 || !isZeroMach(next) || len(facts) != 0 {
			t.Fatalf("MachDo(%+v, %+v): got %+v %v %d", m, e, next, facts, code)
		}
	}
	checkRunRefused(t, m, nil)
	checkRunRefused(t, m, []impl.Event{evPick(0)})
}

func TestWordsAndWarpsThatDoNotMatch(t *testing.T) {
	for _, m := range mismatched() {
		for _, w := range m.Warps {
			checkOk(t, w, len(m.Mem.Words), true)
		}
		checkMachRefused(t, m)
	}
}

func TestMachsWithWordsThatAreNone(t *testing.T) {
	checkMachRefused(t, impl.Mach{})
	for _, x := range badWords() {
		for _, chunks := range []int{1, 3, 16} {
			for at := range chunks {
				words := make([]uint32, chunks)
				words[at] = x
				checkMachRefused(t, machOf(words, impl.WarpNew()))
			}
		}
	}
	for _, n := range []int{17, 18, 32, 63, 64, 65, 256} {
		checkMachRefused(t, machOf(make([]uint32, n), impl.WarpNew()))
	}
}

func TestMachsWithWarpsThatAreNone(t *testing.T) {
	for _, n := range []int{0, 5, 6, 8, 16, 256} {
		checkMachRefused(t, machOf(make([]uint32, 4), idles(n)...))
		checkMachRefused(t, machOf(nil, idles(n)...))
	}
	bad := append(badIdles(), farWarps(warpOf(takeReq(17, 3), 3))...)
	bad = append(bad, reserving(32, 0, 3, 0), reserving(32, 1, 2, 0), freeing(0, 4), freeing(2, 2), freeing(-1, 1))
	for _, w := range bad {
		if validWarp(w, 3) {
			continue
		}
		for at := range 4 {
			warps := idles(4)
			warps[at] = w
			checkMachRefused(t, machOf(make([]uint32, 3), warps...))
			checkMachRefused(t, machOf(slices.Repeat([]uint32{held}, 3), warps...))
		}
	}
}

// A warp is valid in a machine only for the number of chunks that this machine has.
func TestWarpsAreHeldAgainstTheirOwnHeap(t *testing.T) {
	for w := range validWarps(5) {
		for _, chunks := range []int{0, 2, 4, 5, 6, 16} {
			checkMach(t, machOf(make([]uint32, chunks), w))
			checkMach(t, machOf(slices.Repeat([]uint32{held}, chunks), w))
		}
	}
}

// manyWords has every row of that many words of these.
func manyWords(chunks int, from []uint32) [][]uint32 {
	if chunks == 0 {
		return [][]uint32{nil}
	}
	var list [][]uint32
	for _, words := range manyWords(chunks-1, from) {
		for _, x := range from {
			list = append(list, append(slices.Clone(words), x))
		}
	}
	return list
}

// warpsByLook has an idle warp, and one of validWarps for each kind of request, phase, Probe and Held.
func warpsByLook(chunks int) []impl.Warp {
	list := idles(1)
	found := map[[5]int]bool{}
	for w := range validWarps(chunks) {
		size := 0
		if w.Kind == 1 {
			size = chunksFor(w.Vals[lanesOf(w.Todo)[0]])
		}
		key := [5]int{w.Kind, size, w.Phase, w.Probe, w.Held}
		if !found[key] {
			found[key] = true
			list = append(list, w)
		}
	}
	return list
}

// smallMachs has machines of up to three chunks with one or two warps, of every kind of word and every look of a warp.
func smallMachs() iter.Seq[impl.Mach] {
	return func(yield func(impl.Mach) bool) {
		for chunks := range 4 {
			warps := warpsByLook(chunks)
			for _, words := range manyWords(chunks, []uint32{0, page(4, 1), head(2), head(3), held}) {
				for i, w := range warps {
					for _, other := range warps[:i+1] {
						if chunks == 3 && w.Held == 0 && other.Held == 0 && i%7 != 0 {
							continue
						}
						if !yield(machOf(words, other, w)) {
							return
						}
					}
				}
			}
		}
	}
}

// eventsFor has an event of every kind, for each warp that the machine has.
func eventsFor(m impl.Mach) []impl.Event {
	list := []impl.Event{evGrow(1), evGrow(16 - len(m.Mem.Words)), evGrow(16)}
	for id := range m.Warps {
		list = append(list, evPick(id), evSubmit(id, takeReq(3, 0, 33)), evSubmit(id, giveReq(16)))
	}
	return list
}

// checkEvent checks that an event leaves a valid machine valid, and tells the truth about its blocks.
func checkEvent(t *testing.T, m impl.Mach, e impl.Event) done {
	t.Helper()
	d := checkDo(t, m, e)
	if !checkMach(t, d.mach) {
		t.Fatalf("%+v is not valid after %+v: %+v", m, e, d.mach)
	}
	live, ok := blocksIn(m.Mem.Words), true
	for _, f := range d.facts {
		if live, ok = heard(live, f); !ok {
			t.Fatalf("%+v of %+v: %+v is wrong about the live blocks", e, m, f)
		}
	}
	if !slices.Equal(live, blocksIn(d.mach.Mem.Words)) {
		t.Fatalf("%+v of %+v: the words %v do not have the blocks %v", e, m, d.mach.Mem.Words, live)
	}
	checkAudited(t, m, e, d)
	return d
}

func TestEveryEventOfSmallMachs(t *testing.T) {
	valid, all := 0, 0
	for m := range smallMachs() {
		all++
		if !checkMach(t, m) {
			continue
		}
		valid++
		for _, e := range eventsFor(m) {
			checkEvent(t, m, e)
		}
	}
	if valid < 2000 || all-valid < 2000 {
		t.Errorf("only %d of %d machines are valid", valid, all)
	}
}

// badEvents has events with one field that is out of range, or that the kind does not use.
func badEvents() []impl.Event {
	list := []impl.Event{{}, {N: 1}, {Req: takeReq(1)}, {Warp: 1}, {Kind: 1}, {Kind: 3}}
	for _, kind := range []int{-1, 0, 4, -2, -3, 5, 256 + 1, 256 + 2, 1 << 32, 1<<32 + 1, 1<<32 + 2, 1<<32 + 3, -1<<32 + 2, math.MinInt, math.MinInt + 2, math.MaxInt} {
		list = append(list, impl.Event{Kind: kind}, impl.Event{Kind: kind, N: 1}, impl.Event{Kind: kind, Req: takeReq(1)})
	}
	for _, id := range badIds() {
		list = append(list, evSubmit(id, takeReq(1)), evPick(id), impl.Event{Kind: 3, N: 1, Warp: id})
	}
	for id := 1; id < 4; id++ {
		list = append(list, impl.Event{Kind: 3, N: 1, Warp: id})
	}
	for _, n := range append(farNumbers(), 16) {
		if n != 0 {
			list = append(list, impl.Event{Kind: 1, N: n, Req: takeReq(1)}, impl.Event{Kind: 2, N: n})
		}
	}
	for _, n := range append(badChunkCounts(), 0) {
		list = append(list, evGrow(n))
	}
	for _, r := range badReqs() {
		list = append(list, evSubmit(0, r), evSubmit(3, r))
	}
	for _, r := range []impl.Req{takeReq(1), giveReq(1), takeReq(), giveReq(), {Kind: 1}, {Kind: 2}, {Kind: -1}, {Kind: 1 << 32}, {Vals: []int{0}}, {Vals: make([]int, 8)}} {
		list = append(list, impl.Event{Kind: 2, Req: r}, impl.Event{Kind: 3, N: 1, Req: r})
	}
	return list
}

// goodEvents has the events at the limits of every field.
func goodEvents() []impl.Event {
	list := []impl.Event{{Kind: 2, Req: impl.Req{Vals: []int{}}}, {Kind: 3, N: 2, Req: impl.Req{Vals: []int{}}}, {Kind: 3, N: 2, Req: impl.Req{Vals: []int{5, 6}[:0]}}}
	for id := range 4 {
		list = append(list, evPick(id))
		for _, r := range []impl.Req{takeReq(), takeReq(1), takeReq(256, 17, 16), giveReq(), giveReq(0), giveReq(4095, 3)} {
			list = append(list, evSubmit(id, r))
		}
	}
	for n := 1; n <= 16; n++ {
		list = append(list, evGrow(n))
	}
	return list
}

func TestEventsAccepted(t *testing.T) {
	for _, e := range goodEvents() {
		if !impl.EventOk(e) || !validEvent(e) {
			t.Errorf("EventOk(%+v): got %v, want true", e, impl.EventOk(e))
		}
	}
	for _, r := range validReqs() {
		if e := evSubmit(3, r); !impl.EventOk(e) {
			t.Errorf("EventOk(%+v): got false", e)
		}
	}
}

func TestEventsRefused(t *testing.T) {
	for _, e := range badEvents() {
		if impl.EventOk(e) || validEvent(e) {
			t.Errorf("EventOk(%+v): got %v, want false", e, impl.EventOk(e))
		}
	}
}

// machs has machines of several sizes: new ones, a full heap, and busy ones in every kind of phase.
func machs() []impl.Mach {
	give := warpOf(giveReq(3, 32), 3)
	claim := warpOf(takeReq(4, 3), 3)
	claim.Phase, claim.Seen = 1, page(2, 1)
	release := warpOf(giveReq(5, 32), 2)
	release.Phase, release.Seen = 1, head(2)
	full := append([]uint32{head(16)}, slices.Repeat([]uint32{held}, 15)...)
	return []impl.Mach{
		machOf(nil, idles(1)...), machOf(make([]uint32, 1), idles(4)...), machOf(make([]uint32, 15), idles(2)...), machOf(make([]uint32, 16), idles(3)...),
		machOf(full, idles(2)...), machOf(nil, warpOf(takeReq(17, 1), 3), give),
		machOf([]uint32{page(2, 1), page(0, 8), head(2), held}, claim, impl.WarpNew(), release, give),
		machOf([]uint32{held, held, page(3, 3), 0}, reserving(33, 2, 0, 2), impl.WarpNew(), warpOf(takeReq(8, 8, 8), 7)),
		machOf([]uint32{page(4, 1), held, held, held, held}, freeing(3, 2), reserving(32, 3, 1, 2), impl.WarpNew()),
	}
}

func TestEventsOfMachs(t *testing.T) {
	codes := map[int]int{}
	for _, m := range machs() {
		if !checkMach(t, m) {
			t.Fatalf("%+v is not valid", m)
		}
		for _, e := range goodEvents() {
			codes[checkEvent(t, m, e).code]++
		}
		for _, e := range badEvents() {
			if d := checkEvent(t, m, e); d.code != 1 || !sameMach(d.mach, m) {
				t.Fatalf("%+v: the model takes %+v", m, e)
			}
		}
	}
	for code := range 5 {
		if codes[code] < 5 {
			t.Errorf("only %d events have the code %d", codes[code], code)
		}
	}
}

func TestCodes(t *testing.T) {
	m := machOf([]uint32{page(0, 1), 0, 0}, warpOf(takeReq(17), 1), impl.WarpNew())
	for _, c := range []struct {
		e    impl.Event
		code int
	}{
		{evPick(0), 0}, {evPick(1), 4}, {evPick(2), 1}, {evPick(3), 1}, {evPick(4), 1}, {evPick(-1), 1},
		{evSubmit(0, takeReq(1)), 2}, {evSubmit(0, takeReq()), 2}, {evSubmit(0, giveReq()), 2}, {evSubmit(0, takeReq(257)), 1}, {evSubmit(0, impl.Req{}), 1},
		{evSubmit(1, takeReq(1)), 0}, {evSubmit(1, takeReq()), 0}, {evSubmit(1, giveReq(4095)), 0}, {evSubmit(1, giveReq(4096)), 1}, {evSubmit(2, takeReq(1)), 1},
		{evGrow(1), 0}, {evGrow(13), 0}, {evGrow(14), 3}, {evGrow(16), 3}, {evGrow(17), 1}, {evGrow(0), 1}, {evGrow(-1), 1}, {impl.Event{Kind: 3, Warp: 2, N: 1}, 1},
		{impl.Event{Kind: 2, Warp: 1, N: 1}, 1}, {impl.Event{}, 1}, {impl.Event{Kind: 4}, 1},
	} {
		if d := checkDo(t, m, c.e); d.code != c.code {
			t.Errorf("%+v: got %d, want %d", c.e, d.code, c.code)
		}
	}
}

// The number of a warp is its index: it decides where the warp starts, and it is in the facts.
func TestTheNumberOfAWarpIsItsIndex(t *testing.T) {
	m := machOf(make([]uint32, 16), warpOf(takeReq(1), 1), warpOf(takeReq(1), 1), warpOf(takeReq(1), 1), warpOf(takeReq(1), 1))
	for id, chunk := range []int{0, 5, 10, 15} {
		d := checkRun(t, m, []impl.Event{evPick(id), evPick(id)})
		want := impl.Fact{Kind: 1, Warp: id, At: 16 * chunk, Size: 1}
		if len(d.facts) != 1 || d.facts[0] != want || d.mach.Mem.Words[chunk] != page(0, 1) {
			t.Errorf("got %v %v, want %v", d.facts, d.mach.Mem.Words, want)
		}
		for other, w := range d.mach.Warps {
			if other != id && !sameWarp(w, m.Warps[other]) {
				t.Errorf("a step of warp %d changes warp %d: %+v", id, other, w)
			}
		}
	}
}

func TestQuietMachs(t *testing.T) {
	for _, c := range []struct {
		m    impl.Mach
		want bool
	}{
		{machOf(nil, idles(1)...), true},
		{machOf([]uint32{page(1, 3), head(2), held}, idles(4)...), true},
		{machOf([]uint32{0}, warpOf(takeReq(1), 1), impl.WarpNew()), false},
		{machOf([]uint32{0}, impl.WarpNew(), impl.WarpNew(), warpOf(giveReq(1), 1)), false},
		{machOf([]uint32{held}, freeing(0, 1)), false},
		{machOf([]uint32{held}, idles(1)...), false},
		{machOf([]uint32{1}, idles(1)...), false},
		{machOf([]uint32{0}, idles(5)...), false},
		{impl.Mach{}, false},
	} {
		if got := impl.Quiet(c.m); got != c.want {
			t.Errorf("Quiet(%+v): got %v", c.m, got)
		}
	}
}

// spareWarps returns a list with these warps and with marked capacity behind it and behind their rows.
func spareWarps(list []impl.Warp) []impl.Warp {
	array := make([]impl.Warp, 0, len(list)+3)
	for _, w := range list {
		w, _, _ = marked(w)
		array = append(array, w)
	}
	for i := len(list); i < cap(array); i++ {
		array = append(array, impl.Warp{Kind: 77, Vals: []int{77}})
	}
	return array[:len(list)]
}

// sparedMach returns the machine with marked capacity behind each of its slices.
func sparedMach(m impl.Mach) impl.Mach {
	mem, _ := spared(m.Mem.Words)
	return impl.Mach{Mem: mem, Warps: spareWarps(m.Warps)}
}

// wholeMach returns a copy of the machine with all that lies in and behind its slices.
func wholeMach(m impl.Mach) impl.Mach {
	m.Mem.Words = m.Mem.Words[:cap(m.Mem.Words)]
	m.Warps = slices.Clone(m.Warps[:cap(m.Warps)])
	for i, w := range m.Warps {
		m.Warps[i].Vals, m.Warps[i].Got = w.Vals[:cap(w.Vals)], w.Got[:cap(w.Got)]
	}
	return copyMach(m)
}

// overwriteMach writes every element of the slices and of the capacity behind them.
func overwriteMach(m impl.Mach) {
	overwrite(m.Mem.Words)
	for i, w := range m.Warps {
		overwriteInts(w.Vals)
		overwriteInts(w.Got)
		m.Warps[i] = impl.Warp{Kind: 88}
	}
}

// checkRowsApart checks that no two slices of a machine share memory.
func checkRowsApart(t *testing.T, name string, m impl.Mach) {
	t.Helper()
	var rows, were [][]int
	for _, w := range m.Warps {
		rows = append(rows, w.Vals, w.Got)
		were = append(were, slices.Clone(w.Vals), slices.Clone(w.Got))
	}
	for i := range rows {
		overwriteInts(rows[i])
		for j := range rows {
			if i != j && !slices.Equal(rows[j], were[j]) {
				t.Fatalf("%s: two rows share memory", name)
			}
		}
		copy(rows[i], were[i])
	}
}

// checkNewMach checks that a call shares no memory with the machine and the requests that it is given, and leaves them as they are.
func checkNewMach(t *testing.T, name string, plain impl.Mach, reqs [][]int, call func(m impl.Mach) (impl.Mach, []impl.Fact)) {
	t.Helper()
	m := sparedMach(plain)
	was, reqsWas := wholeMach(m), slices.Concat(reqs...)
	next, facts := call(m)
	want, factsWant := copyMach(next), slices.Clone(facts)
	checkRowsApart(t, name, next)
	overwriteMach(next)
	overwriteFacts(facts)
	if !sameMach(wholeMach(m), was) || !slices.Equal(slices.Concat(reqs...), reqsWas) {
		t.Fatalf("%s: an argument, or its spare capacity, is changed or shared", name)
	}
	next, facts = call(m)
	overwriteMach(m)
	for _, array := range reqs {
		overwriteInts(array)
	}
	if !sameMach(next, want) || !slices.Equal(facts, factsWant) {
		t.Fatalf("%s: the result changes with the argument, or is another one the second time", name)
	}
}

func TestEventsReturnNewMachs(t *testing.T) {
	list := append(goodEvents(), impl.Event{}, evPick(4), evGrow(17), evSubmit(0, takeReq(257)))
	for _, m := range machs() {
		for _, e := range list {
			vals, array := sparedInts(e.Req.Vals)
			e.Req.Vals = vals
			checkNewMach(t, "MachDo", m, [][]int{array}, func(m impl.Mach) (impl.Mach, []impl.Fact) {
				next, facts, _ := impl.MachDo(m, e)
				return next, facts
			})
		}
	}
}

func TestRunsReturnNewMachs(t *testing.T) {
	for _, m := range machs() {
		for _, plain := range [][]impl.Event{nil, {{}}, {evPick(1)}, {evPick(0), evSubmit(0, takeReq(17)), evSubmit(1, giveReq(2, 3)), evPick(0), evPick(1), evGrow(1), evPick(1)}} {
			list := slices.Clone(plain)
			var reqs [][]int
			for i := range list {
				vals, array := sparedInts(list[i].Req.Vals)
				list[i].Req.Vals = vals
				reqs = append(reqs, array)
			}
			checkNewMach(t, "MachRun", m, reqs, func(m impl.Mach) (impl.Mach, []impl.Fact) {
				next, facts, _ := impl.MachRun(m, list)
				return next, facts
			})
		}
	}
}

func TestNewMachsShareNothing(t *testing.T) {
	first, _ := impl.MachNew(3, 4)
	checkRowsApart(t, "MachNew", first)
	overwriteMach(first)
	second, ok := impl.MachNew(3, 4)
	if !ok || !sameMach(second, machOf(make([]uint32, 3), idles(4)...)) {
		t.Errorf("two new machines share memory: %+v", second)
	}
}

func TestLooksLeaveTheMach(t *testing.T) {
	for _, plain := range append(machs(), mismatched()...) {
		m := sparedMach(plain)
		was := wholeMach(m)
		owners := impl.Owners(m)
		ownersWas := slices.Clone(owners)
		impl.MachOk(m)
		impl.Quiet(m)
		overwriteInts(owners)
		if !sameMach(wholeMach(m), was) || !slices.Equal(impl.Owners(m), ownersWas) {
			t.Fatalf("%+v, or its spare capacity, is changed or shared", plain)
		}
	}
}
