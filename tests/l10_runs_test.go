package tests

import (
	"slices"
	"testing"

	"loop.example/g00709/impl"
)

// The promises 11 and 12 over whole requests: what a lane that requests alone
// gets, what of it does not hold for other requests, that everything that is
// freed is free, and what two warps with small requests get in every
// interleaving.

// asked returns the machine after the submission of a request.
func asked(t *testing.T, m impl.Mach, id int, r impl.Req) impl.Mach {
	t.Helper()
	next, facts, code := impl.MachDo(m, evSubmit(id, r))
	if code != 0 || len(facts) != 0 {
		t.Fatalf("MachDo(%+v, submission of %v to %d): got %v %d", m, r, id, facts, code)
	}
	return next
}

// loneReq requests the size for that lane alone.
func loneReq(lane int, size int) impl.Req {
	r := takeReq()
	r.Vals[lane] = size
	return r
}

// allocatedFor returns the words of a block for that size.
func allocatedFor(size int) int {
	if class := classFor(size); class >= 0 {
		return sizeOfClass[class]
	}
	return 16 * chunksFor(size)
}

// checkLone checks that a lane that requests the size alone gets it if it fits, and is refused if it does not. It returns the machine after it.
func checkLone(t *testing.T, m impl.Mach, id int, lane int, size int) impl.Mach {
	t.Helper()
	next, facts, steps := impl.Alone(asked(t, m, id, loneReq(lane, size)), id)
	fits := impl.Fits(m.Mem, size)
	if steps < 1 || steps > boundOf[len(m.Mem.Words)] || len(facts) != 1 || fits != (facts[0].Kind == 1) {
		t.Fatalf("%d for lane %d of warp %d of %+v, which fits: %v: got %v in %d steps", size, lane, id, m, fits, facts, steps)
	}
	want, at := impl.Fact{Kind: 3, Warp: id, Lane: lane, At: -1, Size: size}, -2
	if fits {
		at = facts[0].At
		want = impl.Fact{Kind: 1, Warp: id, Lane: lane, At: at, Size: allocatedFor(size)}
	}
	if facts[0] != want || next.Warps[id].Got[lane] != at {
		t.Fatalf("%d for lane %d of warp %d of %+v: got %v %v, want %v", size, lane, id, m, facts, next.Warps[id].Got, want)
	}
	live, ok := impl.FactDo(blocksIn(m.Mem.Words), facts[0])
	if !ok || !slices.Equal(live, blocksIn(next.Mem.Words)) || !fits && !slices.Equal(next.Mem.Words, m.Mem.Words) {
		t.Fatalf("%d for lane %d of warp %d of %+v: the words are then %v", size, lane, id, m, next.Mem.Words)
	}
	return next
}

// loneSizes has the sizes at the limits of the classes and of the numbers of chunks.
func loneSizes(chunks int) []int {
	list := []int{1, 2, 3, 4, 5, 8, 9, 16, 17, 32, 33, 240, 241, 256}
	for n := 2; n <= min(chunks+1, 15); n++ {
		list = append(list, 16*n, 16*n+1)
	}
	return distinct(list...)
}

func TestALoneLaneOnEverySmallHeap(t *testing.T) {
	fits, all := 0, 0
	for chunks := range 5 {
		i := 0
		for _, words := range manyWords(chunks, []uint32{0, page(4, 1), page(3, 2), page(2, 7), page(0, 0x7fff), head(2), held}) {
			m := machOf(words, idles(4)...)
			if !validMach(m) {
				continue
			}
			for _, size := range loneSizes(chunks) {
				i++
				checkLone(t, m, i%4, i/4%8, size)
				all++
				if fitsModel(words, size) {
					fits++
				}
			}
		}
	}
	if fits < 1000 || all-fits < 1000 {
		t.Errorf("%d of %d requests fit", fits, all)
	}
}

func TestEveryLoneLaneAndSize(t *testing.T) {
	words := []uint32{page(3, 3), 0, page(2, 6), page(0, 1), 0, 0, head(2), held, page(4, 1)}
	for id := range 4 {
		for lane := range 8 {
			for size := 1; size <= 256; size++ {
				checkLone(t, machOf(words, idles(4)...), id, lane, size)
			}
		}
	}
}

// The other warps hold chunks and have requests of their own; while they are not stepped they do not disturb.
func TestALoneLaneBesideBusyWarps(t *testing.T) {
	tried := 0
	for seed := range 6 {
		for _, chunks := range []int{1, 3, 6, 10, 16} {
			for i, m := range randomRun(t, 500+seed, chunks, 4, 200).machs {
				id := slices.IndexFunc(m.Warps, func(w impl.Warp) bool { return w.Kind == 0 })
				if id < 0 || i%4 != 0 || allIdle(m) {
					continue
				}
				for j, size := range loneSizes(chunks) {
					tried++
					checkLone(t, m, id, (i+j)%8, size)
				}
			}
		}
	}
	if tried < 1000 {
		t.Errorf("only %d requests are tried", tried)
	}
}

// A heap is filled by lanes that request alone until nothing more fits: then no word is left.
func TestLoneLanesFillTheHeap(t *testing.T) {
	for chunks := range 17 {
		for _, size := range []int{16, 8, 5, 4, 2, 1} {
			m, left := machOf(make([]uint32, chunks), idles(3)...), 16*chunks/sizeOfClass[classFor(size)]
			for i := range left {
				if !impl.Fits(m.Mem, size) {
					t.Fatalf("%d chunks: %d does not fit after %d blocks", chunks, size, i)
				}
				m = checkLone(t, m, i%3, i%8, size)
			}
			live, _ := impl.Audit(m.Mem)
			if impl.Fits(m.Mem, size) || impl.Fits(m.Mem, 1) || impl.LiveSum(live, 16*chunks) != 16*chunks {
				t.Fatalf("%d chunks, blocks for %d: not full: %v", chunks, size, m.Mem.Words)
			}
			checkLone(t, m, 0, 0, size)
		}
	}
}

// lastRefusals steps a warp until it is idle, and returns the facts and, for each refusal, whether what is refused would have fitted.
func lastRefusals(t *testing.T, m impl.Mach, id int) ([]impl.Fact, []bool) {
	t.Helper()
	var facts []impl.Fact
	var fitted []bool
	for m.Warps[id].Kind != 0 {
		d := checkEvent(t, m, evPick(id))
		for _, f := range d.facts {
			if f.Kind == 3 {
				fitted = append(fitted, impl.Fits(m.Mem, f.Size))
			}
		}
		m, facts = d.mach, append(facts, d.facts...)
	}
	return facts, fitted
}

// By chapter 7 a warp goes on from its Probe if only a part of a group gets
// blocks, also for a lane of another class, and it does not come back to what
// was freed behind it. So more than a lane that requests alone, and has not been
// disturbed, can be refused what fits; asked again, that lane gets it.
func TestRequestsThatAreRefusedAlthoughTheyFit(t *testing.T) {
	small, large := []uint32{page(4, 1), page(4, 1), page(0, 1)}, []uint32{page(4, 1), 0, page(4, 1)}
	for _, c := range []struct {
		name   string
		words  []uint32
		events []impl.Event
		facts  []impl.Fact
		fitted []bool
	}{
		{
			"a lane of another class, after a part of a group", []uint32{page(0, 1), page(3, 1), page(4, 1)},
			[]impl.Event{evSubmit(0, takeReq(8, 1, 8))},
			[]impl.Fact{fact(1, 0, 24, 8), fact(3, 1, -1, 1), fact(3, 2, -1, 8)}, []bool{true, false},
		},
		{
			"a large request, after a part of a group", []uint32{0, 0, page(4, 1), page(4, 1), page(1, 0x7f)},
			[]impl.Event{evSubmit(0, takeReq(2, 32, 2))},
			[]impl.Fact{fact(1, 0, 78, 2), fact(3, 1, -1, 32), fact(1, 2, 0, 2)}, []bool{true},
		},
		{
			"a chunk that is freed after it was passed", small,
			[]impl.Event{evSubmit(0, takeReq(0, 5)), evPick(0), evPick(0), evSubmit(1, giveReq(16)), evPick(1), evPick(1)},
			[]impl.Fact{fact(3, 1, -1, 5)}, []bool{true},
		},
		{
			"chunks that are freed after they were passed", large,
			[]impl.Event{evSubmit(0, takeReq(0, 0, 32)), evPick(0), evSubmit(1, giveReq(0)), evPick(1), evPick(1)},
			[]impl.Fact{fact(3, 2, -1, 32)}, []bool{true},
		},
		{
			"the same size twice, of which one fits", []uint32{0, 0, page(4, 1)},
			[]impl.Event{evSubmit(0, takeReq(32, 32))},
			[]impl.Fact{fact(1, 0, 0, 32), fact(3, 1, -1, 32)}, []bool{false},
		},
	} {
		m := checkRun(t, machOf(c.words, idles(2)...), c.events).mach
		facts, fitted := lastRefusals(t, m, 0)
		if !slices.Equal(facts, c.facts) || !slices.Equal(fitted, c.fitted) {
			t.Errorf("%s: got %v, which fitted: %v; want %v, %v", c.name, facts, fitted, c.facts, c.fitted)
		}
		end := checkAlone(t, m, 0)
		if !slices.Equal(end.facts, c.facts) {
			t.Errorf("%s: got %v alone, want %v", c.name, end.facts, c.facts)
		}
		for _, f := range c.facts {
			if f.Kind == 3 {
				checkLone(t, end.mach, 0, f.Lane, f.Size)
			}
		}
	}
}

// Lanes of one class that are not disturbed are refused only when the heap has no room for the class, however many they are.
func TestLanesOfOneClassAreRefusedOnlyWhatDoesNotFit(t *testing.T) {
	refused, taken := 0, 0
	d := dice(23)
	for range 2000 {
		words := make([]uint32, d.roll(6))
		for i := range words {
			class := d.roll(5)
			words[i] = page(class, sumOfBits(span(0, 1+d.roll(blocksOfClass[class]))))
		}
		r := takeReq(slices.Repeat([]int{[]int{1, 2, 3, 7, 16}[d.roll(5)]}, 1+d.roll(8))...)
		id := d.roll(4)
		facts, fitted := lastRefusals(t, asked(t, machOf(words, idles(4)...), id, r), id)
		refused += len(fitted)
		taken += len(facts) - len(fitted)
		if slices.Contains(fitted, true) {
			t.Fatalf("%v of warp %d on %v: got %v, which fitted: %v", r, id, words, facts, fitted)
		}
	}
	if refused < 1000 || taken < 1000 {
		t.Errorf("only %d refused, %d taken", refused, taken)
	}
}

// checkAllFreed frees all blocks, eight at a time, and checks that then all chunks are free.
func checkAllFreed(t *testing.T, m impl.Mach, id int) {
	t.Helper()
	before := blocksIn(m.Mem.Words)
	for rounds := 0; ; rounds++ {
		left, ok := impl.Audit(m.Mem)
		if !ok || !slices.Equal(left, before[min(8*rounds, len(before)):]) {
			t.Fatalf("after %d rounds of %v: got %v %v", rounds, before, left, ok)
		}
		if len(left) == 0 {
			break
		}
		r, ok := impl.GiveAll(m, id)
		if !ok {
			t.Fatalf("GiveAll(%+v, %d): got false", m, id)
		}
		end := checkAlone(t, asked(t, m, id, r), id)
		for lane, f := range end.facts {
			if b := left[lane]; f != (impl.Fact{Kind: 2, Warp: id, Lane: lane, At: b.At, Size: b.Size}) {
				t.Fatalf("lane %d of %v: got %+v, want %+v freed", lane, r, f, b)
			}
		}
		m = end.mach
	}
	free, pages, large := impl.AuditSum(m.Mem)
	if free != len(m.Mem.Words) || pages != 0 || large != 0 || !slices.Equal(m.Mem.Words, make([]uint32, free)) {
		t.Fatalf("after all is freed: %+v", m)
	}
	if end := checkAlone(t, asked(t, m, id, impl.Req{Kind: 2, Vals: giveAllModel(m).Vals}), id); end.steps != 0 {
		t.Fatalf("there is still something to free: %+v", end)
	}
}

// Whatever the warps were about to do, once they are idle nothing is held, and after everything is freed all chunks are free.
func TestAfterEverythingIsFreedAllChunksAreFree(t *testing.T) {
	list := machs()
	for seed := range 10 {
		for _, chunks := range []int{0, 1, 2, 5, 9, 16} {
			r := randomRun(t, 600+seed, chunks, 1+seed%4, 160)
			list = append(list, r.machs[40], r.machs[70], r.machs[101], r.machs[133], r.machs[160])
		}
	}
	for m := range smallMachs() {
		if len(m.Mem.Words) == 3 && validMach(m) {
			list = append(list, m)
		}
	}
	blocks, busy := 0, 0
	for i, m := range list {
		if !allIdle(m) {
			busy++
		}
		m = checkSettle(t, m).mach
		blocks = max(blocks, len(blocksIn(m.Mem.Words)))
		checkAllFreed(t, m, i%len(m.Warps))
	}
	if blocks < 17 || busy < 1000 {
		t.Errorf("too little has occurred: at most %d blocks, %d busy machines", blocks, busy)
	}
}

func TestFullHeapsAreFreed(t *testing.T) {
	for _, words := range [][]uint32{
		append([]uint32{head(16)}, slices.Repeat([]uint32{held}, 15)...),
		slices.Repeat([]uint32{head(2), held}, 8),
		slices.Repeat([]uint32{page(4, 1)}, 16),
		slices.Repeat([]uint32{page(3, 3)}, 16),
		slices.Repeat([]uint32{page(0, 0xffff)}, 16),
		slices.Concat([]uint32{head(3), held, held, page(2, 15), page(1, 0xaa)}, []uint32{page(0, 1), 0, head(2), held}),
	} {
		for id := range 4 {
			checkAllFreed(t, machOf(words, idles(4)...), id)
		}
	}
}

// The most that a warp has to do: each lane requests a large block, and reserves in vain at every chunk.
func TestTheSlowestRequestsAreWithinBound(t *testing.T) {
	most := 0
	for chunks := 2; chunks <= 16; chunks++ {
		for gap := 1; gap <= chunks; gap++ {
			words := make([]uint32, chunks)
			for at := gap - 1; at < chunks; at += gap {
				words[at] = page(4, 1)
			}
			for size := 17; size <= 256; size += 16 {
				m := asked(t, machOf(words, idles(1)...), 0, takeReq(slices.Repeat([]int{size}, 8)...))
				most = max(most, checkAlone(t, m, 0).steps)
			}
		}
	}
	if most < 700 {
		t.Errorf("at most %d steps are taken", most)
	}
}

// smallPairs has requests of two warps for blocks of at most 8 words; the first ones make a warp search the farthest.
func smallPairs() [][2]impl.Req {
	list := [][2]impl.Req{
		{takeReq(8, 8, 8, 8, 8, 8, 4, 8), takeReq(8, 2, 4, 1, 4, 4, 4, 4)},
		{takeReq(8, 8, 8, 8, 8, 4, 8, 8), takeReq(2, 4, 4, 4, 1, 4, 4, 4)},
		{takeReq(8, 8, 1, 8, 8, 8, 8, 8), takeReq(8, 8, 4, 8, 2, 8, 8, 4)},
		{takeReq(8, 1, 8, 8, 8, 8, 8, 8), takeReq(8, 4, 2, 4, 4, 4, 4, 8)},
		{takeReq(8, 8, 8, 8, 8, 8, 8, 8), takeReq(8, 8, 8, 8, 8, 8, 8, 8)},
		{takeReq(5, 5, 5, 5, 5, 5, 5, 5), takeReq(1, 1, 1, 1, 1, 1, 1, 1)},
		{takeReq(1, 2, 3, 5, 1, 2, 3, 5), takeReq(5, 3, 2, 1, 5, 3, 2, 1)},
		{takeReq(8), takeReq(0, 0, 0, 0, 0, 0, 0, 8)},
	}
	d := dice(41)
	for i := range 300 {
		var pair [2]impl.Req
		for id := range pair {
			pair[id] = takeReq()
			for lane := range 8 {
				pair[id].Vals[lane] = d.roll(9)
				if i%2 == 0 {
					pair[id].Vals[lane] = []int{1, 2, 3, 6, 7, 8, 8, 8}[d.roll(8)]
				}
			}
		}
		list = append(list, pair)
	}
	return list
}

func TestTwoWarpsWithSmallRequestsAreNeverRefused(t *testing.T) {
	farthest, scenes := 0, 0
	for _, pair := range smallPairs() {
		all := playAll(t, story{words: make([]uint32, 16), reqs: [][]impl.Req{{pair[0]}, {pair[1]}}})
		scenes = max(scenes, all.scenes)
		farthest = max(farthest, all.farthest)
		if all.facts[1] == 0 || len(all.facts) != 1 {
			t.Fatalf("%v: the facts are of the kinds %v", pair, all.facts)
		}
		want := len(askingLanes(pair[0])) + len(askingLanes(pair[1]))
		for _, m := range all.ends {
			if live, ok := impl.Audit(m.Mem); !ok || len(live) != want {
				t.Fatalf("%v: %d blocks at the end, want %d", pair, len(live), want)
			}
		}
	}
	if farthest < 9 || scenes < 500 {
		t.Errorf("too little has occurred: the farthest Probe is %d, %d scenes at most", farthest, scenes)
	}
}

// Of all warps that free a block exactly one does, in every interleaving, and to the others the address is wrong.
func TestADoubleFreeIsWrongInEveryInterleaving(t *testing.T) {
	for _, c := range []struct {
		words []uint32
		warps int
	}{
		{[]uint32{page(3, 3)}, 2},
		{[]uint32{page(3, 3)}, 3},
		{[]uint32{page(2, 5), page(4, 1)}, 2},
		{[]uint32{head(2), held}, 2},
		{[]uint32{head(2), held}, 3},
		{[]uint32{page(1, 2), head(2), held}, 3},
	} {
		s, live := story{words: c.words}, blocksIn(c.words)
		for id := range c.warps {
			r, ok := impl.GiveAll(machOf(c.words, idles(c.warps)...), id)
			if !ok {
				t.Fatalf("GiveAll of %v: got false", c.words)
			}
			if id == 1 {
				slices.Reverse(r.Vals)
			}
			s.reqs = append(s.reqs, []impl.Req{r})
		}
		all := playAll(t, s)
		if all.scenes < 30 || all.facts[2] == 0 || all.facts[4] == 0 || len(all.facts) != 2 {
			t.Fatalf("%+v: too little has occurred: %d scenes, facts %v", s, all.scenes, all.facts)
		}
		for _, m := range all.ends {
			freed, wrong := timesGot(m, 1), timesGot(m, -2)
			if freed != len(live) || wrong != (c.warps-1)*len(live) || slices.Max(m.Mem.Words) != 0 {
				t.Fatalf("%+v: %d are freed, %d wrong: %+v", c, freed, wrong, m)
			}
		}
	}
}

// timesGot returns how many lanes of the machine have got that.
func timesGot(m impl.Mach, want int) int {
	n := 0
	for _, w := range m.Warps {
		for _, got := range w.Got {
			if got == want {
				n++
			}
		}
	}
	return n
}

// A warp that frees all and then all of it again, by itself, is told that each address is wrong.
func TestADoubleFreeAfterAllIsFreed(t *testing.T) {
	for _, words := range [][]uint32{
		{page(3, 3)}, {page(0, 0xff)}, {head(4), held, held, held}, {head(2), held, page(2, 15), page(4, 1), head(2), held},
		{page(0, 0x7ff)}, slices.Repeat([]uint32{page(4, 1)}, 16),
	} {
		m := machOf(words, idles(3)...)
		r, _ := impl.GiveAll(m, 2)
		m = checkAlone(t, asked(t, m, 2, r), 2).mach
		for id := range 3 {
			end := checkAlone(t, asked(t, m, id, r), id)
			var want []impl.Fact
			for _, lane := range askingLanes(r) {
				want = append(want, impl.Fact{Kind: 4, Warp: id, Lane: lane, At: r.Vals[lane]})
			}
			if len(want) == 0 || !slices.Equal(end.facts, want) || !slices.Equal(end.mach.Mem.Words, m.Mem.Words) {
				t.Fatalf("%v freed again by warp %d: got %v, want %v", r, id, end.facts, want)
			}
		}
	}
}

// Lanes of one warp that name the same address: the lowest one frees the block.
func TestADoubleFreeWithinAWarp(t *testing.T) {
	for _, c := range []struct {
		words []uint32
		size  int
	}{
		{[]uint32{0, page(0, 0xffff)}, 1},
		{[]uint32{0, page(2, 1)}, 4},
		{[]uint32{0, page(4, 1)}, 16},
		{[]uint32{page(1, 3), head(2), held}, 32},
		{[]uint32{0, head(3), held, held}, 48},
	} {
		for first := range 7 {
			r, want := giveReq(), []impl.Fact{fact(2, first, 16, c.size)}
			r.Vals[first] = 16
			for lane := first + 1; lane < 8; lane++ {
				r.Vals[lane] = 16
				want = append(want, fact(4, lane, 16, 0))
			}
			end := checkAlone(t, asked(t, machOf(c.words, idles(1)...), 0, r), 0)
			if !slices.Equal(end.facts, want) {
				t.Fatalf("%v on %v: got %v, want %v", r, c.words, end.facts, want)
			}
		}
	}
}

// Two warps with small requests get all their blocks, free each other's, and everything again: then each address is wrong.
func TestSmallRequestsAreFreedOnce(t *testing.T) {
	for i, pair := range smallPairs() {
		m := machOf(make([]uint32, 16), idles(2)...)
		m = asked(t, asked(t, m, 0, pair[0]), 1, pair[1])
		m = runMixed(t, m, dice(i))
		got := [2][]int{m.Warps[0].Got, m.Warps[1].Got}
		if slices.Contains(slices.Concat(got[0], got[1]), -2) {
			t.Fatalf("%v: refused: %v", pair, got)
		}
		for round, want := range []int{1, -2} {
			m = asked(t, asked(t, m, 0, giveReq(got[1]...)), 1, giveReq(got[0]...))
			m = runMixed(t, m, dice(i+round))
			for id, w := range m.Warps {
				for lane, at := range got[1-id] {
					if at >= 0 && w.Got[lane] != want || at < 0 && w.Got[lane] != -1 {
						t.Fatalf("%v, round %d: lane %d of warp %d got %d for %d", pair, round, lane, id, w.Got[lane], at)
					}
				}
			}
			if len(blocksIn(m.Mem.Words)) != 0 {
				t.Fatalf("%v: there are blocks left: %v", pair, m.Mem.Words)
			}
		}
	}
}

// runMixed steps the warps in a mixed order until all are idle.
func runMixed(t *testing.T, m impl.Mach, d dice) impl.Mach {
	t.Helper()
	for !allIdle(m) {
		if id := d.roll(len(m.Warps)); m.Warps[id].Kind != 0 {
			m = checkEvent(t, m, evPick(id)).mach
		}
	}
	return m
}
