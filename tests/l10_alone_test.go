package tests

import (
	"math"
	"slices"
	"testing"

	"loop.example/g00709/impl"
)

// Promise 11, undisturbed execution, on single machines and memories, valid and
// not valid ones: what Alone, Settle, GiveAll and Fits return, held against a
// second model of the document. What a warp gets that is not disturbed, and all
// of promise 12, is in l10_runs_test.go.

// boundOf has Bound for 0 to 16 chunks.
var boundOf = []int{100, 190, 340, 550, 820, 1150, 1540, 1990, 2500, 3070, 3700, 4390, 5140, 5950, 6820, 7750, 8740}

// ended is what a machine comes to, and in how many steps.
type ended struct {
	mach  impl.Mach
	facts []impl.Fact
	steps int
}

// aloneModel steps one warp of a valid machine until it is idle, or for much too long.
func aloneModel(m impl.Mach, id int) ended {
	end := ended{mach: copyMach(m)}
	for end.mach.Warps[id].Kind != 0 && end.steps < 20000 {
		s := stepModel(end.mach.Warps[id], id, end.mach.Mem.Words)
		end.mach.Warps[id], end.mach.Mem.Words = s.warp, s.words
		end.facts = append(end.facts, s.facts...)
		end.steps++
	}
	return end
}

// settleModel steps all warps of a valid machine, one after the other.
func settleModel(m impl.Mach) ended {
	all := ended{mach: copyMach(m)}
	for id := range m.Warps {
		end := aloneModel(all.mach, id)
		all = ended{end.mach, append(all.facts, end.facts...), all.steps + end.steps}
	}
	return all
}

// giveAllModel returns the request for a machine whose words are valid.
func giveAllModel(m impl.Mach) impl.Req {
	r := giveReq()
	for lane, b := range firstBlocks(blocksIn(m.Mem.Words), 8) {
		r.Vals[lane] = b.At
	}
	return r
}

// fitsModel reports whether there is room for the size in control words.
func fitsModel(words []uint32, size int) bool {
	if size < 1 || size > 256 {
		return false
	}
	if class := classFor(size); class >= 0 {
		return slices.ContainsFunc(words, func(x uint32) bool { return len(roomAt(x, class)) > 0 })
	}
	for at := range words {
		run := chunksFor(size)
		if at+run <= len(words) && slices.Max(words[at:at+run]) == 0 {
			return true
		}
	}
	return false
}

// checkEnded compares a result with the model's, and with the limit for each warp that was busy.
func checkEnded(t *testing.T, name string, m impl.Mach, got ended, want ended, busy int) {
	t.Helper()
	if got.steps != want.steps || !sameMach(got.mach, want.mach) || !slices.Equal(got.facts, want.facts) {
		t.Fatalf("%s of %+v:\ngot  %+v\nwant %+v", name, m, got, want)
	}
	if !validMach(got.mach) || got.steps > busy*boundOf[len(m.Mem.Words)] {
		t.Fatalf("%s of %+v: got %+v, which is not valid or took too long", name, m, got)
	}
}

// checkAlone compares an undisturbed warp with the model, and returns what the model expects.
func checkAlone(t *testing.T, m impl.Mach, id int) ended {
	t.Helper()
	was, want, busy := copyMach(m), aloneModel(m, id), 1
	if m.Warps[id].Kind == 0 {
		busy = 0
	}
	mach, facts, steps := impl.Alone(m, id)
	checkEnded(t, "Alone", m, ended{mach, facts, steps}, want, busy)
	if want.mach.Warps[id].Kind != 0 || !sameMach(m, was) {
		t.Fatalf("Alone(%+v, %d): the warp is not idle, or the argument is changed", was, id)
	}
	return want
}

// checkSettle compares the machine at the end with the model, and returns what the model expects.
func checkSettle(t *testing.T, m impl.Mach) ended {
	t.Helper()
	was, want, busy := copyMach(m), settleModel(m), 0
	for _, w := range m.Warps {
		busy += min(w.Kind, 1)
	}
	mach, facts, steps := impl.Settle(m)
	checkEnded(t, "Settle", m, ended{mach, facts, steps}, want, busy)
	if !impl.Quiet(mach) || slices.Max(append(impl.Owners(mach), -1)) >= 0 || !sameMach(m, was) {
		t.Fatalf("Settle(%+v): not quiet, a chunk is held, or the argument is changed", was)
	}
	return want
}

func checkAloneRefused(t *testing.T, m impl.Mach, id int) {
	t.Helper()
	mach, facts, steps := impl.Alone(m, id)
	if steps != -1 || !isZeroMach(mach) || len(facts) != 0 {
		t.Fatalf("Alone(%+v, %d): got %+v %v %d, want zero values and -1", m, id, mach, facts, steps)
	}
}

func checkGiveAll(t *testing.T, m impl.Mach, id int, want impl.Req) {
	t.Helper()
	was := copyMach(m)
	r, ok := impl.GiveAll(m, id)
	if !ok || r.Kind != want.Kind || !slices.Equal(r.Vals, want.Vals) || !impl.ReqOk(r) {
		t.Fatalf("GiveAll(%+v, %d): got %v %v, want %v", m, id, r, ok, want)
	}
	if !sameMach(m, was) {
		t.Fatalf("GiveAll(%+v, %d): the argument is changed", was, id)
	}
}

func checkGiveAllRefused(t *testing.T, m impl.Mach, id int) {
	t.Helper()
	if r, ok := impl.GiveAll(m, id); ok || r.Kind != 0 || len(r.Vals) != 0 {
		t.Fatalf("GiveAll(%+v, %d): got %v %v, want the zero value and false", m, id, r, ok)
	}
}

func checkFits(t *testing.T, words []uint32, size int, want bool) {
	t.Helper()
	if got := impl.Fits(impl.Mem{Words: words}, size); got != want {
		t.Fatalf("Fits(%v, %d): got %v", words, size, got)
	}
}

// checkAllEnds compares everything of the chapter with the model for one valid machine.
func checkAllEnds(t *testing.T, m impl.Mach) {
	t.Helper()
	for id, w := range m.Warps {
		checkAlone(t, m, id)
		if w.Kind == 0 {
			checkGiveAll(t, m, id, giveAllModel(m))
		} else {
			checkGiveAllRefused(t, m, id)
		}
	}
	checkSettle(t, m)
}

func TestBounds(t *testing.T) {
	for chunks, want := range boundOf {
		if got := impl.Bound(chunks); got != want {
			t.Errorf("Bound(%d): got %d, want %d", chunks, got, want)
		}
	}
	for _, chunks := range badChunkCounts() {
		if got := impl.Bound(chunks); got != -1 {
			t.Errorf("Bound(%d): got %d, want -1", chunks, got)
		}
	}
}

func TestEndsOfSmallMachs(t *testing.T) {
	valid := 0
	for m := range smallMachs() {
		if validMach(m) {
			valid++
			checkAllEnds(t, m)
		}
	}
	if valid < 2000 {
		t.Errorf("only %d machines are valid", valid)
	}
}

func TestEndsOfMachs(t *testing.T) {
	for _, m := range machs() {
		checkAllEnds(t, m)
	}
	for seed := range 4 {
		for _, chunks := range []int{0, 1, 2, 5, 9, 16} {
			r := randomRun(t, 400+seed, chunks, 1+seed, 200)
			for i := 0; i < len(r.machs); i += 3 {
				checkAllEnds(t, r.machs[i])
			}
		}
	}
}

// aroundWarp returns a machine in which the warp has the number id, and what it
// holds is held; the other chunks have words of pages and free ones.
func aroundWarp(w impl.Warp, id int, chunks int, from int) impl.Mach {
	all := []uint32{0, page(0, 3), w.Seen, page(2, 9), 0, 0, page(4, 1), 0, 0, 0, page(1, 255), page(3, 2)}
	if c, _ := readCtl(w.Seen); c.State == 2 {
		all[2] = page(3, 3)
	}
	words := make([]uint32, chunks)
	for i := range words {
		words[i] = all[(i+from)%len(all)]
	}
	for _, chunk := range span(w.Probe, w.Held) {
		words[chunk] = held
	}
	warps := idles(id + 1)
	warps[id] = w
	return machOf(words, warps...)
}

// A warp is finished from everywhere, also from what no run has led to: in each phase, with any word seen before.
func TestWarpsInEveryPhaseAreFinished(t *testing.T) {
	for _, chunks := range []int{0, 1, 2, 5, 16} {
		i, valid := 0, 0
		for w := range validWarps(chunks) {
			i++
			m := aroundWarp(w, i%4, chunks, i%12)
			if validMach(m) {
				valid++
				checkAlone(t, m, i%4)
			}
		}
		if 3*valid < i {
			t.Errorf("%d chunks: only %d of %d machines are valid", chunks, valid, i)
		}
	}
}

// What the other warps hold is not free, and stays with them.
func TestOtherWarpsAreNotStepped(t *testing.T) {
	m := machOf([]uint32{held, 0, 0, held, 0}, reserving(48, 0, 0, 1), warpOf(takeReq(0, 33, 0, 17), 10), freeing(3, 1))
	end := checkAlone(t, m, 1)
	want := []impl.Fact{{Kind: 3, Warp: 1, Lane: 1, At: -1, Size: 33}, {Kind: 1, Warp: 1, Lane: 3, At: 16, Size: 32}}
	if !slices.Equal(end.facts, want) || !slices.Equal(end.mach.Mem.Words, []uint32{held, head(2), held, held, 0}) {
		t.Errorf("got %v %v, want %v", end.facts, end.mach.Mem.Words, want)
	}
	for _, id := range []int{0, 2} {
		if !sameWarp(end.mach.Warps[id], m.Warps[id]) {
			t.Errorf("warp %d is changed: %+v", id, end.mach.Warps[id])
		}
	}
}

// The warps come to their end in the order of their numbers, each on what the ones before it have left.
func TestWarpsSettleInOrder(t *testing.T) {
	words := []uint32{page(4, 1), 0}
	for _, c := range []struct {
		warps []impl.Warp
		facts []impl.Fact
		steps int
		words []uint32
	}{
		{
			[]impl.Warp{warpOf(giveReq(0), 1), impl.WarpNew(), warpOf(takeReq(32), 1)},
			[]impl.Fact{{Kind: 2, Size: 16}, {Kind: 1, Warp: 2, Size: 32}},
			2 + 5, []uint32{head(2), held},
		},
		{
			[]impl.Warp{warpOf(takeReq(32), 1), impl.WarpNew(), warpOf(giveReq(0), 1)},
			[]impl.Fact{{Kind: 3, At: -1, Size: 32}, {Kind: 2, Warp: 2, Size: 16}},
			2 + 2, []uint32{0, 0},
		},
		{
			[]impl.Warp{warpOf(giveReq(0), 1), warpOf(giveReq(-1, 0), 2), warpOf(giveReq(0), 1), warpOf(takeReq(9, 16, 10), 7)},
			[]impl.Fact{{Kind: 2, Size: 16}, {Kind: 4, Warp: 1, Lane: 1}, {Kind: 4, Warp: 2}, {Kind: 1, Warp: 3, At: 16, Size: 16}, {Kind: 1, Warp: 3, Lane: 1, At: 0, Size: 16}, {Kind: 3, Warp: 3, Lane: 2, At: -1, Size: 10}},
			2 + 1 + 1 + 7, []uint32{page(4, 1), page(4, 1)},
		},
	} {
		end := checkSettle(t, machOf(words, c.warps...))
		if !slices.Equal(end.facts, c.facts) || end.steps != c.steps || !slices.Equal(end.mach.Mem.Words, c.words) {
			t.Errorf("%+v: got %v %d %v, want %v %d %v", c.warps, end.facts, end.steps, end.mach.Mem.Words, c.facts, c.steps, c.words)
		}
	}
}

// The example of the document's chapter 7 takes seven steps, and then another warp four.
func TestStepsAreCounted(t *testing.T) {
	m := machOf(make([]uint32, 4), warpOf(takeReq(3, 0, 4, 17), 13), warpOf(takeReq(1), 1))
	for id, want := range []int{7, 2} {
		if end := checkAlone(t, m, id); end.steps != want {
			t.Errorf("warp %d: got %d steps, want %d", id, end.steps, want)
		}
	}
	if end := checkSettle(t, m); end.steps != 11 || len(end.facts) != 4 || end.facts[3] != (impl.Fact{Kind: 1, Warp: 1, At: 48, Size: 1}) {
		t.Errorf("got %d %v", end.steps, end.facts)
	}
}

// An idle warp takes no step, and the machine is returned as it is.
func TestIdleWarpsTakeNoStep(t *testing.T) {
	for _, m := range machs() {
		for id, w := range m.Warps {
			if end := checkAlone(t, m, id); w.Kind == 0 && (end.steps != 0 || len(end.facts) != 0 || !sameMach(end.mach, m)) {
				t.Errorf("warp %d of %+v: got %+v", id, m, end)
			}
		}
	}
	for _, m := range []impl.Mach{machOf(nil, idles(1)...), machOf([]uint32{page(2, 5), head(2), held}, idles(4)...)} {
		if end := checkSettle(t, m); end.steps != 0 || len(end.facts) != 0 || !sameMach(end.mach, m) {
			t.Errorf("%+v: got %+v", m, end)
		}
	}
}

// notMachs has machines that are not valid.
func notMachs() []impl.Mach {
	list := append(mismatched(), impl.Mach{}, machOf(make([]uint32, 4)), machOf(make([]uint32, 17), impl.WarpNew()), machOf(make([]uint32, 65), impl.WarpNew()))
	list = append(list, machOf(make([]uint32, 4), idles(5)...), machOf(nil, impl.Warp{}), machOf([]uint32{0, 0}, impl.WarpNew(), reserving(32, 1, 1, 0)))
	for _, x := range badWords() {
		list = append(list, machOf([]uint32{x}, idles(2)...), machOf([]uint32{0, x, 0}, warpOf(takeReq(1), 1)))
	}
	for _, w := range badIdles() {
		list = append(list, machOf([]uint32{0, 0}, impl.WarpNew(), w), machOf([]uint32{0, 0}, w, impl.WarpNew()))
	}
	return list
}

func TestEndsRefused(t *testing.T) {
	for _, m := range notMachs() {
		for _, id := range append([]int{0, 1, 2, 3}, badIds()...) {
			checkAloneRefused(t, m, id)
			checkGiveAllRefused(t, m, id)
		}
		if mach, facts, steps := impl.Settle(m); steps != -1 || !isZeroMach(mach) || len(facts) != 0 {
			t.Fatalf("Settle(%+v): got %+v %v %d, want zero values and -1", m, mach, facts, steps)
		}
	}
}

func TestWarpsThatThereAreNot(t *testing.T) {
	for _, m := range machs() {
		for _, id := range append([]int{len(m.Warps), len(m.Warps) + 1, 4, 5, -len(m.Warps)}, badIds()...) {
			checkAloneRefused(t, m, id)
			checkGiveAllRefused(t, m, id)
		}
	}
}

func TestEndsAreNewMachs(t *testing.T) {
	for _, m := range machs() {
		for id := range m.Warps {
			checkNewMach(t, "Alone", m, nil, func(m impl.Mach) (impl.Mach, []impl.Fact) {
				next, facts, _ := impl.Alone(m, id)
				return next, facts
			})
		}
		checkNewMach(t, "Settle", m, nil, func(m impl.Mach) (impl.Mach, []impl.Fact) {
			next, facts, _ := impl.Settle(m)
			return next, facts
		})
	}
}

func TestRequestsToGiveAll(t *testing.T) {
	full := append([]uint32{head(16)}, slices.Repeat([]uint32{held}, 15)...)
	for _, c := range []struct {
		words []uint32
		want  []int
	}{
		{nil, nil},
		{make([]uint32, 16), nil},
		{full, []int{0}},
		{[]uint32{head(2), held, page(2, 3), page(0, 1)}, []int{0, 32, 36, 48}},
		{[]uint32{0, page(4, 1), 0, page(3, 2), head(3), held, held}, []int{16, 56, 64}},
		{[]uint32{page(1, 0x7f)}, []int{0, 2, 4, 6, 8, 10, 12}},
		{[]uint32{page(1, 0xff)}, []int{0, 2, 4, 6, 8, 10, 12, 14}},
		{[]uint32{page(1, 0xfe), page(4, 1)}, []int{2, 4, 6, 8, 10, 12, 14, 16}},
		{[]uint32{page(1, 0xff), head(2), held}, []int{0, 2, 4, 6, 8, 10, 12, 14}},
		{[]uint32{0, page(0, 0xfff8)}, []int{19, 20, 21, 22, 23, 24, 25, 26}},
		{append(make([]uint32, 15), page(0, 0x8000)), []int{255}},
		{slices.Repeat([]uint32{page(4, 1)}, 16), []int{0, 16, 32, 48, 64, 80, 96, 112}},
	} {
		for n := 1; n <= 4; n++ {
			for id := range n {
				checkGiveAll(t, machOf(c.words, idles(n)...), id, giveReq(slices.Clone(c.want)...))
			}
		}
	}
}

// Only the warp that is asked has to be idle. What another one holds is not a block, be it one that it reserves or one that it frees.
func TestRequestsToGiveAllBesideBusyWarps(t *testing.T) {
	m := machOf([]uint32{held, page(3, 3), held, held, head(2), held}, reserving(32, 2, 0, 1), impl.WarpNew(), freeing(2, 2), impl.WarpNew())
	m.Warps[3].Vals = []int{1, 2, 3, 4, 5, 6, 7, 8}
	m.Warps[3].Got = []int{10, 20, 30, 40, 50, 60, 70, 80}
	for _, id := range []int{1, 3} {
		checkGiveAll(t, m, id, giveReq(16, 24, 64))
	}
	for _, id := range []int{0, 2} {
		checkGiveAllRefused(t, m, id)
	}
}

func TestRequestsToGiveAllAreNewMemory(t *testing.T) {
	for _, plain := range machs() {
		for id, w := range plain.Warps {
			if w.Kind != 0 {
				continue
			}
			m := sparedMach(plain)
			was := wholeMach(m)
			first, _ := impl.GiveAll(m, id)
			second, _ := impl.GiveAll(m, id)
			want := giveAllModel(plain)
			overwriteInts(first.Vals)
			if !slices.Equal(second.Vals, want.Vals) || !sameMach(wholeMach(m), was) {
				t.Fatalf("GiveAll(%+v, %d): two results share memory, or the argument is changed", plain, id)
			}
			overwriteMach(m)
			if !slices.Equal(second.Vals, want.Vals) {
				t.Fatalf("GiveAll(%+v, %d): the result changes with the argument", plain, id)
			}
		}
	}
}

func TestFitsExamples(t *testing.T) {
	words := []uint32{head(2), held, page(2, 3), page(0, 1)}
	for size, want := range map[int]bool{0: false, 1: true, 2: false, 3: true, 4: true, 5: false, 8: false, 16: false, 17: false, -1: false, 256: false, 257: false} {
		checkFits(t, words, size, want)
	}
	checkFits(t, []uint32{1179650, 0, 0}, 20, true)
	checkFits(t, []uint32{1}, 1, false)
}

// sizesAround has all sizes, and those beside them and far away.
func sizesAround() []int {
	return append(append(span(-20, 300), farSizes()...), farNumbers()...)
}

func TestWhatFitsIntoEveryHeapOfFreeChunks(t *testing.T) {
	for chunks := range 17 {
		for _, size := range sizesAround() {
			checkFits(t, make([]uint32, chunks), size, size >= 1 && size <= 16*chunks)
		}
		for _, x := range []uint32{held, head(2), head(16), page(4, 1), page(3, 3), page(0, 0xffff)} {
			for _, size := range sizesAround() {
				checkFits(t, slices.Repeat([]uint32{x}, chunks), size, false)
			}
		}
	}
}

// Free chunks are consecutive only if none between them is taken, and the last chunk is not followed by the first one.
func TestWhatFitsBetweenTakenChunks(t *testing.T) {
	for _, chunks := range []int{1, 2, 3, 7, 16} {
		for from := range chunks {
			for to := from; to <= chunks; to++ {
				words := slices.Repeat([]uint32{page(4, 1)}, chunks)
				clear(words[from:to])
				for size := 1; size <= 256; size++ {
					checkFits(t, words, size, size <= 16*(to-from))
				}
			}
		}
		for at := range chunks {
			for _, x := range []uint32{held, head(2), page(0, 1), page(4, 1)} {
				words := make([]uint32, chunks)
				words[at] = x
				for size := 17; size <= 256; size++ {
					checkFits(t, words, size, size <= 16*max(at, chunks-1-at))
				}
			}
		}
	}
}

func TestWhatFitsIntoEveryWord(t *testing.T) {
	for _, x := range validCtls() {
		for _, size := range []int{-1, 0, 1, 2, 3, 4, 5, 8, 9, 16, 17, 32, 256, 257} {
			checkFits(t, []uint32{x}, size, fitsModel([]uint32{x}, size))
			checkFits(t, []uint32{held, x, page(4, 1)}, size, fitsModel([]uint32{x}, size))
			checkFits(t, []uint32{0, x, page(4, 1), 0}, size, fitsModel([]uint32{0, x, page(4, 1), 0}, size))
		}
	}
}

func TestWhatFitsIntoMixedWords(t *testing.T) {
	all := someCtls()
	d := dice(17)
	for range 1500 {
		words := make([]uint32, d.roll(17))
		for i := range words {
			if d.roll(3) > 0 {
				words[i] = wordOf(all[d.roll(len(all))])
			}
		}
		for _, size := range sizesAround() {
			checkFits(t, words, size, fitsModel(words, size))
		}
	}
}

func TestNothingFitsIntoOtherMemories(t *testing.T) {
	for _, size := range []int{-1, 0, 1, 2, 8, 16, 17, 32, 256, 257, math.MinInt, math.MaxInt} {
		for _, x := range badWords() {
			for at := range 16 {
				words := make([]uint32, 16)
				words[at] = x
				checkFits(t, words, size, false)
			}
			checkFits(t, []uint32{x}, size, false)
		}
		for _, n := range []int{17, 18, 32, 33, 63, 64, 65, 256} {
			checkFits(t, make([]uint32, n), size, false)
		}
	}
}

func TestFitsReadsNoFurther(t *testing.T) {
	array := []uint32{page(4, 1), 0, 0, page(3, 1)}
	was := slices.Clone(array)
	for size, want := range map[int]bool{1: true, 16: true, 17: false, 32: false} {
		checkFits(t, array[:2], size, want)
	}
	checkFits(t, array[:1], 1, false)
	checkFits(t, array[:0], 1, false)
	checkFits(t, array[:3], 8, true)
	checkFits(t, array[:3], 32, true)
	m, all := spared([]uint32{page(4, 1), 0})
	checkFits(t, m.Words, 16, true)
	if !slices.Equal(array, was) || all[1] != 0 || all[2] != spare {
		t.Errorf("the words, or their spare capacity, are changed: %v %v", array, all)
	}
}
