package tests

import (
	"iter"
	"math"
	"slices"
	"testing"

	"loop.example/g00709/impl"
)

// Promise 9, warps: after a submission exactly the lanes with a request are in
// Todo, what a lane got is what the facts report, and an allocated block starts
// at a multiple of its size, up to the size of a chunk, and lies within the
// heap. Of promise 3, that a step accesses at most one word and that a
// compare-and-swap succeeds only if the word has the expected value; and of
// promise 15, where a warp starts.

const held = 3145728 // the word of a chunk that is reserved

func page(class int, taken uint32) uint32 { return wordOf(pageOf(class, taken)) }

func head(run int) uint32 { return wordOf(impl.Ctl{State: 2, Run: run}) }

// takeReq requests sizes, and nothing for the lanes that are left.
func takeReq(sizes ...int) impl.Req {
	return impl.Req{Kind: 1, Vals: append(sizes, slices.Repeat([]int{0}, 8-len(sizes))...)}
}

// giveReq requests that addresses be freed, and nothing for the lanes that are left.
func giveReq(addresses ...int) impl.Req {
	return impl.Req{Kind: 2, Vals: append(addresses, slices.Repeat([]int{-1}, 8-len(addresses))...)}
}

// kept has what the lanes that are finished got before, in which a test sees any change.
func kept(todo uint32) []int {
	got := span(100, 8)
	for _, lane := range lanesOf(todo) {
		got[lane] = -1
	}
	return got
}

// warpOf returns a warp that has only these lanes of the request left.
func warpOf(r impl.Req, todo uint32) impl.Warp {
	return impl.Warp{Kind: r.Kind, Vals: slices.Clone(r.Vals), Got: kept(todo), Todo: todo}
}

func allLanes(r impl.Req) uint32 { return sumOfBits(askingLanes(r)) }

func sameWarp(a impl.Warp, b impl.Warp) bool {
	return a.Kind == b.Kind && slices.Equal(a.Vals, b.Vals) && slices.Equal(a.Got, b.Got) && a.Todo == b.Todo &&
		a.Phase == b.Phase && a.Probe == b.Probe && a.Held == b.Held && a.Seen == b.Seen
}

func copyWarp(w impl.Warp) impl.Warp {
	w.Vals, w.Got = slices.Clone(w.Vals), slices.Clone(w.Got)
	return w
}

func submitted(t *testing.T, r impl.Req) impl.Warp {
	t.Helper()
	w, ok := impl.WarpSubmit(impl.WarpNew(), r)
	if !ok {
		t.Fatalf("WarpSubmit(%v): got false", r)
	}
	return w
}

func checkOk(t *testing.T, w impl.Warp, chunks int, want bool) {
	t.Helper()
	if got := impl.WarpOk(w, chunks); got != want {
		t.Fatalf("WarpOk(%+v, %d): got %v", w, chunks, got)
	}
}

// checkStep compares a step with the model's, and returns what the model expects.
func checkStep(t *testing.T, w impl.Warp, id int, words []uint32) stepped {
	t.Helper()
	want := stepModel(w, id, words)
	next, after, facts, ok := impl.WarpStep(w, id, impl.Mem{Words: words})
	if !ok || !sameWarp(next, want.warp) || !slices.Equal(after.Words, want.words) || !slices.Equal(facts, want.facts) {
		t.Fatalf("WarpStep(%+v, %d, %v):\ngot  %+v %v %v %v\nwant %+v %v %v true",
			w, id, words, next, after.Words, facts, ok, want.warp, want.words, want.facts)
	}
	return want
}

func checkStepRefused(t *testing.T, w impl.Warp, id int, words []uint32) {
	t.Helper()
	next, after, facts, ok := impl.WarpStep(w, id, impl.Mem{Words: words})
	if ok || !sameWarp(next, impl.Warp{}) || len(after.Words) != 0 || len(facts) != 0 {
		t.Fatalf("WarpStep(%+v, %d, %v): got %+v %v %v %v, want zero values and false", w, id, words, next, after, facts, ok)
	}
}

func checkSubmitRefused(t *testing.T, w impl.Warp, r impl.Req) {
	t.Helper()
	if next, ok := impl.WarpSubmit(w, r); ok || !sameWarp(next, impl.Warp{}) {
		t.Fatalf("WarpSubmit(%+v, %+v): got %+v %v, want the zero value and false", w, r, next, ok)
	}
}

func TestWarpConstants(t *testing.T) {
	got := []int{impl.KindIdle, impl.KindTake, impl.KindGive, impl.FactTaken, impl.FactGiven, impl.FactRefused, impl.FactWrong}
	if !slices.Equal(got, []int{0, 1, 2, 1, 2, 3, 4}) {
		t.Errorf("got %v", got)
	}
}

// validReqs has requests of every subset of the lanes, of every value in turn, and of the limits.
func validReqs() []impl.Req {
	list := []impl.Req{takeReq(), giveReq(), takeReq(256), giveReq(4095), takeReq(0, 256), giveReq(-1, 4095)}
	for lane := range 8 {
		for _, size := range []int{1, 16, 17, 255, 256} {
			r := takeReq()
			r.Vals[lane] = size
			list = append(list, r)
		}
		for _, at := range []int{0, 1, 255, 256, 4094, 4095} {
			r := giveReq()
			r.Vals[lane] = at
			list = append(list, r)
		}
	}
	for mask := range uint32(256) {
		take, give := takeReq(), giveReq()
		for _, lane := range lanesOf(mask) {
			take.Vals[lane] = 1 + (37*lane+int(mask))%256
			give.Vals[lane] = (509*lane + int(mask)) % 4096
		}
		list = append(list, take, give)
	}
	for size := range 257 {
		list = append(list, takeReq(slices.Repeat([]int{size}, 8)...))
	}
	for at := -1; at < 4096; at++ {
		list = append(list, giveReq(3, at))
	}
	return list
}

// badReqs has kinds that are none, lists that are no rows, and values beyond the limits in every lane.
func badReqs() []impl.Req {
	list := []impl.Req{{}, {Kind: 1}, {Kind: 2}}
	for _, kind := range []int{-1, 0, 3, 4, -2, 256, 257, 258, 1 << 32, 1<<32 + 1, 1<<32 + 2, -1<<32 + 1, math.MinInt, math.MinInt + 1, math.MaxInt} {
		list = append(list, impl.Req{Kind: kind, Vals: make([]int, 8)}, impl.Req{Kind: kind, Vals: slices.Repeat([]int{5}, 8)})
	}
	for _, vals := range badRows() {
		list = append(list, impl.Req{Kind: 1, Vals: vals}, impl.Req{Kind: 2, Vals: vals})
	}
	for lane := range 8 {
		for _, x := range []int{-1, 257, -2, 258, 512, 4095, 4096, 1 << 32, 1<<32 + 1, -1 << 32, -1<<32 + 1, math.MinInt, math.MinInt + 1, math.MaxInt} {
			r := takeReq(slices.Repeat([]int{256}, 8)...)
			r.Vals[lane] = x
			list = append(list, r)
		}
		for _, x := range []int{-2, 4096, -3, -4096, 4097, 8192, 1 << 32, 1<<32 + 1, -1 << 32, -1<<32 + 1, math.MinInt, math.MinInt + 1, math.MaxInt} {
			r := giveReq(slices.Repeat([]int{4095}, 8)...)
			r.Vals[lane] = x
			list = append(list, r)
		}
	}
	return list
}

func TestReqsAccepted(t *testing.T) {
	for _, r := range validReqs() {
		if !impl.ReqOk(r) {
			t.Errorf("ReqOk(%v): got false", r)
		}
	}
}

func TestReqsRefused(t *testing.T) {
	for _, r := range badReqs() {
		if impl.ReqOk(r) {
			t.Errorf("ReqOk(%v): got true", r)
		}
		checkSubmitRefused(t, impl.WarpNew(), r)
	}
}

func TestValuesBeyondTheRowAreNotRead(t *testing.T) {
	long := []int{1, 2, 3, 4, 5, 6, 7, 8, 5000}
	if !impl.ReqOk(impl.Req{Kind: 1, Vals: long[:8]}) || !impl.ReqOk(impl.Req{Kind: 2, Vals: long[:8]}) {
		t.Errorf("ReqOk reads behind the list")
	}
	if impl.ReqOk(impl.Req{Kind: 1, Vals: long[:7]}) || impl.ReqOk(impl.Req{Kind: 2, Vals: long[:7]}) {
		t.Errorf("ReqOk takes an element from behind the list")
	}
}

func TestNewWarp(t *testing.T) {
	w := impl.WarpNew()
	none := []int{-1, -1, -1, -1, -1, -1, -1, -1}
	if !sameWarp(w, impl.Warp{Vals: none, Got: none}) {
		t.Errorf("WarpNew(): got %+v", w)
	}
	for chunks := range 17 {
		checkOk(t, w, chunks, true)
		checkStepRefused(t, w, 0, make([]uint32, chunks))
	}
	if group := impl.WarpGroup(w); group != 0 {
		t.Errorf("WarpGroup of an idle warp: got %d", group)
	}
}

func TestSubmitPutsTheRequestingLanesInTodo(t *testing.T) {
	for _, r := range validReqs() {
		want := warpOf(r, allLanes(r))
		want.Got = slices.Repeat([]int{-1}, 8)
		if want.Todo == 0 {
			want.Kind = 0
		}
		for _, idle := range []impl.Warp{impl.WarpNew(), {Vals: span(300, 8), Got: span(-4, 8)}} {
			w, ok := impl.WarpSubmit(idle, r)
			if !ok || !sameWarp(w, want) {
				t.Errorf("WarpSubmit(%+v, %v): got %+v %v, want %+v true", idle, r, w, ok, want)
			}
		}
		for chunks := range 17 {
			checkOk(t, want, chunks, true)
		}
	}
}

func TestSubmitToAWarpThatIsNotIdle(t *testing.T) {
	for _, r := range []impl.Req{takeReq(1), takeReq(16, 17), giveReq(0), giveReq(40, 4095)} {
		w := submitted(t, r)
		for _, other := range []impl.Req{r, takeReq(), giveReq(), takeReq(2), giveReq(2)} {
			checkSubmitRefused(t, w, other)
		}
	}
}

// badIdles has idle warps that are not valid.
func badIdles() []impl.Warp {
	none := slices.Repeat([]int{-1}, 8)
	list := []impl.Warp{{}, {Vals: none}, {Got: none}}
	for _, short := range badRows() {
		list = append(list, impl.Warp{Vals: short, Got: none}, impl.Warp{Vals: none, Got: short})
	}
	for _, x := range []int{1, -1, 2, 16, 256, 1 << 32, math.MinInt, math.MaxInt} {
		list = append(list, impl.Warp{Vals: none, Got: none, Phase: x}, impl.Warp{Vals: none, Got: none, Probe: x}, impl.Warp{Vals: none, Got: none, Held: x})
	}
	for _, x := range []uint32{1, 128, 255, 256, 65536, held, top, page(0, 1), head(2)} {
		list = append(list, impl.Warp{Vals: none, Got: none, Todo: x}, impl.Warp{Vals: none, Got: none, Seen: x})
	}
	return list
}

func TestIdleWarpsRefused(t *testing.T) {
	for _, w := range badIdles() {
		checkOk(t, w, 16, false)
		checkSubmitRefused(t, w, takeReq(1))
		checkSubmitRefused(t, w, takeReq())
		checkStepRefused(t, w, 0, make([]uint32, 4))
		if group := impl.WarpGroup(w); group != 0 {
			t.Errorf("WarpGroup(%+v): got %d, want 0", w, group)
		}
	}
}

// groupReqs has rows of sizes of one class, of several classes, and beyond a chunk, and rows of addresses.
func groupReqs() []impl.Req {
	list := []impl.Req{
		takeReq(3, 0, 4, 17), takeReq(1, 2, 3, 4, 5, 8, 9, 16), takeReq(16, 9, 8, 5, 4, 3, 2, 1), takeReq(17, 16, 17, 16, 32, 8, 256, 8),
		takeReq(16, 17, 16, 17, 8, 32, 8, 256), takeReq(2, 1, 2, 1, 2, 1, 2, 1), takeReq(1, 256, 1, 256, 17, 1, 17, 1), takeReq(0, 0, 0, 5, 6, 7, 8, 9),
		giveReq(0, 1, 2, 3, 4, 5, 6, 7), giveReq(5, 5, 5, 5, 5, 5, 5, 5), giveReq(36, -1, 0, 5, -1, -1, -1, 70), giveReq(17, 4095, 255, 256, 16, 15, 32, 33),
	}
	for _, size := range []int{1, 2, 3, 4, 5, 8, 9, 16, 17, 32, 33, 240, 241, 256} {
		list = append(list, takeReq(slices.Repeat([]int{size}, 8)...))
	}
	return list
}

func TestGroupsOfEveryTodo(t *testing.T) {
	for _, r := range groupReqs() {
		for todo := range uint32(256) {
			w := warpOf(r, todo)
			want := uint32(0)
			if validWarp(w, 16) {
				want = sumOfBits(groupFor(w))
			}
			if got := impl.WarpGroup(w); got != want {
				t.Errorf("WarpGroup(%+v): got %d, want %d", w, got, want)
			}
		}
		for _, todo := range badMasks() {
			if got := impl.WarpGroup(warpOf(r, todo)); got != 0 {
				t.Errorf("WarpGroup(%+v): got %d, want 0", warpOf(r, todo), got)
			}
		}
	}
}

func TestGroupExamples(t *testing.T) {
	for _, c := range []struct {
		r     impl.Req
		todo  uint32
		group uint32
	}{
		{takeReq(3, 0, 4, 17), 13, 5},
		{takeReq(3, 0, 4, 17), 12, 4},
		{takeReq(3, 0, 4, 17), 8, 8},
		{takeReq(17, 17, 16, 9), 15, 1},
		{takeReq(17, 17, 16, 9), 12, 12},
		{giveReq(5, 5, 5), 7, 1},
		{giveReq(5, 5, 5), 6, 2},
		{takeReq(8, 5, 4, 8), 15, 11},
	} {
		if got := impl.WarpGroup(warpOf(c.r, c.todo)); got != c.group {
			t.Errorf("WarpGroup of %v with %d: got %d, want %d", c.r, c.todo, got, c.group)
		}
	}
}

func TestGroupOfWarpsThatAreBusy(t *testing.T) {
	for w := range someWarps(16) {
		want := uint32(0)
		if validWarp(w, 16) {
			want = sumOfBits(groupFor(w))
		}
		if got := impl.WarpGroup(w); got != want {
			t.Fatalf("WarpGroup(%+v): got %d, want %d", w, got, want)
		}
	}
}

func badChunkCounts() []int {
	return []int{-1, 17, -2, -16, 18, 32, 64, 256, 1 << 32, 1<<32 + 4, -1 << 32, -1<<32 + 4, math.MinInt, math.MinInt + 4, math.MaxInt - 3, math.MaxInt}
}

func badIds() []int {
	return []int{-1, 4, -2, -4, 5, 8, 256, 1 << 32, 1<<32 + 1, -1 << 32, -1<<32 + 1, math.MinInt, math.MinInt + 1, math.MaxInt - 3, math.MaxInt}
}

func TestStarts(t *testing.T) {
	if got := impl.WarpStart(0, 2, 4); got != 2 {
		t.Errorf("WarpStart(0, 2, 4): got %d, want 2", got)
	}
	for id := range 4 {
		for class := range 5 {
			for chunks := 1; chunks <= 16; chunks++ {
				want := 5*id + 3*class
				for want >= chunks {
					want -= chunks
				}
				if got := impl.WarpStart(id, class, chunks); got != want {
					t.Errorf("WarpStart(%d, %d, %d): got %d, want %d", id, class, chunks, got, want)
				}
			}
		}
	}
}

func TestStartsAreChunksAndWarpsStartApart(t *testing.T) {
	for class := range impl.Classes {
		for chunks := 1; chunks <= impl.MaxChunks; chunks++ {
			for id := range impl.MaxWarps {
				if got := impl.WarpStart(id, class, chunks); got < 0 || got >= chunks {
					t.Errorf("WarpStart(%d, %d, %d): %d is no chunk", id, class, chunks, got)
				}
			}
			same := impl.WarpStart(0, class, chunks) == impl.WarpStart(1, class, chunks)
			if same != (chunks == 1 || chunks == 5) {
				t.Errorf("class %d, %d chunks: the warps 0 and 1 start at the same chunk: %v", class, chunks, same)
			}
		}
	}
}

func TestStartsRefused(t *testing.T) {
	check := func(id int, class int, chunks int) {
		if got := impl.WarpStart(id, class, chunks); got != -1 {
			t.Errorf("WarpStart(%d, %d, %d): got %d, want -1", id, class, chunks, got)
		}
	}
	for _, id := range badIds() {
		check(id, 0, 1)
		check(id, 4, 16)
	}
	for _, class := range badClasses() {
		check(0, class, 1)
		check(3, class, 16)
	}
	for _, chunks := range append(badChunkCounts(), 0) {
		check(0, 0, chunks)
		check(3, 4, chunks)
	}
}

// distinct returns the numbers in order, each once.
func distinct(list ...int) []int {
	slices.Sort(list)
	return slices.Compact(list)
}

// seenWords has words for Seen: no word, pages of every class with and without room, the other states, and no control words.
func seenWords() []uint32 {
	list := []uint32{0, held, head(2), head(3), head(16), 1, 1048576, page(4, 1) + 1}
	for class, blocks := range blocksOfClass {
		all := sumOfBits(span(0, blocks))
		list = append(list, page(class, 1), page(class, all))
		if blocks > 1 {
			list = append(list, page(class, all-1), page(class, all/2+1))
		}
	}
	return list
}

// baseWarps has warps in phase 0 whose lead requests each class, runs of each length at the limits, or an address.
func baseWarps() []impl.Warp {
	list := []impl.Warp{
		warpOf(takeReq(3, 0, 4, 17), 13), warpOf(takeReq(3, 0, 4, 17), 8), warpOf(takeReq(8, 17, 8, 1, 7), 31), warpOf(takeReq(8, 17, 8, 1, 7), 28),
		warpOf(takeReq(17, 1, 17, 40), 15), warpOf(takeReq(17, 1, 17, 40), 8), warpOf(giveReq(5, -1, 8, 36), 13), warpOf(giveReq(5, -1, 8, 36), 12),
	}
	for _, size := range []int{1, 2, 4, 5, 9, 16} {
		list = append(list, warpOf(takeReq(slices.Repeat([]int{size}, 8)...), 255))
	}
	for _, size := range []int{17, 32, 33, 80, 81, 240, 241, 256} {
		list = append(list, warpOf(takeReq(0, size), 2))
	}
	for _, at := range []int{0, 1, 8, 12, 15, 16, 17, 32, 79, 80, 240, 248, 255, 256, 4095} {
		list = append(list, warpOf(giveReq(-1, -1, at, 16), 4), warpOf(giveReq(at, 16), 3))
	}
	return list
}

// someWarps has warps with the edges of every field for that number of chunks, valid and not valid ones.
func someWarps(chunks int) iter.Seq[impl.Warp] {
	return func(yield func(impl.Warp) bool) {
		for _, base := range baseWarps() {
			run := chunksFor(base.Vals[lanesOf(base.Todo)[0]])
			probes := distinct(-1, 0, 1, 2, chunks-run-1, chunks-run, chunks-run+1, chunks-1, chunks, chunks+1)
			helds := distinct(-1, 0, 1, 2, run-1, run, run+1, chunks-1, chunks, chunks+1)
			for phase := -1; phase <= 4; phase++ {
				for _, probe := range probes {
					for _, n := range helds {
						for _, seen := range seenWords() {
							w := copyWarp(base)
							w.Phase, w.Probe, w.Held, w.Seen = phase, probe, n, seen
							if !yield(w) {
								return
							}
						}
					}
				}
			}
		}
	}
}

func TestWarpOkAtTheEdgesOfEveryField(t *testing.T) {
	for _, chunks := range []int{0, 1, 2, 5, 15, 16} {
		valid := 0
		for w := range someWarps(chunks) {
			want := validWarp(w, chunks)
			checkOk(t, w, chunks, want)
			if want {
				valid++
			}
		}
		if valid < 40 {
			t.Errorf("%d chunks: only %d of the warps are valid", chunks, valid)
		}
	}
}

// validWarps has the valid warps that are not idle among someWarps.
func validWarps(chunks int) iter.Seq[impl.Warp] {
	return func(yield func(impl.Warp) bool) {
		for w := range someWarps(chunks) {
			if validWarp(w, chunks) && !yield(w) {
				return
			}
		}
	}
}

func TestWarpsForNumbersOfChunksThatAreNone(t *testing.T) {
	for _, chunks := range badChunkCounts() {
		checkOk(t, impl.WarpNew(), chunks, false)
		for _, w := range baseWarps() {
			checkOk(t, w, chunks, false)
		}
	}
}

func TestWarpsThatAreValidForMoreChunksOnly(t *testing.T) {
	for w := range validWarps(5) {
		for _, chunks := range []int{0, 1, 2, 3, 4, 5, 6, 16} {
			want := validWarp(w, chunks)
			checkOk(t, w, chunks, want)
			if !want {
				checkStepRefused(t, w, 0, make([]uint32, chunks))
			}
		}
	}
}

// farWarps has the warp with each field in turn replaced by numbers far away, of which some are valid in their low bits only.
func farWarps(w impl.Warp) []impl.Warp {
	var list []impl.Warp
	add := func(change func(w *impl.Warp)) {
		next := copyWarp(w)
		change(&next)
		list = append(list, next)
	}
	for _, x := range append(farNumbers(), 1<<32+2, 1<<32+3, math.MinInt+2, math.MinInt+3) {
		add(func(w *impl.Warp) { w.Kind = x })
		add(func(w *impl.Warp) { w.Phase = x })
		add(func(w *impl.Warp) { w.Probe = x })
		add(func(w *impl.Warp) { w.Held = x })
		add(func(w *impl.Warp) { w.Probe, w.Held = x, math.MaxInt })
		add(func(w *impl.Warp) { w.Probe, w.Held = math.MaxInt, x })
		add(func(w *impl.Warp) { w.Probe, w.Held = math.MinInt, x })
		add(func(w *impl.Warp) { w.Vals[lanesOf(w.Todo)[0]] = x })
		add(func(w *impl.Warp) { w.Vals[7] = x })
		add(func(w *impl.Warp) { w.Got[0], w.Got[7] = x, x })
	}
	for _, short := range badRows() {
		add(func(w *impl.Warp) { w.Vals = short })
		add(func(w *impl.Warp) { w.Got = short })
	}
	for _, todo := range append(badMasks(), 0) {
		add(func(w *impl.Warp) { w.Todo = todo })
	}
	for _, x := range badWords() {
		add(func(w *impl.Warp) { w.Seen = x })
	}
	return list
}

func TestWarpsWithOneFieldFarAway(t *testing.T) {
	for _, chunks := range []int{2, 16} {
		last := impl.Warp{Phase: -1}
		for w := range validWarps(chunks) {
			// One warp of each request and phase is enough.
			if w.Phase == last.Phase && w.Kind == last.Kind && slices.Equal(w.Vals, last.Vals) {
				continue
			}
			last = w
			for _, far := range farWarps(w) {
				want := validWarp(far, chunks)
				checkOk(t, far, chunks, want)
				if !want {
					checkStepRefused(t, far, 1, make([]uint32, chunks))
				}
			}
		}
	}
}

func TestTodoHasOnlyLanesThatRequestSomething(t *testing.T) {
	for mask := range uint32(256) {
		take, give := takeReq(), giveReq()
		for _, lane := range lanesOf(mask) {
			take.Vals[lane], give.Vals[lane] = 5, 0
		}
		for todo := range uint32(256) {
			want := todo != 0 && todo|mask == mask
			checkOk(t, warpOf(take, todo), 4, want)
			checkOk(t, warpOf(give, todo), 4, want)
		}
	}
}

// heapFor returns that many words, of all kinds, from one that the number selects.
func heapFor(chunks int, from int) []uint32 {
	all := []uint32{0, page(0, 3), held, page(2, 9), head(3), page(4, 1), page(3, 2), 0, page(1, 255)}
	words := make([]uint32, chunks)
	for i := range words {
		words[i] = all[(i+from)%len(all)]
	}
	return words
}

// stepWords has words that a step may find, with the one that the warp has seen.
func stepWords(w impl.Warp) []uint32 {
	list := []uint32{w.Seen, 0, held, head(2), head(16)}
	for class, blocks := range blocksOfClass {
		all := sumOfBits(span(0, blocks))
		list = append(list, page(class, 1), page(class, all), page(class, all/2+1))
		if blocks > 1 {
			list = append(list, page(class, all-1), page(class, all/2))
		}
	}
	return list
}

func TestStepsOnEveryKindOfWord(t *testing.T) {
	for _, chunks := range []int{0, 1, 2, 5, 16} {
		i := 0
		for w := range validWarps(chunks) {
			i++
			id := i % 4
			words := heapFor(chunks, i%9)
			want := checkStep(t, w, id, words)
			if want.at < 0 {
				continue
			}
			for _, x := range stepWords(w) {
				words[want.at] = x
				checkStep(t, w, id, words)
			}
		}
	}
}

func TestStepsOfEveryWarpNumber(t *testing.T) {
	for chunks := range 17 {
		for from := range 9 {
			for _, w := range baseWarps() {
				for id := range 4 {
					words := heapFor(chunks, from)
					checkStep(t, w, id, words)
					for probe := range chunks {
						next := copyWarp(w)
						next.Probe = probe
						if !validWarp(next, chunks) {
							continue
						}
						checkStep(t, next, id, words)
					}
				}
			}
		}
	}
}

// accessed returns the words that a step changes, and those on which anything else that it returns depends.
func accessed(t *testing.T, w impl.Warp, id int, words []uint32) []int {
	t.Helper()
	next, after, facts, ok := impl.WarpStep(w, id, impl.Mem{Words: words})
	if !ok || len(after.Words) != len(words) {
		t.Fatalf("WarpStep(%+v, %d, %v): got %v with %d words", w, id, words, ok, len(after.Words))
	}
	var list []int
	for i := range words {
		hit := after.Words[i] != words[i]
		for _, x := range []uint32{0, held, head(2), page(0, 1), page(2, 15), page(3, 1), page(4, 1)} {
			other, want := slices.Clone(words), slices.Clone(after.Words)
			other[i], want[i] = x, x
			w2, m2, f2, _ := impl.WarpStep(w, id, impl.Mem{Words: other})
			hit = hit || !sameWarp(w2, next) || !slices.Equal(m2.Words, want) || !slices.Equal(f2, facts)
		}
		if hit {
			list = append(list, i)
		}
	}
	return list
}

func TestAStepAccessesAtMostOneWord(t *testing.T) {
	for _, chunks := range []int{0, 1, 3, 5, 16} {
		i := 0
		for w := range validWarps(chunks) {
			i++
			if chunks == 16 && i%5 != 0 {
				continue
			}
			id, words := i%4, heapFor(chunks, i%9)
			want := stepModel(w, id, words)
			got := accessed(t, w, id, words)
			if len(got) > 1 || len(got) == 1 && got[0] != want.at {
				t.Fatalf("WarpStep(%+v, %d, %v): accesses the words %v, want at most %d", w, id, words, got, want.at)
			}
		}
	}
}

func TestASwapSucceedsOnlyOnTheWordThatWasSeen(t *testing.T) {
	all := someCtls()
	for _, chunks := range []int{1, 16} {
		for w := range validWarps(chunks) {
			if w.Phase != 1 {
				continue
			}
			words := heapFor(chunks, 2)
			at := stepModel(w, 2, words).at
			for _, c := range all {
				words[at] = wordOf(c)
				next, after, facts, ok := impl.WarpStep(w, 2, impl.Mem{Words: words})
				same := words[at] == w.Seen
				if !ok || same == slices.Equal(after.Words, words) || !same && (len(facts) != 0 || next.Todo != w.Todo || next.Held != w.Held || !slices.Equal(next.Got, w.Got)) {
					t.Fatalf("WarpStep(%+v, 2, %v): got %+v %v %v %v", w, words, next, after, facts, ok)
				}
			}
		}
	}
}
