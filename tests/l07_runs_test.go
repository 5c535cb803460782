package tests

import (
	"maps"
	"slices"
	"testing"

	"loop.example/g00709/impl"
)

// Promise 9 over whole requests: step by step with words that another warp
// changes in between, and many warps on one heap.

// look is what a warp shows beside its rows.
type look struct {
	todo  uint32
	phase int
	probe int
	held  int
	seen  uint32
}

// turn is one step: what other warps store before it, and what is expected after it.
type turn struct {
	before map[int]uint32
	look   look
	change map[int]uint32
	facts  []impl.Fact
}

func fact(kind int, lane int, at int, size int) impl.Fact {
	return impl.Fact{Kind: kind, Lane: lane, At: at, Size: size}
}

func write(words []uint32, changes map[int]uint32) {
	for at, x := range changes {
		words[at] = x
	}
}

func lookAt(w impl.Warp) look {
	return look{w.Todo, w.Phase, w.Probe, w.Held, w.Seen}
}

// checkTurns executes the request step by step, up to the end, and compares what every lane got.
func checkTurns(t *testing.T, id int, words []uint32, r impl.Req, turns []turn, got []int) {
	t.Helper()
	w := submitted(t, r)
	for i, turn := range turns {
		write(words, turn.before)
		next, after, facts, ok := impl.WarpStep(w, id, impl.Mem{Words: words})
		write(words, turn.change)
		for j := range turn.facts {
			turn.facts[j].Warp = id
		}
		kind := r.Kind
		if turn.look.todo == 0 {
			kind = 0
		}
		if !ok || next.Kind != kind || !slices.Equal(next.Vals, r.Vals) || lookAt(next) != turn.look {
			t.Fatalf("step %d: got %+v %v, want %+v", i+1, next, ok, turn.look)
		}
		if !slices.Equal(after.Words, words) || !slices.Equal(facts, turn.facts) {
			t.Fatalf("step %d: got %v %v, want %v %v", i+1, after.Words, facts, words, turn.facts)
		}
		w, words = next, after.Words
	}
	if w.Kind != impl.KindIdle || !slices.Equal(w.Got, got) {
		t.Errorf("at the end: got %+v, want %v", w, got)
	}
	checkStepRefused(t, w, id, words)
}

func TestExampleOfTheDocument(t *testing.T) {
	checkTurns(t, 0, make([]uint32, 4), takeReq(3, 0, 4, 17), []turn{
		{look: look{todo: 13, phase: 1}},
		{look: look{todo: 8}, change: map[int]uint32{2: 1179651}, facts: []impl.Fact{fact(1, 0, 32, 4), fact(1, 2, 36, 4)}},
		{look: look{todo: 8, phase: 1}},
		{look: look{todo: 8, held: 1}, change: map[int]uint32{0: 3145728}},
		{look: look{todo: 8, phase: 1, held: 1}},
		{look: look{todo: 8, phase: 3, held: 2}, change: map[int]uint32{1: 3145728}},
		{look: look{}, change: map[int]uint32{0: 35651584}, facts: []impl.Fact{fact(1, 3, 0, 32)}},
	}, []int{32, -1, 36, 0, -1, -1, -1, -1})
}

func TestLanesOfAClassAreRefusedTogether(t *testing.T) {
	full := page(0, 65535)
	checkTurns(t, 2, []uint32{full}, takeReq(5, 16, 8, 0, 6, 9, 1), []turn{
		{look: look{todo: 119, probe: 1}},
		{look: look{todo: 98}, facts: []impl.Fact{fact(3, 0, -1, 5), fact(3, 2, -1, 8), fact(3, 4, -1, 6)}},
		{look: look{todo: 98, probe: 1}},
		{look: look{todo: 64}, facts: []impl.Fact{fact(3, 1, -1, 16), fact(3, 5, -1, 9)}},
		{look: look{todo: 64, probe: 1}},
		{look: look{}, facts: []impl.Fact{fact(3, 6, -1, 1)}},
	}, []int{-2, -2, -2, -1, -2, -2, -2, -1})
}

func TestHeapWithoutChunks(t *testing.T) {
	checkTurns(t, 3, nil, takeReq(4, 256, 3, 0, 17), []turn{
		{look: look{todo: 18}, facts: []impl.Fact{fact(3, 0, -1, 4), fact(3, 2, -1, 3)}},
		{look: look{todo: 16}, facts: []impl.Fact{fact(3, 1, -1, 256)}},
		{look: look{}, facts: []impl.Fact{fact(3, 4, -1, 17)}},
	}, []int{-2, -2, -2, -1, -2, -1, -1, -1})
	checkTurns(t, 3, nil, giveReq(0, -1, 4095), []turn{
		{look: look{todo: 4}, facts: []impl.Fact{fact(4, 0, 0, 0)}},
		{look: look{}, facts: []impl.Fact{fact(4, 2, 4095, 0)}},
	}, []int{-2, -1, -2, -1, -1, -1, -1, -1})
}

func TestPagesWithRoomForSomeOfTheLanes(t *testing.T) {
	checkTurns(t, 1, []uint32{0, page(3, 1), page(2, 1)}, takeReq(8, 8, 7, 5, 6), []turn{
		{look: look{todo: 31, probe: 1}},
		{look: look{todo: 31, phase: 1, probe: 1}},
		{look: look{todo: 28, probe: 1}, change: map[int]uint32{0: page(3, 3)}, facts: []impl.Fact{fact(1, 0, 0, 8), fact(1, 1, 8, 8)}},
		{look: look{todo: 28, probe: 2}},
		{look: look{todo: 28, phase: 1, probe: 2, seen: page(3, 1)}},
		{look: look{todo: 24, probe: 2}, change: map[int]uint32{1: page(3, 3)}, facts: []impl.Fact{fact(1, 2, 24, 8)}},
		{look: look{todo: 24, probe: 3}},
		{look: look{}, facts: []impl.Fact{fact(3, 3, -1, 5), fact(3, 4, -1, 6)}},
	}, []int{0, 8, 24, -2, -2, -1, -1, -1})
}

// The lanes of a group that are left may have a lane of another class before them: it goes on from the same Probe.
func TestAnotherLeadGoesOnFromTheProbe(t *testing.T) {
	checkTurns(t, 0, []uint32{page(0, 1), page(2, 1), page(3, 2), 0}, takeReq(8, 1, 8), []turn{
		{look: look{todo: 7, probe: 1}},
		{look: look{todo: 7, phase: 1, probe: 1, seen: page(3, 2)}},
		{look: look{todo: 6, probe: 1}, change: map[int]uint32{2: page(3, 3)}, facts: []impl.Fact{fact(1, 0, 32, 8)}},
		{look: look{todo: 6, probe: 2}},
		{look: look{todo: 6, probe: 3}},
		{look: look{todo: 6, phase: 1, probe: 3}},
		{look: look{todo: 4}, change: map[int]uint32{3: page(0, 1)}, facts: []impl.Fact{fact(1, 1, 48, 1)}},
		{look: look{todo: 4, probe: 1}},
		{look: look{todo: 4, probe: 2}},
		{look: look{todo: 4, probe: 3}},
		{look: look{todo: 4, probe: 4}},
		{look: look{}, facts: []impl.Fact{fact(3, 2, -1, 8)}},
	}, []int{32, 48, -2, -1, -1, -1, -1, -1})
}

func TestClaimOfAWordThatWasChanged(t *testing.T) {
	checkTurns(t, 0, []uint32{0, 0}, takeReq(4, 3), []turn{
		{look: look{todo: 3, phase: 1}},
		{before: map[int]uint32{0: page(2, 1)}, look: look{todo: 3}},
		{look: look{todo: 3, phase: 1, seen: page(2, 1)}},
		{before: map[int]uint32{0: page(2, 2)}, look: look{todo: 3}},
		{look: look{todo: 3, phase: 1, seen: page(2, 2)}},
		{before: map[int]uint32{0: page(2, 15)}, look: look{todo: 3}},
		{look: look{todo: 3, probe: 1}},
		{look: look{todo: 3, phase: 1, probe: 1}},
		{before: map[int]uint32{0: 0}, look: look{}, change: map[int]uint32{1: page(2, 3)}, facts: []impl.Fact{fact(1, 0, 16, 4), fact(1, 1, 20, 4)}},
	}, []int{16, 20, -1, -1, -1, -1, -1, -1})
}

// Only the word counts: whether it was another one in the meantime cannot be seen, and does not matter.
func TestClaimOfAWordThatIsTheSameAgain(t *testing.T) {
	w := submitted(t, takeReq(4, 3))
	w, m, _, _ := impl.WarpStep(w, 0, impl.Mem{Words: []uint32{page(2, 1)}})
	word, offs, _ := impl.Claim(m.Words[0], 2, 2)
	m, _ = impl.MemStore(m, 0, word)
	for _, off := range offs {
		word, _, _ = impl.Release(m.Words[0], off)
		m, _ = impl.MemStore(m, 0, word)
	}
	w, m, facts, ok := impl.WarpStep(w, 0, m)
	if !ok || m.Words[0] != page(2, 7) || !slices.Equal(facts, []impl.Fact{fact(1, 0, 4, 4), fact(1, 1, 8, 4)}) || w.Kind != 0 {
		t.Errorf("got %+v %v %v %v", w, m, facts, ok)
	}
}

func TestChunksThatAreTakenWhileTheyAreReserved(t *testing.T) {
	checkTurns(t, 1, make([]uint32, 5), takeReq(33), []turn{
		{look: look{todo: 1, phase: 1}},
		{before: map[int]uint32{0: page(0, 1)}, look: look{todo: 1, probe: 1}},
		{look: look{todo: 1, phase: 1, probe: 1}},
		{look: look{todo: 1, probe: 1, held: 1}, change: map[int]uint32{1: held}},
		{before: map[int]uint32{2: held}, look: look{todo: 1, phase: 2, probe: 1, held: 1}},
		{before: map[int]uint32{2: 0}, look: look{todo: 1, probe: 2}, change: map[int]uint32{1: 0}},
		{look: look{todo: 1, phase: 1, probe: 2}},
		{look: look{todo: 1, probe: 2, held: 1}, change: map[int]uint32{2: held}},
		{look: look{todo: 1, phase: 1, probe: 2, held: 1}},
		{before: map[int]uint32{3: head(2)}, look: look{todo: 1, phase: 2, probe: 2, held: 1}},
		{look: look{todo: 1, probe: 3}, change: map[int]uint32{2: 0}},
		{look: look{}, facts: []impl.Fact{fact(3, 0, -1, 33)}},
	}, []int{-2, -1, -1, -1, -1, -1, -1, -1})
}

func TestReservedChunksAreDroppedFromTheLastOne(t *testing.T) {
	checkTurns(t, 0, []uint32{0, 0, 0, page(4, 1)}, takeReq(0, 64, 9), []turn{
		{look: look{todo: 6, phase: 1}},
		{look: look{todo: 6, held: 1}, change: map[int]uint32{0: held}},
		{look: look{todo: 6, phase: 1, held: 1}},
		{look: look{todo: 6, held: 2}, change: map[int]uint32{1: held}},
		{look: look{todo: 6, phase: 1, held: 2}},
		{look: look{todo: 6, held: 3}, change: map[int]uint32{2: held}},
		{look: look{todo: 6, phase: 2, held: 3}},
		{look: look{todo: 6, phase: 2, held: 2}, change: map[int]uint32{2: 0}},
		{look: look{todo: 6, phase: 2, held: 1}, change: map[int]uint32{1: 0}},
		{look: look{todo: 6, probe: 1}, change: map[int]uint32{0: 0}},
		{look: look{todo: 4}, facts: []impl.Fact{fact(3, 1, -1, 64)}},
		{look: look{todo: 4, phase: 1}},
		{look: look{}, change: map[int]uint32{0: page(4, 1)}, facts: []impl.Fact{fact(1, 2, 0, 16)}},
	}, []int{-1, -2, 0, -1, -1, -1, -1, -1})
}

func TestAllChunksForOneBlock(t *testing.T) {
	words := make([]uint32, 16)
	w := submitted(t, takeReq(0, 0, 256, 241))
	m := impl.Mem{Words: words}
	var facts []impl.Fact
	for step := 1; w.Kind != 0; step++ {
		var list []impl.Fact
		w, m, list, _ = impl.WarpStep(w, 3, m)
		facts = append(facts, list...)
		if step == 33 {
			want := append([]uint32{head(16)}, slices.Repeat([]uint32{held}, 15)...)
			if !slices.Equal(m.Words, want) || w.Todo != 8 || w.Probe != 0 || w.Held != 0 {
				t.Fatalf("got %+v %v, want %v", w, m.Words, want)
			}
		}
		if step > 40 {
			t.Fatalf("not finished: %+v", w)
		}
	}
	want := []impl.Fact{{Kind: 1, Warp: 3, Lane: 2, Size: 256}, {Kind: 3, Warp: 3, Lane: 3, At: -1, Size: 241}}
	if !slices.Equal(facts, want) {
		t.Errorf("got %v, want %v", facts, want)
	}
}

func TestBlocksAreGivenAndWrongAddressesReported(t *testing.T) {
	checkTurns(t, 2, []uint32{page(1, 2), head(3), held, held}, giveReq(2, 17, 32, 16, 3, 64, 4095, 16), []turn{
		{look: look{todo: 255, phase: 1, seen: page(1, 2)}},
		{look: look{todo: 254}, change: map[int]uint32{0: 0}, facts: []impl.Fact{fact(2, 0, 2, 2)}},
		{look: look{todo: 252}, facts: []impl.Fact{fact(4, 1, 17, 0)}},
		{look: look{todo: 248}, facts: []impl.Fact{fact(4, 2, 32, 0)}},
		{look: look{todo: 248, phase: 1, seen: head(3)}},
		{look: look{todo: 248, phase: 2, probe: 1, held: 3}, change: map[int]uint32{1: held}, facts: []impl.Fact{fact(2, 3, 16, 48)}},
		{look: look{todo: 248, phase: 2, probe: 1, held: 2}, change: map[int]uint32{3: 0}},
		{look: look{todo: 248, phase: 2, probe: 1, held: 1}, change: map[int]uint32{2: 0}},
		{look: look{todo: 240}, change: map[int]uint32{1: 0}},
		{look: look{todo: 224}, facts: []impl.Fact{fact(4, 4, 3, 0)}},
		{look: look{todo: 192}, facts: []impl.Fact{fact(4, 5, 64, 0)}},
		{look: look{todo: 128}, facts: []impl.Fact{fact(4, 6, 4095, 0)}},
		{look: look{}, facts: []impl.Fact{fact(4, 7, 16, 0)}},
	}, []int{1, -2, -2, 1, -2, -2, -2, -2})
}

func TestGiveOfAWordThatWasChanged(t *testing.T) {
	checkTurns(t, 3, []uint32{page(3, 3)}, giveReq(-1, 8, 0), []turn{
		{look: look{todo: 6, phase: 1, seen: page(3, 3)}},
		{before: map[int]uint32{0: page(3, 2)}, look: look{todo: 6}},
		{look: look{todo: 6, phase: 1, seen: page(3, 2)}},
		{look: look{todo: 4}, change: map[int]uint32{0: 0}, facts: []impl.Fact{fact(2, 1, 8, 8)}},
		{look: look{}, facts: []impl.Fact{fact(4, 2, 0, 0)}},
	}, []int{-1, 1, -2, -1, -1, -1, -1, -1})
}

func TestBlocksThatAnotherWarpGaveFirst(t *testing.T) {
	checkTurns(t, 0, []uint32{page(3, 3), head(2), held}, giveReq(8, 16), []turn{
		{look: look{todo: 3, phase: 1, seen: page(3, 3)}},
		{before: map[int]uint32{0: page(3, 1)}, look: look{todo: 3}},
		{look: look{todo: 2}, facts: []impl.Fact{fact(4, 0, 8, 0)}},
		{look: look{todo: 2, phase: 1, seen: head(2)}},
		{before: map[int]uint32{1: held}, look: look{todo: 2}},
		{look: look{}, facts: []impl.Fact{fact(4, 1, 16, 0)}},
	}, []int{-2, -2, -1, -1, -1, -1, -1, -1})
}

// A large block that became a page, and a page that became a large block, are given as what they are now.
func TestGiveOfAChunkThatBecameAnother(t *testing.T) {
	checkTurns(t, 1, []uint32{head(2), held, 0}, giveReq(0, 0), []turn{
		{look: look{todo: 3, phase: 1, seen: head(2)}},
		{before: map[int]uint32{0: page(1, 1), 1: 0}, look: look{todo: 3}},
		{look: look{todo: 3, phase: 1, seen: page(1, 1)}},
		{before: map[int]uint32{0: head(3), 1: held, 2: held}, look: look{todo: 3}},
		{look: look{todo: 3, phase: 1, seen: head(3)}},
		{look: look{todo: 3, phase: 2, held: 3}, change: map[int]uint32{0: held}, facts: []impl.Fact{fact(2, 0, 0, 48)}},
		{look: look{todo: 3, phase: 2, held: 2}, change: map[int]uint32{2: 0}},
		{look: look{todo: 3, phase: 2, held: 1}, change: map[int]uint32{1: 0}},
		{look: look{todo: 2}, change: map[int]uint32{0: 0}},
		{look: look{}, facts: []impl.Fact{fact(4, 1, 0, 0)}},
	}, []int{1, -2, -1, -1, -1, -1, -1, -1})
}

// The words alone do not show that the chunks after a head are missing; the warp that frees it is then not valid for them.
func TestHeadWithARunBeyondTheLastChunk(t *testing.T) {
	w := submitted(t, giveReq(16))
	w, m, _, _ := impl.WarpStep(w, 0, impl.Mem{Words: []uint32{0, head(2)}})
	w, m, facts, ok := impl.WarpStep(w, 0, m)
	if !ok || lookAt(w) != (look{todo: 1, phase: 2, probe: 1, held: 2}) || !slices.Equal(m.Words, []uint32{0, held}) || !slices.Equal(facts, []impl.Fact{fact(2, 0, 16, 32)}) {
		t.Errorf("got %+v %v %v %v", w, m, facts, ok)
	}
	checkOk(t, w, 2, false)
	checkStepRefused(t, w, 0, m.Words)
	checkOk(t, w, 3, true)
	checkStep(t, w, 0, append(slices.Clone(m.Words), held))
}

func TestStepsRefused(t *testing.T) {
	var warps []impl.Warp
	for w := range validWarps(2) {
		warps = append(warps, w)
	}
	for i, w := range warps {
		for _, id := range badIds() {
			checkStepRefused(t, w, id, make([]uint32, 2))
		}
		x := badWords()[i%len(badWords())]
		checkStepRefused(t, w, i%4, []uint32{0, x})
		checkStepRefused(t, w, i%4, []uint32{x, 0})
	}
	for _, w := range baseWarps() {
		for _, n := range []int{17, 18, 32, 63, 64, 65, 256} {
			checkStepRefused(t, w, 0, make([]uint32, n))
		}
		for _, x := range badWords() {
			for at := range 16 {
				words := heapFor(16, at)
				words[at] = x
				checkStepRefused(t, w, 1, words)
			}
		}
	}
}

// marked returns the warp with marked capacity behind its rows, and the arrays of both.
func marked(w impl.Warp) (impl.Warp, []int, []int) {
	vals, first := sparedInts(w.Vals)
	got, second := sparedInts(w.Got)
	w.Vals, w.Got = vals, got
	return w, first, second
}

func overwriteFacts(list []impl.Fact) {
	for i := range list[:cap(list)] {
		list[:cap(list)][i] = impl.Fact{Kind: 77, Warp: 77, Lane: 77, At: 77, Size: 77}
	}
}

func TestStepsReturnNewMemory(t *testing.T) {
	for _, chunks := range []int{0, 2, 16} {
		i := 0
		for plain := range validWarps(chunks) {
			i++
			w, vals, got := marked(plain)
			m, words := spared(heapFor(chunks, i%9))
			valsWas, gotWas, wordsWas := slices.Clone(vals), slices.Clone(got), slices.Clone(words)
			want := stepModel(plain, 1, m.Words)
			next, after, facts, _ := impl.WarpStep(w, 1, m)
			overwriteInts(next.Vals)
			if !slices.Equal(next.Got, want.warp.Got) {
				t.Fatalf("WarpStep(%+v): the rows share memory", plain)
			}
			overwriteInts(next.Got)
			overwrite(after.Words)
			overwriteFacts(facts)
			if !slices.Equal(vals, valsWas) || !slices.Equal(got, gotWas) || !slices.Equal(words, wordsWas) {
				t.Fatalf("WarpStep(%+v): an argument, or its spare capacity, is changed or shared", plain)
			}
			next, after, facts, _ = impl.WarpStep(w, 1, m)
			overwriteInts(vals)
			overwriteInts(got)
			overwrite(words)
			if !sameWarp(next, want.warp) || !slices.Equal(after.Words, want.words) || !slices.Equal(facts, want.facts) {
				t.Fatalf("WarpStep(%+v): the result changes with the argument", plain)
			}
		}
	}
}

func TestSubmitReturnsNewMemory(t *testing.T) {
	for _, r := range groupReqs() {
		w, vals, got := marked(impl.Warp{Vals: span(50, 8), Got: span(60, 8)})
		req, array := sparedInts(r.Vals)
		valsWas, gotWas, arrayWas := slices.Clone(vals), slices.Clone(got), slices.Clone(array)
		next, ok := impl.WarpSubmit(w, impl.Req{Kind: r.Kind, Vals: req})
		overwriteInts(next.Vals)
		if !ok || !slices.Equal(next.Got, slices.Repeat([]int{-1}, 8)) {
			t.Errorf("WarpSubmit(%v): got %+v %v after a write to Vals", r, next, ok)
		}
		overwriteInts(next.Got)
		if !slices.Equal(vals, valsWas) || !slices.Equal(got, gotWas) || !slices.Equal(array, arrayWas) {
			t.Errorf("WarpSubmit(%v): an argument, or its spare capacity, is changed or shared", r)
		}
		next, _ = impl.WarpSubmit(w, impl.Req{Kind: r.Kind, Vals: req})
		overwriteInts(vals)
		overwriteInts(got)
		overwriteInts(array)
		if !slices.Equal(next.Vals, r.Vals) || !slices.Equal(next.Got, slices.Repeat([]int{-1}, 8)) {
			t.Errorf("WarpSubmit(%v): the result changes with the argument: %+v", r, next)
		}
	}
}

func TestNewWarpsShareNothing(t *testing.T) {
	first, second := impl.WarpNew(), impl.WarpNew()
	overwriteInts(first.Vals)
	if !slices.Equal(first.Got, slices.Repeat([]int{-1}, 8)) {
		t.Errorf("the rows of a new warp share memory")
	}
	overwriteInts(first.Got)
	third := impl.WarpNew()
	for _, w := range []impl.Warp{second, third} {
		if !slices.Equal(w.Vals, slices.Repeat([]int{-1}, 8)) || !slices.Equal(w.Got, slices.Repeat([]int{-1}, 8)) {
			t.Errorf("two new warps share memory: %+v", w)
		}
	}
}

func TestOtherFunctionsLeaveTheWarp(t *testing.T) {
	for plain := range validWarps(2) {
		w, vals, got := marked(plain)
		valsWas, gotWas := slices.Clone(vals), slices.Clone(got)
		impl.WarpOk(w, 2)
		impl.WarpGroup(w)
		impl.ReqOk(impl.Req{Kind: w.Kind, Vals: w.Vals})
		if !slices.Equal(vals, valsWas) || !slices.Equal(got, gotWas) {
			t.Fatalf("%+v, or its spare capacity, is changed", plain)
		}
	}
}

func TestStepsKeepNoState(t *testing.T) {
	words := heapFor(5, 3)
	for range 3 {
		for _, w := range baseWarps() {
			for id := range 4 {
				checkStep(t, w, id, words)
			}
		}
	}
}

// dice rolls a fixed sequence of numbers.
type dice uint64

func (d *dice) roll(n int) int {
	*d = *d*6364136223846793005 + 1442695040888963407
	return int(uint64(*d) >> 33 % uint64(n))
}

// crew has several warps on one heap, and what the facts say about it.
type crew struct {
	t     *testing.T
	dice  dice
	words []uint32
	warps []impl.Warp
	told  []map[int][]impl.Fact // by warp and lane, since the last submission
	live  []impl.Block
}

func newCrew(t *testing.T, seed int, chunks int, warps int) *crew {
	c := &crew{t: t, dice: dice(seed*977 + chunks*31 + warps), words: make([]uint32, chunks)}
	for range warps {
		c.warps = append(c.warps, impl.WarpNew())
		c.told = append(c.told, nil)
	}
	return c
}

func (c *crew) request() impl.Req {
	vals := make([]int, 8)
	if c.dice.roll(2) == 0 {
		for lane := range vals {
			most := []int{0, 1, 4, 16, 16, 48, 256}[c.dice.roll(7)]
			vals[lane] = c.dice.roll(most + 1)
		}
		return impl.Req{Kind: 1, Vals: vals}
	}
	for lane := range vals {
		vals[lane] = c.dice.roll(16*len(c.words)+40) - 1
		if len(c.live) > 0 && c.dice.roll(8) > 0 {
			vals[lane] = c.live[c.dice.roll(len(c.live))].At
		}
	}
	return impl.Req{Kind: 2, Vals: vals}
}

func (c *crew) submit(id int) {
	r := c.request()
	w, ok := impl.WarpSubmit(c.warps[id], r)
	if !ok || w.Todo != allLanes(r) || !slices.Equal(w.Vals, r.Vals) {
		c.t.Fatalf("WarpSubmit(%+v, %+v): got %+v %v", c.warps[id], r, w, ok)
	}
	c.warps[id] = w
	c.told[id] = map[int][]impl.Fact{}
}

func (c *crew) step(id int) {
	was := c.warps[id]
	want := checkStep(c.t, was, id, c.words)
	c.warps[id], c.words = want.warp, want.words
	checkOk(c.t, want.warp, len(c.words), true)
	for _, f := range want.facts {
		c.told[id][f.Lane] = append(c.told[id][f.Lane], f)
		c.hear(f)
		if f.Kind == 1 {
			c.checkPlace(f, was.Vals[f.Lane])
		}
	}
	if want.warp.Kind == 0 {
		c.checkGot(id)
	}
}

// checkPlace checks where a block lies that a lane of that size has got.
func (c *crew) checkPlace(f impl.Fact, size int) {
	if f.At < 0 || f.At+f.Size > 16*len(c.words) || f.At%min(f.Size, 16) != 0 || f.Size < size || f.Size >= 2*size && size <= 16 || f.Size >= size+16 {
		c.t.Fatalf("%+v for a lane of size %d in %d chunks", f, size, len(c.words))
	}
}

// heard returns the live blocks after a fact, and whether it is right about them.
func heard(live []impl.Block, f impl.Fact) ([]impl.Block, bool) {
	b, found := impl.LiveFind(live, heapWords, f.At)
	switch f.Kind {
	case 1:
		return impl.LiveAdd(live, heapWords, impl.Block{At: f.At, Size: f.Size})
	case 2:
		left, size, ok := impl.LiveCut(live, heapWords, f.At)
		return left, ok && size == f.Size
	case 4:
		return live, !found || b.At != f.At
	}
	return live, f.Kind == 3
}

// hear checks a fact against the live blocks.
func (c *crew) hear(f impl.Fact) {
	live, ok := heard(c.live, f)
	if !ok {
		c.t.Fatalf("%+v is wrong about the live blocks %v", f, c.live)
	}
	c.live = live
}

// checkGot checks that every lane that requested something has got what its one fact says, and the others nothing.
func (c *crew) checkGot(id int) {
	w := c.warps[id]
	for lane, got := range w.Got {
		facts := c.told[id][lane]
		want := -1
		if len(facts) == 1 {
			want = map[int]int{1: facts[0].At, 2: 1, 3: -2, 4: -2}[facts[0].Kind]
		}
		if len(facts) > 1 || got != want {
			c.t.Fatalf("lane %d of %+v: got %d, the facts are %v", lane, w, got, facts)
		}
	}
}

// blocksIn returns the allocated blocks that the words show, in order.
func blocksIn(words []uint32) []impl.Block {
	var list []impl.Block
	for chunk, x := range words {
		s, _ := readCtl(x)
		for _, start := range takenStarts(s) {
			list = append(list, impl.Block{At: 16*chunk + start, Size: sizeOfClass[s.Class]})
		}
		if s.State == 2 {
			list = append(list, impl.Block{At: 16 * chunk, Size: 16 * s.Run})
		}
	}
	return list
}

// checkWords checks that the words have exactly the live blocks.
func (c *crew) checkWords() {
	if list := blocksIn(c.words); !slices.Equal(list, c.live) {
		c.t.Fatalf("the words %v have the blocks %v, the facts %v", c.words, list, c.live)
	}
}

func TestManyWarpsOnOneHeap(t *testing.T) {
	heard := map[int]int{}
	for seed := range 12 {
		for _, chunks := range []int{1, 2, 5, 9, 16} {
			for warps := 1; warps <= 4; warps++ {
				c := newCrew(t, seed, chunks, warps)
				for range 400 {
					id := c.dice.roll(warps)
					if c.warps[id].Kind == 0 {
						c.submit(id)
						continue
					}
					c.step(id)
					c.checkWords()
				}
				for _, told := range c.told {
					for facts := range maps.Values(told) {
						heard[facts[0].Kind]++
					}
				}
			}
		}
	}
	for kind := 1; kind <= 4; kind++ {
		if heard[kind] < 20 {
			t.Errorf("only %d lanes had a fact of kind %d at last", heard[kind], kind)
		}
	}
}

// alone executes a request to its end, and returns the facts.
func alone(t *testing.T, id int, words []uint32, r impl.Req) (impl.Warp, []uint32, []impl.Fact) {
	t.Helper()
	w, facts := submitted(t, r), []impl.Fact(nil)
	for range 20000 {
		if w.Kind == 0 {
			return w, words, facts
		}
		want := checkStep(t, w, id, words)
		w, words, facts = want.warp, want.words, append(facts, want.facts...)
	}
	t.Fatalf("%v on %v: not finished", r, words)
	return w, words, facts
}

func TestEverySizeAloneOnANewHeap(t *testing.T) {
	for chunks := range 17 {
		for size := 1; size <= 256; size++ {
			for id := range 4 {
				r := takeReq()
				lane := (size + id) % 8
				r.Vals[lane] = size
				w, words, facts := alone(t, id, make([]uint32, chunks), r)
				if len(facts) != 1 || facts[0].Warp != id || facts[0].Lane != lane {
					t.Fatalf("size %d on %d chunks: got %v", size, chunks, facts)
				}
				f := facts[0]
				if size > 16*chunks {
					if f.Kind != 3 || f.At != -1 || f.Size != size || w.Got[lane] != -2 {
						t.Fatalf("size %d on %d chunks: got %+v %v", size, chunks, w, f)
					}
					continue
				}
				if f.Kind != 1 || f.At != w.Got[lane] || f.At%min(f.Size, 16) != 0 || f.At+f.Size > 16*chunks || f.Size < size {
					t.Fatalf("size %d on %d chunks: got %+v %v", size, chunks, w, f)
				}
				_, words, facts = alone(t, 3-id, words, giveReq(f.At))
				if slices.Max(words) != 0 || len(facts) != 1 || facts[0].Kind != 2 || facts[0].Size != f.Size {
					t.Fatalf("size %d on %d chunks, given: got %v %v", size, chunks, words, facts)
				}
			}
		}
	}
}

func TestEveryAddressGivenOnAHeap(t *testing.T) {
	words := []uint32{page(0, 0x8421), page(1, 0x81), page(2, 6), page(3, 2), page(4, 1), head(2), held, 0}
	starts := map[int]int{0: 1, 5: 1, 10: 1, 15: 1, 16: 2, 30: 2, 36: 4, 40: 4, 56: 8, 64: 16, 80: 32}
	for at := range 4096 {
		w, _, facts := alone(t, at%4, words, giveReq(-1, at))
		size, ok := starts[at]
		want, got := impl.Fact{Kind: 4, Warp: at % 4, Lane: 1, At: at}, -2
		if ok {
			want, got = impl.Fact{Kind: 2, Warp: at % 4, Lane: 1, At: at, Size: size}, 1
		}
		if len(facts) != 1 || facts[0] != want || w.Got[1] != got {
			t.Fatalf("address %d: got %+v %v, want %v", at, w, facts, want)
		}
	}
}
