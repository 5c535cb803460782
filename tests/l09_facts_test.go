package tests

import (
	"math"
	"slices"
	"testing"

	"loop.example/g00709/impl"
)

// Promise 18, facts and answers: the answers of all lanes are as many as the
// facts, and every prefix of consistent facts is consistent. Also what Audit
// finds in words that no machine needs to have; that it finds the live blocks,
// promise 1, is in l09_runs_test.go.

func validFact(f impl.Fact) bool {
	if f.Warp < 0 || f.Warp > 3 || f.Lane < 0 || f.Lane > 7 {
		return false
	}
	switch f.Kind {
	case 1, 2:
		return f.At >= 0 && f.At <= 255 && f.Size >= 1
	case 3:
		return f.At == -1 && f.Size >= 1 && f.Size <= 256
	case 4:
		return f.At >= 0 && f.At <= 4095 && f.Size == 0
	}
	return false
}

// factModel is the document's FactDo, written down a second time to compare with.
func factModel(live []impl.Block, f impl.Fact) ([]impl.Block, bool) {
	if !isLive(live, heapWords) || !validFact(f) {
		return nil, false
	}
	b := impl.Block{At: f.At, Size: f.Size}
	i := slices.Index(live, b)
	starts := slices.ContainsFunc(live, func(other impl.Block) bool { return other.At == f.At })
	switch {
	case f.Kind == 1:
		return withBlock(live, heapWords, b)
	case f.Kind == 2 && i < 0 || f.Kind == 4 && starts:
		return nil, false
	case f.Kind == 2:
		return without(live, i), true
	}
	return live, true
}

// factsModel returns the live blocks after the facts, and the index of the first fact that is not consistent.
func factsModel(list []impl.Fact) ([]impl.Block, int) {
	var live []impl.Block
	for i, f := range list {
		after, ok := factModel(live, f)
		if !ok {
			return nil, i
		}
		live = after
	}
	return live, -1
}

func checkFactOk(t *testing.T, f impl.Fact, want bool) {
	t.Helper()
	if got := impl.FactOk(f); got != want || validFact(f) != want {
		t.Errorf("FactOk(%+v): got %v, the model %v, want %v", f, got, validFact(f), want)
	}
}

func checkFact(t *testing.T, live []impl.Block, f impl.Fact) {
	t.Helper()
	want, fine := factModel(live, f)
	if got, ok := impl.FactDo(live, f); ok != fine || !slices.Equal(got, want) {
		t.Errorf("FactDo(%v, %+v): got %v %v, want %v %v", live, f, got, ok, want, fine)
	}
}

func checkFactDone(t *testing.T, live []impl.Block, f impl.Fact, want []impl.Block) {
	t.Helper()
	if got, ok := impl.FactDo(live, f); !ok || !slices.Equal(got, want) {
		t.Errorf("FactDo(%v, %+v): got %v %v, want %v true", live, f, got, ok, want)
	}
}

func checkFactRefused(t *testing.T, live []impl.Block, f impl.Fact) {
	t.Helper()
	if got, ok := impl.FactDo(live, f); ok || len(got) != 0 {
		t.Errorf("FactDo(%v, %+v): got %v %v, want [] false", live, f, got, ok)
	}
}

func checkFactsRun(t *testing.T, list []impl.Fact, want []impl.Block, bad int) {
	t.Helper()
	if got, at := impl.FactsRun(list); at != bad || !slices.Equal(got, want) {
		t.Fatalf("FactsRun of %d facts, %v: got %v %d, want %v %d", len(list), firstFacts(list, 80), got, at, want, bad)
	}
}

func checkAnswers(t *testing.T, list []impl.Fact, warp int, lane int, want []int) {
	t.Helper()
	if got := impl.Answers(list, warp, lane); !slices.Equal(got, want) {
		t.Fatalf("Answers of %d facts, %v, to %d, %d: got %v, want %v", len(list), firstFacts(list, 80), warp, lane, got, want)
	}
}

func firstFacts(list []impl.Fact, n int) []impl.Fact {
	return list[:min(n, len(list))]
}

func checkAudit(t *testing.T, words []uint32, want []impl.Block) {
	t.Helper()
	if got, ok := impl.Audit(impl.Mem{Words: words}); !ok || !slices.Equal(got, want) {
		t.Fatalf("Audit(%v): got %v %v, want %v true", words, got, ok, want)
	}
}

func checkAuditSum(t *testing.T, words []uint32, want [3]int) {
	t.Helper()
	free, pages, large := impl.AuditSum(impl.Mem{Words: words})
	if got := [3]int{free, pages, large}; got != want {
		t.Fatalf("AuditSum(%v): got %v, want %v", words, got, want)
	}
}

func checkAuditRefused(t *testing.T, words []uint32) {
	t.Helper()
	if got, ok := impl.Audit(impl.Mem{Words: words}); ok || len(got) != 0 {
		t.Fatalf("Audit(%v): got %v %v, want [] false", words, got, ok)
	}
	checkAuditSum(t, words, [3]int{-1, -1, -1})
}

// sumModel counts the chunks by state.
func sumModel(words []uint32) [3]int {
	var n [3]int
	for _, x := range words {
		c, _ := readCtl(x)
		n[min(c.State, 2)]++
	}
	return n
}

func TestFactExamples(t *testing.T) {
	if impl.MaxFacts != 2000 {
		t.Errorf("MaxFacts: got %d, want 2000", impl.MaxFacts)
	}
	list := []impl.Fact{fact(1, 0, 32, 4), fact(1, 1, 0, 32), fact(3, 2, -1, 9), fact(4, 1, 33, 0), fact(2, 0, 32, 4)}
	checkFactsRun(t, list, blocks(pairs{{0, 32}}), -1)
	checkFactsRun(t, append(list, fact(2, 0, 32, 4)), nil, 5)
	checkFactsRun(t, []impl.Fact{list[0], fact(1, 0, 35, 1)}, nil, 1)
	checkFactsRun(t, []impl.Fact{list[0], fact(4, 0, 32, 0)}, nil, 1)
	checkFactsRun(t, []impl.Fact{list[0], fact(2, 0, 32, 2)}, nil, 1)
	checkAnswers(t, list, 0, 0, []int{32, 1})
	checkAnswers(t, list, 0, 1, []int{0, -2})
	checkAnswers(t, list, 0, 2, []int{-2})
	checkAnswers(t, list, 0, 3, nil)
	checkAnswers(t, list, 1, 0, nil)
	words := []uint32{35651584, 3145728, 1179650, 0}
	checkAudit(t, words, blocks(pairs{{0, 32}, {36, 4}}))
	checkAuditSum(t, words, [3]int{1, 1, 2})
	words[3] = 1
	checkAuditRefused(t, words)
}

// goodFacts has the facts at the limits of every field.
func goodFacts() []impl.Fact {
	var list []impl.Fact
	for _, at := range []int{0, 1, 15, 16, 254, 255} {
		for _, size := range []int{1, 2, 16, 255, 256, 257, 4096, math.MaxInt32, 1 << 32, 1<<32 + 1, math.MaxInt - 255, math.MaxInt - 1, math.MaxInt} {
			list = append(list, fact(1, 0, at, size), fact(2, 0, at, size))
		}
	}
	for _, size := range []int{1, 2, 16, 17, 255, 256} {
		list = append(list, fact(3, 0, -1, size))
	}
	for _, at := range []int{0, 1, 15, 16, 255, 256, 257, 4094, 4095} {
		list = append(list, fact(4, 0, at, 0))
	}
	for _, f := range slices.Clone(list) {
		for warp := range 4 {
			for lane := range 8 {
				f.Warp, f.Lane = warp, lane
				list = append(list, f)
			}
		}
	}
	return list
}

// plainFacts has a valid fact of each kind.
func plainFacts() []impl.Fact {
	return []impl.Fact{fact(1, 0, 8, 4), fact(2, 0, 8, 4), fact(3, 0, -1, 9), fact(4, 0, 8, 0)}
}

// badFacts has facts with one field that the kind does not allow.
func badFacts() []impl.Fact {
	list := []impl.Fact{{}}
	for _, kind := range []int{0, 5, -1, -2, -4, 6, 8, 256 + 1, 256 + 4, 1 << 32, 1<<32 + 1, 1<<32 + 2, 1<<32 + 3, 1<<32 + 4, -1<<32 + 1, math.MinInt, math.MinInt + 1, math.MaxInt} {
		list = append(list, fact(kind, 0, 8, 4), fact(kind, 0, -1, 9), fact(kind, 0, 8, 0), fact(kind, 0, 0, 1), fact(kind, 0, 0, 0))
	}
	for _, f := range plainFacts() {
		for _, warp := range badIds() {
			f.Warp = warp
			list = append(list, f)
		}
		f.Warp = 3
		for _, lane := range append([]int{8, 9, 15, 16, 1<<32 + 7, math.MinInt + 7}, badIds()...) {
			if lane < 0 || lane > 7 {
				f.Lane = lane
				list = append(list, f)
			}
		}
	}
	for _, at := range []int{-1, 256, -2, -16, 257, 4095, 4096, 1 << 32, 1<<32 + 8, -1 << 32, -1<<32 + 8, math.MinInt, math.MinInt + 8, math.MaxInt} {
		list = append(list, fact(1, 0, at, 1), fact(2, 0, at, 1))
	}
	for _, size := range []int{0, -1, -2, -4, -256, -1 << 32, -1<<32 + 4, math.MinInt, math.MinInt + 4} {
		list = append(list, fact(1, 0, 8, size), fact(2, 0, 8, size), fact(3, 0, -1, size))
	}
	for _, at := range []int{0, -2, 1, 8, 255, -1<<32 - 1, 1<<32 - 1, math.MinInt, math.MaxInt} {
		list = append(list, fact(3, 0, at, 9))
	}
	for _, size := range []int{257, 258, 512, 1<<32 + 9, math.MaxInt} {
		list = append(list, fact(3, 0, -1, size))
	}
	for _, at := range []int{-1, 4096, -2, 4097, 1 << 32, 1<<32 + 8, -1 << 32, math.MinInt, math.MaxInt} {
		list = append(list, fact(4, 0, at, 0))
	}
	for _, size := range []int{1, -1, 4, 256, 1 << 32, math.MinInt, math.MaxInt} {
		list = append(list, fact(4, 0, 8, size), fact(4, 0, 300, size))
	}
	return list
}

func TestFactsAccepted(t *testing.T) {
	for _, f := range append(goodFacts(), plainFacts()...) {
		checkFactOk(t, f, true)
	}
	for at := range 4096 {
		checkFactOk(t, fact(4, 7, at, 0), true)
		checkFactOk(t, fact(1, 7, at, 1), at < 256)
		checkFactOk(t, fact(2, 7, at, 1), at < 256)
		checkFactOk(t, fact(3, 7, -1, at), at >= 1 && at <= 256)
	}
}

func TestFactsRefused(t *testing.T) {
	live := blocks(pairs{{8, 4}, {16, 16}})
	for _, f := range badFacts() {
		checkFactOk(t, f, false)
		checkFactRefused(t, live, f)
		checkFactRefused(t, nil, f)
		checkFactsRun(t, []impl.Fact{f}, nil, 0)
		checkFactsRun(t, append(plainFacts()[:3], f), nil, 3)
	}
}

// wholeHeapLists has the lists of blocks that are valid for 256 words.
func wholeHeapLists() [][]impl.Block {
	var all [][]impl.Block
	for _, c := range longCases() {
		all = append(all, c.list)
	}
	return all
}

// edgesOf has the addresses at and beside both ends of the blocks, of some at each end if there are many, and of the heap.
func edgesOf(list []impl.Block) []int {
	ats := []int{-1, 0, 1, 254, 255, 256, 257, 4095, 4096}
	if n := len(list); n > 24 {
		list = slices.Concat(list[:12], list[n-12:])
	}
	for _, b := range list {
		for _, at := range []int{b.At, b.At + b.Size} {
			ats = append(ats, at-1, at, at+1)
		}
	}
	slices.Sort(ats)
	return slices.Compact(ats)
}

func TestEveryKindOfFactAtTheEdgesOfBlocks(t *testing.T) {
	for _, live := range wholeHeapLists() {
		for _, at := range edgesOf(live) {
			for _, size := range []int{1, 2, 16, 256 - at, 257 - at} {
				checkFact(t, live, fact(1, 0, at, size))
			}
			checkFact(t, live, fact(4, 0, at, 0))
			for _, size := range []int{1, 2, 3, 4, 7, 8, 16, 32, 48} {
				checkFact(t, live, fact(2, 0, at, size))
			}
		}
		for size := range 258 {
			checkFact(t, live, fact(3, 0, -1, size))
		}
	}
}

func TestTakenBlocksAreAdded(t *testing.T) {
	live := blocks(pairs{{8, 4}, {16, 16}})
	checkFactDone(t, nil, fact(1, 0, 0, 256), blocks(pairs{{0, 256}}))
	checkFactDone(t, nil, fact(1, 0, 255, 1), blocks(pairs{{255, 1}}))
	checkFactDone(t, live, fact(1, 0, 0, 8), blocks(pairs{{0, 8}, {8, 4}, {16, 16}}))
	checkFactDone(t, live, fact(1, 0, 12, 4), blocks(pairs{{8, 4}, {12, 4}, {16, 16}}))
	checkFactDone(t, live, fact(1, 0, 32, 224), blocks(pairs{{8, 4}, {16, 16}, {32, 224}}))
	// Blocks are not limited to the sizes and the places of a heap.
	checkFactDone(t, live, fact(1, 0, 13, 3), blocks(pairs{{8, 4}, {13, 3}, {16, 16}}))
	for _, p := range (pairs{{8, 4}, {8, 1}, {11, 1}, {7, 2}, {12, 5}, {0, 9}, {0, 256}, {16, 16}, {31, 1}, {32, 225}, {255, 2}, {0, 257}, {254, 3}, {12, math.MaxInt}, {255, math.MaxInt - 254}}) {
		checkFactRefused(t, live, fact(1, 0, p[0], p[1]))
	}
}

func TestGivenBlocksAreCut(t *testing.T) {
	live := blocks(pairs{{0, 1}, {8, 4}, {16, 16}})
	checkFactDone(t, live, fact(2, 0, 0, 1), blocks(pairs{{8, 4}, {16, 16}}))
	checkFactDone(t, live, fact(2, 0, 8, 4), blocks(pairs{{0, 1}, {16, 16}}))
	checkFactDone(t, live, fact(2, 0, 16, 16), blocks(pairs{{0, 1}, {8, 4}}))
	checkFactDone(t, live[:1], fact(2, 0, 0, 1), nil)
	for _, p := range (pairs{{8, 3}, {8, 5}, {8, 8}, {9, 3}, {9, 4}, {7, 4}, {11, 1}, {4, 4}, {0, 2}, {1, 1}, {16, 4}, {8, 16}, {0, 4}, {16, 15}, {16, 17}, {255, 1}, {16, math.MaxInt}, {16, 1<<32 + 16}}) {
		checkFactRefused(t, live, fact(2, 0, p[0], p[1]))
	}
	checkFactRefused(t, nil, fact(2, 0, 0, 1))
}

// Only the start of a live block is not wrong: an address inside of a block is, and so is one beyond the heap.
func TestWrongAddresses(t *testing.T) {
	for _, live := range wholeHeapLists() {
		for at := range 4096 {
			if at > 258 && at < 4090 && at%16 != 0 {
				continue
			}
			if slices.ContainsFunc(live, func(b impl.Block) bool { return b.At == at }) {
				checkFactRefused(t, live, fact(4, 0, at, 0))
			} else {
				checkFactDone(t, live, fact(4, 0, at, 0), live)
			}
		}
	}
	live := blocks(pairs{{0, 32}, {32, 4}, {40, 1}})
	for at, ok := range map[int]bool{0: false, 1: true, 16: true, 31: true, 32: false, 33: true, 35: true, 36: true, 39: true, 40: false, 41: true, 255: true, 256: true, 288: true, 4095: true} {
		if _, got := impl.FactDo(live, fact(4, 0, at, 0)); got != ok {
			t.Errorf("FactDo(%v) of the wrong address %d: got %v", live, at, got)
		}
	}
}

func TestRefusalsChangeNothing(t *testing.T) {
	for _, live := range wholeHeapLists() {
		for size := 1; size <= 256; size++ {
			checkFactDone(t, live, fact(3, size%8, -1, size), live)
		}
	}
}

func TestTheWarpAndTheLaneDoNotMatter(t *testing.T) {
	live := blocks(pairs{{0, 8}, {24, 4}, {64, 32}})
	for _, plain := range append(plainFacts(), fact(2, 0, 24, 4), fact(2, 0, 64, 32), fact(4, 0, 24, 0), fact(1, 0, 24, 1)) {
		for warp := range 4 {
			for lane := range 8 {
				f := plain
				f.Warp, f.Lane = warp, lane
				checkFact(t, live, f)
			}
		}
	}
}

// No fact is consistent with a list that is not valid, not even one that changes nothing.
func TestFactsOnListsThatAreNotValid(t *testing.T) {
	lists := [][]impl.Block{
		blocks(pairs{{0, 0}}), blocks(pairs{{-1, 2}}), blocks(pairs{{0, 257}}), blocks(pairs{{255, 2}}), blocks(pairs{{256, 1}}), blocks(pairs{{8, 4}, {0, 4}}),
		blocks(pairs{{0, 8}, {7, 4}}), blocks(pairs{{8, 4}, {8, 4}}), blocks(pairs{{0, 4}, {100, -4}}), blocks(pairs{{1, math.MaxInt}}), oneWordBlocks(257), oneWordBlocks(301),
	}
	for _, live := range lists {
		for _, f := range append(plainFacts(), fact(1, 0, 200, 8), fact(2, 0, 0, 8), fact(4, 0, 300, 0), fact(4, 0, 200, 0), impl.Fact{}) {
			checkFactRefused(t, live, f)
		}
	}
}

func TestFactsReturnNewBlocks(t *testing.T) {
	for _, live := range append(wholeHeapLists(), blocks(pairs{{0, 1}, {8, 4}, {16, 16}})) {
		list, array := sparedBlocks(live)
		facts := []impl.Fact{fact(3, 0, -1, 5), fact(4, 0, 256, 0), fact(4, 0, 4095, 0)}
		if len(live) > 0 {
			facts = append(facts, fact(2, 0, live[0].At, live[0].Size), fact(2, 0, live[len(live)-1].At, live[len(live)-1].Size))
		}
		for _, b := range firstBlocks(impl.LiveFree(live, heapWords), 3) {
			facts = append(facts, fact(1, 0, b.At, b.Size), fact(4, 0, b.At, 0))
		}
		for _, f := range facts {
			checkFact(t, list, f)
			checkNewBlocks(t, "FactDo", array, func() []impl.Block {
				after, _ := impl.FactDo(list, f)
				return after
			})
		}
	}
}

// Blocks in the capacity behind the live ones are not live.
func TestBlocksBehindTheLiveOnesAreNotRead(t *testing.T) {
	array := blocks(pairs{{0, 8}, {8, 4}, {20, 4}, {20, 4}})
	checkFactDone(t, array[:2], fact(4, 0, 20, 0), array[:2])
	checkFactDone(t, array[:2], fact(1, 0, 20, 4), array[:3])
	checkFactRefused(t, array[:2], fact(2, 0, 20, 4))
	checkFactDone(t, array[:2], fact(3, 0, -1, 4), array[:2])
}

// factDice makes up facts: blocks that are free or live, refusals, and wrong
// addresses; and, if some are to be false, anything that is a valid fact.
func factDice(seed int, n int, falseOnes bool) []impl.Fact {
	d := dice(seed)
	var list []impl.Fact
	var live []impl.Block
	for len(list) < n {
		f := impl.Fact{Kind: 1 + d.roll(4), Warp: d.roll(4), Lane: d.roll(8), At: d.roll(256), Size: 1 + d.roll(12)}
		switch {
		case f.Kind == 2 && len(live) > 0 && d.roll(50) > 0:
			b := live[d.roll(len(live))]
			f.At, f.Size = b.At, b.Size
		case f.Kind == 3:
			f.At = -1
		case f.Kind == 4:
			f.At, f.Size = d.roll(400), 0
		}
		after, ok := factModel(live, f)
		if ok {
			live = after
		}
		if ok || falseOnes && d.roll(n) == 0 {
			list = append(list, f)
		}
	}
	return list
}

func TestRunsOfFacts(t *testing.T) {
	bad := 0
	for seed := range 300 {
		list := factDice(seed, seed%60, true)
		live, at := factsModel(list)
		checkFactsRun(t, list, live, at)
		if at >= 0 {
			bad++
		}
	}
	if bad < 30 || bad > 270 {
		t.Errorf("%d of 300 lists are not consistent", bad)
	}
	checkFactsRun(t, nil, nil, -1)
	checkFactsRun(t, []impl.Fact{}, nil, -1)
}

// The index is that of the first fact that is not consistent, whatever comes after it.
func TestTheFirstFactThatIsNotConsistent(t *testing.T) {
	good := factDice(5, 40, false)
	for at := range len(good) + 1 {
		for _, f := range []impl.Fact{{}, fact(1, 0, 0, 257), fact(2, 0, 255, 256), fact(4, 0, 4096, 0), fact(3, 0, 0, 1)} {
			list := slices.Insert(slices.Clone(good), at, f)
			checkFactsRun(t, list, nil, at)
			checkFactsRun(t, append(list, f, fact(3, 0, -1, 1)), nil, at)
		}
	}
}

func TestEveryPrefixOfConsistentFactsIsConsistent(t *testing.T) {
	for seed := range 40 {
		list := factDice(seed, 20+5*seed, false)
		var live []impl.Block
		for i, f := range list {
			checkFactsRun(t, list[:i], live, -1)
			after, ok := impl.FactDo(live, f)
			if !ok {
				t.Fatalf("FactDo(%v, %+v): got false", live, f)
			}
			live = after
		}
		checkFactsRun(t, list, live, -1)
	}
}

// Facts in the capacity behind a list are not in it.
func TestFactsBehindTheListAreNotRead(t *testing.T) {
	array := []impl.Fact{fact(1, 0, 0, 8), fact(1, 1, 0, 8), fact(2, 0, 0, 8), {}}
	was := slices.Clone(array)
	checkFactsRun(t, array[:1], blocks(pairs{{0, 8}}), -1)
	checkFactsRun(t, array[:0], nil, -1)
	checkAnswers(t, array[:1], 0, 0, []int{0})
	checkAnswers(t, array[:1], 0, 1, nil)
	if !slices.Equal(array, was) {
		t.Errorf("the facts, or their spare capacity, are changed: %v", array)
	}
}

func TestNumberOfFacts(t *testing.T) {
	pair := []impl.Fact{fact(1, 0, 16, 16), fact(2, 1, 16, 16)}
	most := slices.Repeat(pair, 1000)
	checkFactsRun(t, most, nil, -1)
	checkFactsRun(t, most[:1999], blocks(pairs{{16, 16}}), -1)
	checkFactsRun(t, append(slices.Clone(most[:1999]), pair[0]), nil, 1999)
	checkAnswers(t, most, 0, 0, slices.Repeat([]int{16}, 1000))
	checkAnswers(t, most, 0, 1, slices.Repeat([]int{1}, 1000))
	for _, n := range []int{2001, 2002, 3000, 4096} {
		for _, list := range [][]impl.Fact{slices.Repeat(pair, n)[:n], slices.Repeat([]impl.Fact{fact(3, 0, -1, 1)}, n), slices.Concat(most, make([]impl.Fact, n-2000))} {
			checkFactsRun(t, list, nil, 0)
			checkAnswers(t, list, 0, 0, nil)
			checkAnswers(t, list, 0, 1, nil)
		}
	}
}

func TestBlocksOfARunOfFactsAreNewMemory(t *testing.T) {
	list := []impl.Fact{fact(1, 0, 0, 8), fact(1, 0, 16, 2), fact(3, 0, -1, 2), fact(4, 0, 18, 0)}
	was := slices.Clone(list)
	first, _ := impl.FactsRun(list)
	second, _ := impl.FactsRun(list)
	overwriteBlocks(first)
	if want := blocks(pairs{{0, 8}, {16, 2}}); !slices.Equal(second, want) {
		t.Errorf("two results share memory: got %v, want %v", second, want)
	}
	if !slices.Equal(list, was) {
		t.Errorf("the facts are changed: %v", list)
	}
}

func answerOf(f impl.Fact) int {
	switch f.Kind {
	case 1:
		return f.At
	case 2:
		return 1
	}
	return -2
}

// checkAllAnswers compares the answers of every warp and lane, and of some that there are not, and returns their number.
func checkAllAnswers(t *testing.T, list []impl.Fact) int {
	t.Helper()
	n := 0
	for _, warp := range []int{0, 1, 2, 3, -1, 4, 1 << 32, math.MinInt, math.MaxInt} {
		for _, lane := range []int{0, 1, 2, 3, 4, 5, 6, 7, -1, 8, 1 << 32, math.MinInt, math.MaxInt} {
			var want []int
			for _, f := range list {
				if f.Warp == warp && f.Lane == lane {
					want = append(want, answerOf(f))
				}
			}
			checkAnswers(t, list, warp, lane, want)
			n += len(want)
		}
	}
	return n
}

func TestAnswersOfAllLanesAreAsManyAsTheFacts(t *testing.T) {
	for seed := range 100 {
		list := factDice(seed, 3*seed, seed%2 == 1)
		if n := checkAllAnswers(t, list); n != len(list) {
			t.Fatalf("%v: %d answers for %d facts", list, n, len(list))
		}
	}
	for list := range slices.Chunk(goodFacts(), impl.MaxFacts) {
		if n := checkAllAnswers(t, list); n != len(list) {
			t.Errorf("%d answers for %d facts", n, len(list))
		}
	}
}

// The answers do not depend on whether the facts are consistent, or valid.
func TestAnswersOfFactsThatAreNotValid(t *testing.T) {
	list := []impl.Fact{fact(1, 3, -7, 0), fact(2, 3, -1, -1), fact(3, 3, 9, 999), fact(4, 3, -2, 5), fact(0, 3, 8, 8), fact(5, 3, 8, 8), fact(-1, 3, 8, 8), fact(1<<32+1, 3, 8, 8), fact(1, 3, math.MaxInt, 1), fact(1, 3, math.MinInt, 1)}
	checkAnswers(t, list, 0, 3, []int{-7, 1, -2, -2, -2, -2, -2, -2, math.MaxInt, math.MinInt})
	checkAllAnswers(t, badFacts())
	far := []impl.Fact{{Kind: 1, Warp: -1, Lane: 99, At: 5}, {Kind: 2, Warp: -1, Lane: 99}, {Kind: 1, Warp: math.MaxInt, Lane: math.MinInt, At: 6}}
	checkAnswers(t, far, -1, 99, []int{5, 1})
	checkAnswers(t, far, math.MaxInt, math.MinInt, []int{6})
	checkAnswers(t, far, 0, 0, nil)
}

func TestAnswersAreNewMemory(t *testing.T) {
	list := []impl.Fact{fact(1, 2, 40, 8), fact(2, 2, 40, 8), fact(1, 3, 44, 4), fact(3, 2, -1, 8)}
	was := slices.Clone(list)
	first, second := impl.Answers(list, 0, 2), impl.Answers(list, 0, 2)
	overwriteInts(first)
	if !slices.Equal(second, []int{40, 1, -2}) || !slices.Equal(list, was) {
		t.Errorf("two results share memory, or the facts are changed: %v %v", second, list)
	}
}

func TestAuditOfEveryWord(t *testing.T) {
	for c, x := range validCtls() {
		first := blocksIn([]uint32{x})
		checkAudit(t, []uint32{x}, first)
		checkAuditSum(t, []uint32{x}, sumModel([]uint32{x}))
		words := []uint32{page(4, 1), x, held}
		want := blocks(pairs{{0, 16}})
		for _, b := range first {
			want = append(want, impl.Block{At: 16 + b.At, Size: b.Size})
		}
		checkAudit(t, words, want)
		if n := sumModel(words); n[0]+n[1]+n[2] != 3 || (c.State == 0) != (n[0] == 1) {
			t.Fatalf("the model counts %v in %v", n, words)
		}
		checkAuditSum(t, words, sumModel(words))
	}
}

func TestAuditEdges(t *testing.T) {
	full := append([]uint32{head(16)}, slices.Repeat([]uint32{held}, 15)...)
	for _, c := range []struct {
		words []uint32
		want  pairs
		sum   [3]int
	}{
		{nil, nil, [3]int{}},
		{[]uint32{}, nil, [3]int{}},
		{make([]uint32, 1), nil, [3]int{1, 0, 0}},
		{make([]uint32, 16), nil, [3]int{16, 0, 0}},
		{slices.Repeat([]uint32{held}, 16), nil, [3]int{0, 0, 16}},
		{full, pairs{{0, 256}}, [3]int{0, 0, 16}},
		{append(make([]uint32, 15), page(0, 0x8000)), pairs{{255, 1}}, [3]int{15, 1, 0}},
		{append(make([]uint32, 14), head(2), held), pairs{{224, 32}}, [3]int{14, 0, 2}},
		{[]uint32{page(0, 0x8001), page(1, 0x81), page(2, 9), page(3, 3), page(4, 1)}, pairs{{0, 1}, {15, 1}, {16, 2}, {30, 2}, {32, 4}, {44, 4}, {48, 8}, {56, 8}, {64, 16}}, [3]int{0, 5, 0}},
		{[]uint32{held, page(3, 2), head(3), held, held, 0, head(2), held}, pairs{{24, 8}, {32, 48}, {96, 32}}, [3]int{1, 1, 6}},
		// A memory needs no more than control words: a held chunk without a head, and a head without its chunks.
		{[]uint32{held, 0, held}, nil, [3]int{1, 0, 2}},
		{[]uint32{head(2)}, pairs{{0, 32}}, [3]int{0, 0, 1}},
		{[]uint32{0, head(16)}, pairs{{16, 256}}, [3]int{1, 0, 1}},
		{append(make([]uint32, 15), head(16)), pairs{{240, 256}}, [3]int{15, 0, 1}},
		{[]uint32{head(3), head(2), page(4, 1), 0}, pairs{{0, 48}, {16, 32}, {32, 16}}, [3]int{1, 1, 2}},
		{slices.Repeat([]uint32{page(0, 0xffff)}, 16), nil, [3]int{0, 16, 0}},
	} {
		want := blocks(c.want)
		if len(c.words) > 0 && c.words[0] == page(0, 0xffff) {
			want = oneWordBlocks(256)
		}
		checkAudit(t, c.words, want)
		checkAuditSum(t, c.words, c.sum)
	}
}

func TestAuditOfMixedWords(t *testing.T) {
	all := someCtls()
	d := dice(11)
	for range 3000 {
		words := make([]uint32, d.roll(17))
		for i := range words {
			words[i] = wordOf(all[d.roll(len(all))])
			if d.roll(3) == 0 {
				words[i] = []uint32{0, held}[d.roll(2)]
			}
		}
		checkAudit(t, words, blocksIn(words))
		checkAuditSum(t, words, sumModel(words))
	}
}

func TestAuditRefused(t *testing.T) {
	for _, x := range badWords() {
		checkAuditRefused(t, []uint32{x})
		for at := range 16 {
			words := heapFor(16, at)
			words[at] = x
			checkAuditRefused(t, words)
		}
	}
	for _, n := range []int{17, 18, 32, 63, 64, 65, 256} {
		checkAuditRefused(t, make([]uint32, n))
		checkAuditRefused(t, slices.Repeat([]uint32{page(0, 3)}, n))
	}
}

func TestAuditedBlocksAreNewMemory(t *testing.T) {
	for from := range 9 {
		m, array := spared(heapFor(9, from))
		was := slices.Clone(array)
		want := blocksIn(m.Words)
		first, _ := impl.Audit(m)
		second, _ := impl.Audit(m)
		impl.AuditSum(m)
		overwriteBlocks(first)
		if !slices.Equal(second, want) || !slices.Equal(array, was) {
			t.Errorf("Audit(%v): two results share memory, or the argument is changed: %v", was, second)
		}
		overwrite(m.Words)
		if !slices.Equal(second, want) {
			t.Errorf("Audit(%v): the result changes with the argument", was)
		}
	}
}

// What is behind the words of a memory is not in it, be it a block or no control word.
func TestAuditReadsNoFurther(t *testing.T) {
	array := []uint32{page(4, 1), 0, page(0, 1), spare}
	checkAudit(t, array[:2], blocks(pairs{{0, 16}}))
	checkAuditSum(t, array[:2], [3]int{1, 1, 0})
	checkAudit(t, array[:0], nil)
}
