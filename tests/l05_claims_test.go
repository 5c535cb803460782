package tests

import (
	"math"
	"slices"
	"testing"

	"loop.example/g00709/impl"
)

// Promise 7, claims and releases: claimed blocks were free, as many as
// requested or as there was room for, releasing them in any order restores the
// word, and releasing a block twice fails.

func pageOf(class int, taken uint32) impl.Ctl {
	return impl.Ctl{State: 1, Class: class, Map: taken}
}

// edgePages has, for every class, the pages with one block, with all blocks but one, and with all blocks.
func edgePages() []impl.Ctl {
	var list []impl.Ctl
	for class, blocks := range blocksOfClass {
		all := sumOfBits(span(0, blocks))
		list = append(list, pageOf(class, all))
		for at := range blocks {
			one := sumOfBits([]int{at})
			list = append(list, pageOf(class, one))
			if one != all {
				list = append(list, pageOf(class, all-one))
			}
		}
	}
	return list
}

// someCtls has the states of the edges, and pages with mixed blocks.
func someCtls() []impl.Ctl {
	list := append(edgePages(), impl.Ctl{}, impl.Ctl{State: 3}, impl.Ctl{State: 2, Run: 2}, impl.Ctl{State: 2, Run: 3}, impl.Ctl{State: 2, Run: 16})
	for class, blocks := range blocksOfClass {
		for _, x := range []uint32{5, 10, 22, 90, 0x5555, 0xaaaa, 0x0ff0, 0xf00f, 0x1234, 0xfedc} {
			if taken := sumOfBits(bitNumbers(x, blocks, true)); taken != 0 {
				list = append(list, pageOf(class, taken))
			}
		}
	}
	return list
}

// startsOf returns where the blocks of a page start that are allocated, or those that are not.
func startsOf(c impl.Ctl, taken bool) []int {
	list := bitNumbers(c.Map, blocksOfClass[c.Class], taken)
	for i := range list {
		list[i] *= sizeOfClass[c.Class]
	}
	return list
}

func takenStarts(c impl.Ctl) []int {
	if c.State != 1 {
		return nil
	}
	return startsOf(c, true)
}

// freeStarts returns where blocks of the class can be allocated.
func freeStarts(c impl.Ctl, class int) []int {
	if class < 0 || class > 4 {
		return nil
	}
	if c.State == 0 {
		return startsOf(pageOf(class, 0), false)
	}
	if c.State == 1 && c.Class == class {
		return startsOf(c, false)
	}
	return nil
}

// mapOf returns the map of the blocks of the class that start there.
func mapOf(class int, starts []int) uint32 {
	var blocks []int
	for _, off := range starts {
		blocks = append(blocks, off/sizeOfClass[class])
	}
	return sumOfBits(blocks)
}

// leftOf returns the state after the block of a page that starts there is freed.
func leftOf(c impl.Ctl, off int) impl.Ctl {
	c.Map -= mapOf(c.Class, []int{off})
	if c.Map == 0 {
		return impl.Ctl{}
	}
	return c
}

// badOffs has offsets outside of a chunk, some of which are inside in their low bits only.
func badOffs() []int {
	return []int{
		-1, 16, -2, -8, -15, -16, -17, 17, 24, 31, 32, 33, 48, 63, 64, 128, 256, 4096,
		1 << 32, 1<<32 + 8, -1 << 32, -1<<32 + 8, math.MinInt32, math.MaxInt32,
		math.MinInt, math.MinInt + 8, math.MaxInt - 15, math.MaxInt - 7, math.MaxInt,
	}
}

// badCounts has numbers of blocks of which none can be allocated.
func badCounts() []int {
	return []int{0, -1, -2, -16, -32, math.MinInt32, -1 << 32, -1<<32 + 1, math.MinInt, math.MinInt + 1}
}

// manyBlocks has numbers of blocks that no page has.
func manyBlocks() []int {
	return []int{17, 18, 31, 32, 33, 63, 64, 65, 256, 65536, math.MaxInt32, 1 << 32, 1<<32 + 1, math.MaxInt - 1, math.MaxInt}
}

func badRuns() []int {
	return []int{
		1, 17, 0, -1, -2, -16, 18, 32, 255, 256, 257, 258, 272, 4096, 1 << 31, 1 << 32, 1<<32 + 2, -1 << 32, -1<<32 + 2,
		math.MinInt32, math.MinInt, math.MinInt + 2, math.MaxInt - 1, math.MaxInt,
	}
}

func checkClaim(t *testing.T, c impl.Ctl, class int, n int) {
	t.Helper()
	want := firstOf(freeStarts(c, class), n)
	if len(want) == 0 {
		checkClaimRefused(t, wordOf(c), class, n)
		return
	}
	word := wordOf(pageOf(class, c.Map+mapOf(class, want)))
	got, offs, ok := impl.Claim(wordOf(c), class, n)
	if got != word || !slices.Equal(offs, want) || !ok {
		t.Errorf("Claim(%d, %d, %d) of %+v: got %d %v %v, want %d %v true", wordOf(c), class, n, c, got, offs, ok, word, want)
	}
}

func checkClaimRefused(t *testing.T, x uint32, class int, n int) {
	t.Helper()
	if word, offs, ok := impl.Claim(x, class, n); word != 0 || len(offs) != 0 || ok {
		t.Errorf("Claim(%d, %d, %d): got %d %v %v, want 0 [] false", x, class, n, word, offs, ok)
	}
}

func checkRelease(t *testing.T, c impl.Ctl, off int) {
	t.Helper()
	if !slices.Contains(takenStarts(c), off) {
		checkReleaseRefused(t, wordOf(c), off)
		return
	}
	left, size := wordOf(leftOf(c, off)), sizeOfClass[c.Class]
	if word, words, ok := impl.Release(wordOf(c), off); word != left || words != size || !ok {
		t.Errorf("Release(%d, %d) of %+v: got %d %d %v, want %d %d true", wordOf(c), off, c, word, words, ok, left, size)
	}
}

func checkReleaseRefused(t *testing.T, x uint32, off int) {
	t.Helper()
	if word, words, ok := impl.Release(x, off); word != 0 || words != 0 || ok {
		t.Errorf("Release(%d, %d): got %d %d %v, want 0 0 false", x, off, word, words, ok)
	}
}

func checkBlockAt(t *testing.T, x uint32, off int, start int, size int) {
	t.Helper()
	if at, words, ok := impl.BlockAt(x, off); at != start || words != size || !ok {
		t.Errorf("BlockAt(%d, %d): got %d %d %v, want %d %d true", x, off, at, words, ok, start, size)
	}
}

func checkNoBlockAt(t *testing.T, x uint32, off int) {
	t.Helper()
	if at, words, ok := impl.BlockAt(x, off); at != 0 || words != 0 || ok {
		t.Errorf("BlockAt(%d, %d): got %d %d %v, want 0 0 false", x, off, at, words, ok)
	}
}

func checkRoom(t *testing.T, x uint32, class int, want int) {
	t.Helper()
	if got := impl.Room(x, class); got != want {
		t.Errorf("Room(%d, %d): got %d, want %d", x, class, got, want)
	}
}

func checkTaken(t *testing.T, x uint32, want int) {
	t.Helper()
	if got := impl.TakenWords(x); got != want {
		t.Errorf("TakenWords(%d): got %d, want %d", x, got, want)
	}
}

func TestClaimExamples(t *testing.T) {
	word, offs, ok := impl.Claim(0, 3, 5)
	if word != 1245187 || !slices.Equal(offs, []int{0, 8}) || !ok {
		t.Errorf("Claim(0, 3, 5): got %d %v %v, want 1245187 [0 8] true", word, offs, ok)
	}
	word, offs, ok = impl.Claim(1048576+11, 0, 3)
	if word != 1048576+63 || !slices.Equal(offs, []int{2, 4, 5}) || !ok {
		t.Errorf("Claim of a page with a gap: got %d %v %v, want 1048639 [2 4 5] true", word, offs, ok)
	}
	word, size, ok := impl.Release(1245187, 0)
	if word != 1245186 || size != 8 || !ok {
		t.Errorf("Release(1245187, 0): got %d %d %v, want 1245186 8 true", word, size, ok)
	}
	word, size, ok = impl.Release(1245186, 8)
	if word != 0 || size != 8 || !ok {
		t.Errorf("Release(1245186, 8): got %d %d %v, want 0 8 true", word, size, ok)
	}
	checkBlockAt(t, 1245186, 15, 8, 8)
	checkNoBlockAt(t, 1245186, 7)
}

func TestRoomOfEveryWord(t *testing.T) {
	for c, x := range validCtls() {
		for class := -1; class <= impl.Classes; class++ {
			want := 0
			if c.State == 0 || c.State == 1 && c.Class == class {
				want = len(freeStarts(c, class))
			}
			checkRoom(t, x, class, want)
		}
	}
}

func TestRoomEdges(t *testing.T) {
	for class, blocks := range blocksOfClass {
		all := sumOfBits(span(0, blocks))
		checkRoom(t, 0, class, blocks)
		checkRoom(t, wordOf(pageOf(class, all)), class, 0)
		for at := range blocks {
			one := sumOfBits([]int{at})
			checkRoom(t, wordOf(pageOf(class, one)), class, blocks-1)
			if one != all {
				checkRoom(t, wordOf(pageOf(class, all-one)), class, 1)
			}
		}
	}
}

func TestClaimFromEveryWord(t *testing.T) {
	for c := range validCtls() {
		for class := range impl.Classes {
			if c.State == 1 && c.Class != class {
				checkClaimRefused(t, wordOf(c), class, 1)
				continue
			}
			room := len(freeStarts(c, class))
			for _, n := range []int{0, 1, 2, room, room + 1, math.MaxInt} {
				checkClaim(t, c, class, n)
			}
		}
	}
}

func TestClaimAnyNumberOfBlocks(t *testing.T) {
	for _, c := range someCtls() {
		for class := range impl.Classes {
			for n := 1; n <= impl.ChunkWords; n++ {
				checkClaim(t, c, class, n)
			}
			for _, n := range slices.Concat(badCounts(), manyBlocks()) {
				checkClaim(t, c, class, n)
			}
		}
	}
}

// requests has numbers of blocks up to the room, one more, and very many.
func requests(room int) []int {
	list := []int{1, 2, 3, room - 1, room, room + 1, math.MaxInt}
	return slices.DeleteFunc(list, func(n int) bool { return n < 1 })
}

// forEachClaim calls check with each successful claim on the words of the edges.
func forEachClaim(t *testing.T, check func(x uint32, class int, n int, word uint32, offs []int)) {
	t.Helper()
	for _, c := range someCtls() {
		x := wordOf(c)
		for class := range impl.Classes {
			room := impl.Room(x, class)
			for _, n := range requests(room) {
				word, offs, ok := impl.Claim(x, class, n)
				if ok != (room > 0) {
					t.Errorf("Claim(%d, %d, %d): got %v with room for %d", x, class, n, ok, room)
				}
				if ok {
					check(x, class, n, word, offs)
				}
			}
		}
	}
}

func TestClaimedBlocksWereFree(t *testing.T) {
	forEachClaim(t, func(x uint32, class int, n int, word uint32, offs []int) {
		size := impl.ClassSize(class)
		for _, start := range offs {
			checkReleaseRefused(t, x, start)
			for _, off := range span(start, size) {
				checkNoBlockAt(t, x, off)
				checkBlockAt(t, word, off, start, size)
			}
		}
	})
}

func TestClaimKeepsTheOtherBlocks(t *testing.T) {
	forEachClaim(t, func(x uint32, class int, n int, word uint32, offs []int) {
		claimed := map[int]bool{}
		for _, start := range offs {
			for _, off := range span(start, impl.ClassSize(class)) {
				claimed[off] = true
			}
		}
		for off := range impl.ChunkWords {
			if claimed[off] {
				continue
			}
			if start, size, ok := impl.BlockAt(x, off); ok {
				checkBlockAt(t, word, off, start, size)
			} else {
				checkNoBlockAt(t, word, off)
			}
		}
	})
}

func TestClaimAsManyAsRequestedOrAsThereIsRoomFor(t *testing.T) {
	forEachClaim(t, func(x uint32, class int, n int, word uint32, offs []int) {
		room := impl.Room(x, class)
		if len(offs) != min(n, room) {
			t.Errorf("Claim(%d, %d, %d): got %v with room for %d", x, class, n, offs, room)
		}
		if !slices.IsSorted(offs) || len(slices.Compact(slices.Clone(offs))) != len(offs) {
			t.Errorf("Claim(%d, %d, %d): the offsets %v are not strictly increasing", x, class, n, offs)
		}
		checkRoom(t, word, class, room-len(offs))
		checkTaken(t, word, impl.TakenWords(x)+len(offs)*impl.ClassSize(class))
		c, ok := impl.CtlRead(word)
		if !ok || c.State != impl.StPage || c.Class != class {
			t.Errorf("Claim(%d, %d, %d): the word %d is read as %+v %v", x, class, n, word, c, ok)
		}
	})
}

// orders has several orders of a list: forwards, backwards, from every element
// on, every second one first, and all orders of a short list.
func orders(list []int) [][]int {
	backwards := slices.Clone(list)
	slices.Reverse(backwards)
	all := [][]int{list, backwards}
	for i := range list {
		all = append(all, slices.Concat(list[i:], list[:i]))
		all = append(all, slices.Concat(backwards[i:], backwards[:i]))
	}
	var even, odd []int
	for i, x := range list {
		if i%2 == 0 {
			even = append(even, x)
		} else {
			odd = append(odd, x)
		}
	}
	all = append(all, slices.Concat(even, odd), slices.Concat(odd, even))
	if len(list) <= 4 {
		all = append(all, allOrders(list)...)
	}
	return all
}

func allOrders(list []int) [][]int {
	if len(list) == 0 {
		return [][]int{nil}
	}
	var all [][]int
	for i, x := range list {
		for _, rest := range allOrders(slices.Concat(list[:i], list[i+1:])) {
			all = append(all, append([]int{x}, rest...))
		}
	}
	return all
}

// releaseAll releases the blocks one by one, and each of them a second time, which must fail.
func releaseAll(t *testing.T, x uint32, size int, order []int) uint32 {
	t.Helper()
	for i, off := range order {
		word, words, ok := impl.Release(x, off)
		if words != size || !ok {
			t.Fatalf("Release(%d, %d) in the order %v: got %d %d %v, want the size %d", x, off, order, word, words, ok, size)
		}
		for _, again := range order[:i+1] {
			checkReleaseRefused(t, word, again)
		}
		checkTaken(t, word, impl.TakenWords(x)-size)
		x = word
	}
	return x
}

func TestReleasingInAnyOrderRestoresTheWord(t *testing.T) {
	forEachClaim(t, func(x uint32, class int, n int, word uint32, offs []int) {
		for _, order := range orders(offs) {
			if got := releaseAll(t, word, impl.ClassSize(class), order); got != x {
				t.Errorf("Claim(%d, %d, %d), released in the order %v: got %d", x, class, n, order, got)
			}
		}
	})
}

func TestTwoClaimsReleasedTogether(t *testing.T) {
	for _, c := range someCtls() {
		for class := range impl.Classes {
			x := wordOf(c)
			first, offs, ok := impl.Claim(x, class, 1)
			second, more, fine := impl.Claim(first, class, 3)
			if !ok || !fine {
				continue
			}
			for _, order := range orders(slices.Concat(more, offs)) {
				if got := releaseAll(t, second, impl.ClassSize(class), order); got != x {
					t.Errorf("two claims on %d, released in the order %v: got %d", x, order, got)
				}
			}
		}
	}
}

func TestPagesBecomeFree(t *testing.T) {
	for class, blocks := range blocksOfClass {
		size := sizeOfClass[class]
		for at := range blocks {
			one := wordOf(pageOf(class, sumOfBits([]int{at})))
			word, words, ok := impl.Release(one, at*size)
			if word != 0 || words != size || !ok {
				t.Errorf("Release(%d, %d): got %d %d %v, want 0 %d true", one, at*size, word, words, ok, size)
			}
			for other := range impl.Classes {
				checkRoom(t, word, other, blocksOfClass[other])
				checkClaim(t, impl.Ctl{}, other, blocksOfClass[other])
			}
		}
		all := wordOf(pageOf(class, sumOfBits(span(0, blocks))))
		for _, order := range orders(startsOf(pageOf(class, 0), false)) {
			if word := releaseAll(t, all, size, order); word != 0 {
				t.Errorf("all blocks of %d, released in the order %v: got %d, want 0", all, order, word)
			}
		}
	}
}

func TestPagesWithABlockLeftStayPages(t *testing.T) {
	for _, c := range edgePages() {
		for _, off := range startsOf(c, true) {
			left := leftOf(c, off)
			if left.State == 0 {
				continue
			}
			word, _, _ := impl.Release(wordOf(c), off)
			if got, ok := impl.CtlRead(word); got != left || !ok {
				t.Errorf("Release(%d, %d): the word is read as %+v %v, want %+v", wordOf(c), off, got, ok, left)
			}
		}
	}
}

func TestReleaseFromEveryWord(t *testing.T) {
	for c, x := range validCtls() {
		taken := map[int]bool{}
		for _, off := range takenStarts(c) {
			taken[off] = true
			checkRelease(t, c, off)
		}
		for off := range impl.ChunkWords {
			if !taken[off] {
				checkReleaseRefused(t, x, off)
			}
		}
	}
}

func TestReleaseInsideABlockFails(t *testing.T) {
	for _, c := range edgePages() {
		size := sizeOfClass[c.Class]
		for _, start := range startsOf(c, true) {
			for _, off := range span(start, size)[1:] {
				checkReleaseRefused(t, wordOf(c), off)
			}
		}
	}
}

func TestOffsetsOutsideOfTheChunk(t *testing.T) {
	for _, c := range someCtls() {
		for _, off := range badOffs() {
			checkReleaseRefused(t, wordOf(c), off)
			checkNoBlockAt(t, wordOf(c), off)
		}
	}
}

func TestBlockAtEveryOffset(t *testing.T) {
	for c, x := range validCtls() {
		covered := map[int]bool{}
		for _, start := range takenStarts(c) {
			for _, off := range span(start, sizeOfClass[c.Class]) {
				covered[off] = true
				checkBlockAt(t, x, off, start, sizeOfClass[c.Class])
			}
		}
		for off := range impl.ChunkWords {
			if !covered[off] {
				checkNoBlockAt(t, x, off)
			}
		}
	}
}

func TestBlockAtTheEnds(t *testing.T) {
	for class, blocks := range blocksOfClass {
		size := sizeOfClass[class]
		first := wordOf(pageOf(class, 1))
		last := wordOf(pageOf(class, sumOfBits([]int{blocks - 1})))
		checkBlockAt(t, first, 0, 0, size)
		checkBlockAt(t, first, size-1, 0, size)
		checkNoBlockAt(t, first, size)
		checkBlockAt(t, last, 16-size, 16-size, size)
		checkBlockAt(t, last, 15, 16-size, size)
		checkNoBlockAt(t, last, 16)
		if blocks > 1 {
			checkNoBlockAt(t, first, 15)
			checkNoBlockAt(t, last, 0)
			checkNoBlockAt(t, last, 15-size)
		}
	}
}

func TestOnlyPagesHaveBlocks(t *testing.T) {
	words := []uint32{0, impl.HeldWord()}
	for run := 2; run <= impl.MaxChunks; run++ {
		head, _ := impl.HeadWord(run)
		words = append(words, head)
	}
	for _, x := range words {
		for off := range impl.ChunkWords {
			checkReleaseRefused(t, x, off)
			checkNoBlockAt(t, x, off)
		}
	}
	for _, x := range words[1:] {
		for class := range impl.Classes {
			checkRoom(t, x, class, 0)
			checkClaimRefused(t, x, class, 1)
			checkClaimRefused(t, x, class, math.MaxInt)
		}
	}
}

func TestClassesRefused(t *testing.T) {
	for _, c := range someCtls() {
		x := wordOf(c)
		for _, class := range badClasses() {
			checkRoom(t, x, class, 0)
			for _, n := range slices.Concat([]int{1, 2, 16}, badCounts(), manyBlocks()) {
				checkClaimRefused(t, x, class, n)
			}
		}
	}
}

func TestOtherClassThanThePages(t *testing.T) {
	for _, c := range edgePages() {
		for class := range impl.Classes {
			if class == c.Class {
				continue
			}
			checkRoom(t, wordOf(c), class, 0)
			checkClaimRefused(t, wordOf(c), class, 1)
			checkClaimRefused(t, wordOf(c), class, 16)
		}
	}
}

func TestFullPagesRefuse(t *testing.T) {
	for class, blocks := range blocksOfClass {
		full := wordOf(pageOf(class, sumOfBits(span(0, blocks))))
		for _, n := range slices.Concat([]int{1, 2, blocks, 16}, badCounts(), manyBlocks()) {
			checkClaimRefused(t, full, class, n)
		}
	}
}

func TestNumbersOfBlocksRefused(t *testing.T) {
	for _, c := range someCtls() {
		for class := range impl.Classes {
			for _, n := range badCounts() {
				checkClaimRefused(t, wordOf(c), class, n)
			}
		}
	}
}

func TestHeadWords(t *testing.T) {
	for run := 2; run <= 16; run++ {
		want := uint32(2*1048576 + 16777216*run)
		if x, ok := impl.HeadWord(run); x != want || !ok {
			t.Errorf("HeadWord(%d): got %d %v, want %d true", run, x, ok, want)
		}
		if c, ok := impl.CtlRead(want); c != (impl.Ctl{State: impl.StHead, Run: run}) || !ok {
			t.Errorf("HeadWord(%d) is read as %+v %v", run, c, ok)
		}
		checkTaken(t, want, 16)
	}
	for _, run := range badRuns() {
		if x, ok := impl.HeadWord(run); x != 0 || ok {
			t.Errorf("HeadWord(%d): got %d %v, want 0 false", run, x, ok)
		}
	}
}

func TestHeldWord(t *testing.T) {
	x := impl.HeldWord()
	if c, ok := impl.CtlRead(x); x != 3145728 || c != (impl.Ctl{State: impl.StHeld}) || !ok {
		t.Errorf("HeldWord(): got %d, which is read as %+v %v", x, c, ok)
	}
	checkTaken(t, x, 0)
}

func TestTakenWordsOfEveryWord(t *testing.T) {
	for c, x := range validCtls() {
		want := 0
		switch c.State {
		case 1:
			want = len(takenStarts(c)) * sizeOfClass[c.Class]
		case 2:
			want = 16
		}
		checkTaken(t, x, want)
	}
}

func TestTakenWordsAreTheWordsInBlocks(t *testing.T) {
	for _, c := range someCtls() {
		if c.State == 2 {
			continue
		}
		n := 0
		for off := range impl.ChunkWords {
			if _, _, ok := impl.BlockAt(wordOf(c), off); ok {
				n++
			}
		}
		checkTaken(t, wordOf(c), n)
	}
}

func checkNoControlWord(t *testing.T, x uint32, classes []int, offs []int) {
	t.Helper()
	for _, class := range classes {
		checkRoom(t, x, class, 0)
		for _, n := range []int{math.MinInt, -1, 0, 1, 2, 16, 17, math.MaxInt} {
			checkClaimRefused(t, x, class, n)
		}
	}
	for _, off := range offs {
		checkReleaseRefused(t, x, off)
		checkNoBlockAt(t, x, off)
	}
	checkTaken(t, x, 0)
}

func TestWordsThatAreNoControlWords(t *testing.T) {
	classes := append(badClasses(), span(0, impl.Classes)...)
	offs := append(badOffs(), span(0, impl.ChunkWords)...)
	for _, x := range badWords() {
		checkNoControlWord(t, x, classes, offs)
	}
	valid := validWords()
	for _, c := range someCtls() {
		for at := range 32 {
			beside := wordOf(c) ^ sumOfBits([]int{at})
			if _, ok := valid[beside]; !ok {
				checkNoControlWord(t, beside, span(0, impl.Classes), span(0, impl.ChunkWords))
			}
		}
	}
}

func TestClaimedOffsetsAreNewMemory(t *testing.T) {
	forEachClaim(t, func(x uint32, class int, n int, word uint32, offs []int) {
		_, second, _ := impl.Claim(x, class, n)
		was := slices.Clone(second)
		overwriteInts(offs)
		_, third, _ := impl.Claim(x, class, n)
		if !slices.Equal(second, was) || !slices.Equal(third, was) {
			t.Errorf("Claim(%d, %d, %d): two results share memory", x, class, n)
		}
	})
}

func TestClaimsKeepNoState(t *testing.T) {
	for range 3 {
		for _, c := range someCtls() {
			for class := range impl.Classes {
				checkClaim(t, c, class, 2)
			}
			for off := range impl.ChunkWords {
				checkRelease(t, c, off)
			}
		}
	}
}
