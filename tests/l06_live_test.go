package tests

import (
	"math"
	"math/big"
	"slices"
	"testing"

	"loop.example/g00709/impl"
)

// Promise 8, live blocks: a block that was added is found at each of its words
// and is gone after it is cut, and the free words and the words in blocks are
// all words.

const heapWords = 256 // of a heap of as many chunks as there can be

// pairs has blocks written as At and Size.
type pairs [][2]int

func blocks(list pairs) []impl.Block {
	var all []impl.Block
	for _, p := range list {
		all = append(all, impl.Block{At: p[0], Size: p[1]})
	}
	return all
}

type liveCase struct {
	words int
	list  []impl.Block
}

// allBlockLists has every valid list of blocks from the word start on.
func allBlockLists(start int, words int) [][]impl.Block {
	if start == words {
		return [][]impl.Block{nil}
	}
	all := allBlockLists(start+1, words)
	for size := 1; start+size <= words; size++ {
		b := impl.Block{At: start, Size: size}
		for _, rest := range allBlockLists(start+size, words) {
			all = append(all, append([]impl.Block{b}, rest...))
		}
	}
	return all
}

func shortCases() []liveCase {
	var list []liveCase
	for words := range 7 {
		for _, valid := range allBlockLists(0, words) {
			list = append(list, liveCase{words, valid})
		}
	}
	return list
}

// blocksOf returns blocks of the sizes in turn up to the end of the words, with
// as many free words before each of them as the gaps say.
func blocksOf(words int, sizes []int, gaps []int) []impl.Block {
	var list []impl.Block
	at := 0
	for i := 0; ; i++ {
		at += gaps[i%len(gaps)]
		size := sizes[i%len(sizes)]
		if at+size > words {
			return list
		}
		list = append(list, impl.Block{At: at, Size: size})
		at += size
	}
}

func oneWordBlocks(n int) []impl.Block {
	return blocksOf(n, []int{1}, []int{0})
}

func without(list []impl.Block, i int) []impl.Block {
	return slices.Concat(list[:i], list[i+1:])
}

// longCases has lists in as many words as there can be, and in one fewer.
func longCases() []liveCase {
	full := oneWordBlocks(heapWords)
	list := []liveCase{
		{heapWords, nil},
		{heapWords, blocks(pairs{{0, 1}})},
		{heapWords, blocks(pairs{{0, 255}})},
		{heapWords, blocks(pairs{{0, 256}})},
		{heapWords, blocks(pairs{{1, 255}})},
		{heapWords, blocks(pairs{{1, 254}})},
		{heapWords, blocks(pairs{{255, 1}})},
		{heapWords, blocks(pairs{{0, 1}, {255, 1}})},
		{heapWords, blocks(pairs{{0, 128}, {128, 128}})},
		{heapWords, blocks(pairs{{0, 128}, {129, 127}})},
		{heapWords, blocks(pairs{{0, 16}, {16, 32}, {96, 8}, {104, 8}, {128, 128}})},
		{heapWords, full},
		{heapWords, full[1:]},
		{heapWords, full[:heapWords-1]},
		{heapWords, without(full, 128)},
		{heapWords - 1, nil},
		{heapWords - 1, full[:heapWords-1]},
		{heapWords - 1, blocks(pairs{{0, 255}})},
		{32, blocks(pairs{{0, 8}, {8, 4}})},
	}
	for _, gaps := range [][]int{{0}, {1}, {0, 1}, {1, 0, 0}, {5, 0, 2}} {
		for _, sizes := range [][]int{{1}, {2}, {1, 2, 4, 8, 16}, {16}, {48, 32}, {3, 1, 7}} {
			list = append(list, liveCase{heapWords, blocksOf(heapWords, sizes, gaps)})
		}
	}
	return list
}

func liveCases() []liveCase {
	return slices.Concat(shortCases(), longCases())
}

func badWordCounts() []int {
	return []int{
		-1, heapWords + 1, -2, -16, -heapWords, heapWords + 16, 2 * heapWords, 4096, math.MinInt32, math.MaxInt32,
		1 << 32, 1<<32 + 1, 1<<32 + 32, -1 << 32, -1<<32 + 32, math.MinInt, math.MinInt + 32, math.MaxInt - 32, math.MaxInt,
	}
}

// farNumbers has numbers around the limits, numbers that are small in their low
// bits only, and numbers whose sums exceed 64 bits.
func farNumbers() []int {
	return []int{
		-1, 0, 1, 2, 31, 32, 33, 255, 256, 257, -2, -31, -32, -256, -257, math.MinInt32, math.MaxInt32,
		1 << 32, 1<<32 + 1, -1 << 32, -1<<32 + 1, 1 << 62, 1<<62 + 1, -1 << 62, -1<<62 + 1,
		math.MinInt, math.MinInt + 1, math.MinInt + 32, math.MinInt + 256,
		math.MaxInt - 256, math.MaxInt - 31, math.MaxInt - 1, math.MaxInt,
	}
}

// endOf returns At + Size, which may be no int.
func endOf(b impl.Block) *big.Int {
	return new(big.Int).Add(big.NewInt(int64(b.At)), big.NewInt(int64(b.Size)))
}

func fitsInto(b impl.Block, words int) bool {
	return b.At >= 0 && b.Size >= 1 && endOf(b).Cmp(big.NewInt(int64(words))) <= 0
}

func isLive(list []impl.Block, words int) bool {
	if words < 0 || words > heapWords || len(list) > 300 {
		return false
	}
	for i, b := range list {
		if !fitsInto(b, words) || i > 0 && big.NewInt(int64(b.At)).Cmp(endOf(list[i-1])) < 0 {
			return false
		}
	}
	return true
}

// byWord returns, for each word, the block that contains it, or one of size 0.
func byWord(list []impl.Block, words int) []impl.Block {
	row := make([]impl.Block, words)
	for _, b := range list {
		for i := range b.Size {
			row[b.At+i] = b
		}
	}
	return row
}

// withBlock returns the valid list with one more block, and false if that would not be valid.
func withBlock(list []impl.Block, words int, b impl.Block) ([]impl.Block, bool) {
	if !fitsInto(b, words) {
		return nil, false
	}
	row := byWord(list, words)
	for _, at := range span(b.At, b.Size) {
		if row[at].Size > 0 {
			return nil, false
		}
	}
	i := 0
	for i < len(list) && list[i].At < b.At {
		i++
	}
	return slices.Insert(slices.Clone(list), i, b), true
}

func checkLiveOk(t *testing.T, list []impl.Block, words int, want bool) {
	t.Helper()
	if got := impl.LiveOk(list, words); got != want {
		t.Errorf("LiveOk(%v, %d): got %v, want %v", list, words, got, want)
	}
}

func checkAdd(t *testing.T, list []impl.Block, words int, b impl.Block) {
	t.Helper()
	want, fine := withBlock(list, words, b)
	if got, ok := impl.LiveAdd(list, words, b); ok != fine || !slices.Equal(got, want) {
		t.Errorf("LiveAdd(%v, %d, %v): got %v %v, want %v %v", list, words, b, got, ok, want, fine)
	}
}

func checkAdded(t *testing.T, list []impl.Block, words int, b impl.Block, want []impl.Block) {
	t.Helper()
	if got, ok := impl.LiveAdd(list, words, b); !ok || !slices.Equal(got, want) {
		t.Errorf("LiveAdd(%v, %d, %v): got %v %v, want %v true", list, words, b, got, ok, want)
	}
}

func checkAddRefused(t *testing.T, list []impl.Block, words int, b impl.Block) {
	t.Helper()
	if got, ok := impl.LiveAdd(list, words, b); ok || len(got) != 0 {
		t.Errorf("LiveAdd(%v, %d, %v): got %v %v, want [] false", list, words, b, got, ok)
	}
}

func checkCut(t *testing.T, list []impl.Block, words int, at int, want []impl.Block, size int) {
	t.Helper()
	if got, n, ok := impl.LiveCut(list, words, at); !ok || n != size || !slices.Equal(got, want) {
		t.Errorf("LiveCut(%v, %d, %d): got %v %d %v, want %v %d true", list, words, at, got, n, ok, want, size)
	}
}

func checkCutRefused(t *testing.T, list []impl.Block, words int, at int) {
	t.Helper()
	if got, n, ok := impl.LiveCut(list, words, at); ok || n != 0 || len(got) != 0 {
		t.Errorf("LiveCut(%v, %d, %d): got %v %d %v, want [] 0 false", list, words, at, got, n, ok)
	}
}

func checkFound(t *testing.T, list []impl.Block, words int, at int, want impl.Block) {
	t.Helper()
	if got, ok := impl.LiveFind(list, words, at); !ok || got != want {
		t.Errorf("LiveFind(%v, %d, %d): got %v %v, want %v true", list, words, at, got, ok, want)
	}
}

func checkNotFound(t *testing.T, list []impl.Block, words int, at int) {
	t.Helper()
	if got, ok := impl.LiveFind(list, words, at); ok || got != (impl.Block{}) {
		t.Errorf("LiveFind(%v, %d, %d): got %v %v, want {0 0} false", list, words, at, got, ok)
	}
}

func checkFree(t *testing.T, list []impl.Block, words int, want []impl.Block) {
	t.Helper()
	if got := impl.LiveFree(list, words); !slices.Equal(got, want) {
		t.Errorf("LiveFree(%v, %d): got %v, want %v", list, words, got, want)
	}
}

func checkSum(t *testing.T, list []impl.Block, words int, want int) {
	t.Helper()
	if got := impl.LiveSum(list, words); got != want {
		t.Errorf("LiveSum(%v, %d): got %d, want %d", list, words, got, want)
	}
}

// checkListRefused asks every function about a list that is not valid in these words.
func checkListRefused(t *testing.T, list []impl.Block, words int) {
	t.Helper()
	checkLiveOk(t, list, words, false)
	checkFree(t, list, words, nil)
	checkSum(t, list, words, -1)
	ats := []int{-1, 0, 1, 8, 31, 32, 255, 256, math.MaxInt}
	for _, b := range firstBlocks(list, 4) {
		ats = append(ats, b.At, b.At+1)
	}
	for _, at := range ats {
		checkNotFound(t, list, words, at)
		checkCutRefused(t, list, words, at)
		checkAddRefused(t, list, words, impl.Block{At: at, Size: 1})
		checkAddRefused(t, list, words, impl.Block{At: at, Size: 2})
	}
}

func firstBlocks(list []impl.Block, n int) []impl.Block {
	return list[:min(n, len(list))]
}

func TestLiveExamples(t *testing.T) {
	list := blocks(pairs{{0, 8}, {8, 4}})
	checkFree(t, list, 32, blocks(pairs{{12, 20}}))
	checkSum(t, list, 32, 12)
	checkFound(t, list, 32, 7, impl.Block{At: 0, Size: 8})
	checkFound(t, list, 32, 8, impl.Block{At: 8, Size: 4})
	checkNotFound(t, list, 32, 12)
	checkCut(t, list, 32, 8, blocks(pairs{{0, 8}}), 4)
	checkAdded(t, list, 32, impl.Block{At: 12, Size: 20}, blocks(pairs{{0, 8}, {8, 4}, {12, 20}}))
	if impl.MaxLive != 300 {
		t.Errorf("MaxLive: got %d, want 300", impl.MaxLive)
	}
}

func TestLiveOkOfShortLists(t *testing.T) {
	var all []impl.Block
	for at := -1; at <= 5; at++ {
		for size := -1; size <= 5; size++ {
			all = append(all, impl.Block{At: at, Size: size})
		}
	}
	for words := -1; words <= 5; words++ {
		checkLiveOk(t, nil, words, words >= 0)
		checkLiveOk(t, []impl.Block{}, words, words >= 0)
		for _, a := range all {
			checkLiveOk(t, []impl.Block{a}, words, isLive([]impl.Block{a}, words))
			for _, b := range all {
				list := []impl.Block{a, b}
				checkLiveOk(t, list, words, isLive(list, words))
				for _, c := range blocks(pairs{{0, 1}, {1, 1}, {2, 2}, {3, 1}, {3, 2}, {4, 0}, {4, 1}, {5, -1}}) {
					list = []impl.Block{a, b, c}
					checkLiveOk(t, list, words, isLive(list, words))
				}
			}
		}
	}
}

func TestValidLists(t *testing.T) {
	for _, c := range liveCases() {
		checkLiveOk(t, c.list, c.words, true)
	}
}

func TestLiveOkEdges(t *testing.T) {
	for _, c := range []struct {
		words int
		list  pairs
		want  bool
	}{
		{0, nil, true},
		{0, pairs{{0, 1}}, false},
		{0, pairs{{0, 0}}, false},
		{heapWords, pairs{{0, 256}}, true},
		{heapWords, pairs{{0, 257}}, false},
		{heapWords, pairs{{1, 256}}, false},
		{heapWords, pairs{{255, 1}}, true},
		{heapWords, pairs{{255, 2}}, false},
		{heapWords, pairs{{256, 1}}, false},
		{heapWords, pairs{{256, 0}}, false},
		{heapWords - 1, pairs{{0, 256}}, false},
		{heapWords - 1, pairs{{255, 1}}, false},
		{32, pairs{{-1, 1}}, false},
		{32, pairs{{-1, 2}}, false},
		{32, pairs{{4, 0}}, false},
		{32, pairs{{4, -1}}, false},
		{32, pairs{{0, 8}, {8, 4}}, true},
		{32, pairs{{0, 8}, {7, 4}}, false},
		{32, pairs{{0, 9}, {8, 4}}, false},
		{32, pairs{{8, 4}, {0, 8}}, false},
		{32, pairs{{8, 4}, {8, 4}}, false},
		{32, pairs{{8, 4}, {8, 5}}, false},
		{32, pairs{{8, 4}, {9, 2}}, false},
		{32, pairs{{8, 8}, {10, 1}, {16, 4}}, false},
		{32, pairs{{0, 4}, {8, 0}, {8, 4}}, false},
		{32, pairs{{0, 4}, {8, -4}, {8, 4}}, false},
		{32, pairs{{0, 4}, {4, 4}, {28, 4}}, true},
		{32, pairs{{0, 4}, {4, 4}, {28, 5}}, false},
		{32, pairs{{0, 4}, {4, 4}, {29, 4}}, false},
	} {
		checkLiveOk(t, blocks(c.list), c.words, c.want)
	}
}

func TestWordCountsRefused(t *testing.T) {
	for _, words := range badWordCounts() {
		for _, list := range []pairs{nil, {{0, 1}}, {{0, 8}, {8, 4}}, {{0, 256}}, {{256, 1}}, {{0, 257}}} {
			checkListRefused(t, blocks(list), words)
		}
		checkListRefused(t, oneWordBlocks(257), words)
	}
	for _, list := range []pairs{{{0, 1}}, {{0, 256}}, {{0, 8}, {8, 4}}} {
		checkListRefused(t, blocks(list), 0)
	}
}

// listsWith has the block alone, twice, and beside others.
func listsWith(b impl.Block) [][]impl.Block {
	one := []impl.Block{b}
	return [][]impl.Block{
		one,
		{b, b},
		slices.Concat(blocks(pairs{{0, 1}}), one),
		slices.Concat(one, blocks(pairs{{255, 1}})),
		slices.Concat(blocks(pairs{{0, 8}}), one, blocks(pairs{{254, 2}})),
	}
}

func TestBlocksWithFarNumbers(t *testing.T) {
	for _, at := range farNumbers() {
		for _, size := range farNumbers() {
			b := impl.Block{At: at, Size: size}
			for _, words := range []int{0, 1, 32, 255, 256} {
				for _, list := range listsWith(b) {
					if isLive(list, words) {
						checkLiveOk(t, list, words, true)
					} else {
						checkListRefused(t, list, words)
					}
				}
			}
		}
	}
}

func TestBlocksWhoseSumExceeds64Bits(t *testing.T) {
	for _, b := range blocks(pairs{
		{math.MaxInt, 1}, {1, math.MaxInt}, {math.MaxInt, math.MaxInt}, {8, math.MaxInt - 7}, {math.MaxInt - 7, 8},
		{1 << 62, 1 << 62}, {math.MaxInt, 33}, {math.MinInt, math.MinInt}, {math.MinInt, -1}, {-1, math.MinInt},
	}) {
		checkListRefused(t, []impl.Block{b}, 32)
		checkListRefused(t, append([]impl.Block{b}, blocks(pairs{{16, 4}})...), 32)
		checkListRefused(t, append(blocks(pairs{{0, 4}}), b), 32)
		checkAddRefused(t, nil, 32, b)
		checkAddRefused(t, blocks(pairs{{0, 8}, {8, 4}}), 32, b)
	}
}

// As many blocks as MaxLive never fit into the words: 256 blocks of one word are the most.
func TestNumberOfBlocks(t *testing.T) {
	most := oneWordBlocks(heapWords)
	checkLiveOk(t, most, heapWords, true)
	checkListRefused(t, most, heapWords-1)
	for _, n := range []int{257, impl.MaxLive - 1, impl.MaxLive, impl.MaxLive + 1, 4096} {
		touching, same := oneWordBlocks(n), slices.Repeat(blocks(pairs{{0, 1}}), n)
		for _, words := range []int{0, 1, heapWords - 1, heapWords, heapWords + 1, n} {
			checkListRefused(t, touching, words)
			checkListRefused(t, same, words)
		}
		checkListRefused(t, slices.Concat(most, slices.Repeat(blocks(pairs{{256, 0}}), n-heapWords)), heapWords)
	}
	for at := range heapWords {
		checkAddRefused(t, most, heapWords, impl.Block{At: at, Size: 1})
		checkAdded(t, without(most, at), heapWords, impl.Block{At: at, Size: 1}, most)
	}
	checkAddRefused(t, most, heapWords, impl.Block{At: heapWords, Size: 1})
}

func TestListsThatAreNotValid(t *testing.T) {
	for _, list := range []pairs{
		{{0, 0}}, {{0, -1}}, {{-1, 1}}, {{-1, 2}}, {{4, 0}}, {{32, 1}}, {{31, 2}}, {{0, 33}}, {{32, 0}},
		{{0, 8}, {7, 4}}, {{0, 9}, {8, 4}}, {{8, 4}, {0, 8}}, {{8, 4}, {8, 4}}, {{8, 4}, {8, 1}}, {{8, 8}, {10, 2}},
		{{0, 8}, {8, 4}, {31, 2}}, {{0, 8}, {8, 0}, {8, 4}}, {{0, 8}, {8, -4}, {12, 4}},
		{{0, 8}, {8, 4}, {11, 4}}, {{0, 1}, {0, 1}, {4, 4}}, {{0, 1}, {4, 4}, {4, 4}}, {{0, 1}, {8, 4}, {4, 4}},
	} {
		checkListRefused(t, blocks(list), 32)
	}
}

func TestAddToEveryShortList(t *testing.T) {
	for _, c := range shortCases() {
		for at := -2; at <= c.words+1; at++ {
			for size := -1; size <= c.words+2; size++ {
				checkAdd(t, c.list, c.words, impl.Block{At: at, Size: size})
			}
		}
	}
}

func TestAddToLongLists(t *testing.T) {
	for _, c := range longCases() {
		for at := -1; at <= c.words; at += 3 {
			for _, size := range []int{0, 1, 2, 3, 16, c.words - at, c.words - at + 1} {
				checkAdd(t, c.list, c.words, impl.Block{At: at, Size: size})
			}
		}
		for _, at := range farNumbers() {
			for _, size := range farNumbers() {
				checkAdd(t, c.list, c.words, impl.Block{At: at, Size: size})
			}
		}
	}
}

func TestAddBesideOtherBlocks(t *testing.T) {
	list := blocks(pairs{{4, 4}, {16, 8}})
	for _, c := range []struct {
		b    impl.Block
		want pairs
	}{
		{impl.Block{At: 0, Size: 1}, pairs{{0, 1}, {4, 4}, {16, 8}}},
		{impl.Block{At: 0, Size: 4}, pairs{{0, 4}, {4, 4}, {16, 8}}},
		{impl.Block{At: 3, Size: 1}, pairs{{3, 1}, {4, 4}, {16, 8}}},
		{impl.Block{At: 8, Size: 1}, pairs{{4, 4}, {8, 1}, {16, 8}}},
		{impl.Block{At: 8, Size: 8}, pairs{{4, 4}, {8, 8}, {16, 8}}},
		{impl.Block{At: 10, Size: 2}, pairs{{4, 4}, {10, 2}, {16, 8}}},
		{impl.Block{At: 15, Size: 1}, pairs{{4, 4}, {15, 1}, {16, 8}}},
		{impl.Block{At: 24, Size: 1}, pairs{{4, 4}, {16, 8}, {24, 1}}},
		{impl.Block{At: 24, Size: 8}, pairs{{4, 4}, {16, 8}, {24, 8}}},
		{impl.Block{At: 31, Size: 1}, pairs{{4, 4}, {16, 8}, {31, 1}}},
	} {
		checkAdded(t, list, 32, c.b, blocks(c.want))
	}
	for _, b := range blocks(pairs{
		{0, 5}, {3, 2}, {7, 1}, {7, 9}, {8, 9}, {15, 2}, {23, 1}, {23, 9}, {24, 9}, {31, 2}, {32, 1}, {-1, 1}, {-1, 2},
		{4, 4}, {4, 1}, {4, 3}, {4, 5}, {5, 2}, {16, 8}, {16, 7}, {16, 9}, {0, 32}, {8, 0}, {8, -1}, {4, 0}, {16, -8}, {32, 0},
	}) {
		checkAddRefused(t, list, 32, b)
	}
}

func TestAddToNoBlocks(t *testing.T) {
	for _, words := range []int{1, 2, 32, heapWords - 1, heapWords} {
		for _, b := range blocks(pairs{{0, 1}, {0, words}, {words - 1, 1}}) {
			checkAdded(t, nil, words, b, []impl.Block{b})
			checkAdded(t, []impl.Block{}, words, b, []impl.Block{b})
			checkFree(t, blocks(pairs{{0, words}}), words, nil)
		}
		for _, b := range blocks(pairs{{0, words + 1}, {words, 1}, {words - 1, 2}, {1, words}, {-1, 1}, {0, 0}}) {
			checkAddRefused(t, nil, words, b)
		}
	}
	checkAddRefused(t, nil, 0, impl.Block{At: 0, Size: 1})
	checkAddRefused(t, nil, 0, impl.Block{})
}

// gapsOf has blocks that can be added: for every gap the first and the last
// word of it, what is between them, and all of it.
func gapsOf(c liveCase) []impl.Block {
	var list []impl.Block
	row := byWord(c.list, c.words)
	for at := 0; at < c.words; at++ {
		start := at
		for at < c.words && row[at].Size == 0 {
			at++
		}
		if size := at - start; size > 0 {
			list = append(list, impl.Block{At: start, Size: 1}, impl.Block{At: at - 1, Size: 1}, impl.Block{At: start, Size: size})
			if size > 2 {
				list = append(list, impl.Block{At: start + 1, Size: size - 2})
			}
		}
	}
	return list
}

func TestAddedBlockIsFoundAtEachOfItsWords(t *testing.T) {
	for _, c := range liveCases() {
		before := byWord(c.list, c.words)
		for _, b := range gapsOf(c) {
			added, ok := impl.LiveAdd(c.list, c.words, b)
			if !ok {
				t.Fatalf("LiveAdd(%v, %d, %v): refused", c.list, c.words, b)
			}
			for at, other := range before {
				switch {
				case at >= b.At && at < b.At+b.Size:
					checkNotFound(t, c.list, c.words, at)
					checkFound(t, added, c.words, at, b)
				case other.Size > 0:
					checkFound(t, added, c.words, at, other)
				default:
					checkNotFound(t, added, c.words, at)
				}
			}
			checkNotFound(t, added, c.words, -1)
			checkNotFound(t, added, c.words, c.words)
		}
	}
}

func TestAddedBlockIsGoneAfterItIsCut(t *testing.T) {
	for _, c := range liveCases() {
		for _, b := range gapsOf(c) {
			added, _ := impl.LiveAdd(c.list, c.words, b)
			checkCut(t, added, c.words, b.At, c.list, b.Size)
			cut, _, _ := impl.LiveCut(added, c.words, b.At)
			for _, at := range span(b.At, b.Size) {
				checkNotFound(t, cut, c.words, at)
			}
			checkCutRefused(t, cut, c.words, b.At)
			checkSum(t, added, c.words, impl.LiveSum(c.list, c.words)+b.Size)
			checkAdded(t, cut, c.words, b, added)
		}
	}
}

func TestCutEveryBlock(t *testing.T) {
	for _, c := range liveCases() {
		starts := map[int]bool{}
		for i, b := range c.list {
			starts[b.At] = true
			rest := without(c.list, i)
			checkCut(t, c.list, c.words, b.At, rest, b.Size)
			checkAdded(t, rest, c.words, b, c.list)
		}
		for _, at := range append(span(-2, c.words+4), farNumbers()...) {
			if !starts[at] {
				checkCutRefused(t, c.list, c.words, at)
			}
		}
	}
}

func TestCutEdges(t *testing.T) {
	list := blocks(pairs{{0, 4}, {4, 4}, {10, 6}, {31, 1}})
	checkCut(t, list, 32, 0, blocks(pairs{{4, 4}, {10, 6}, {31, 1}}), 4)
	checkCut(t, list, 32, 4, blocks(pairs{{0, 4}, {10, 6}, {31, 1}}), 4)
	checkCut(t, list, 32, 10, blocks(pairs{{0, 4}, {4, 4}, {31, 1}}), 6)
	checkCut(t, list, 32, 31, blocks(pairs{{0, 4}, {4, 4}, {10, 6}}), 1)
	for _, at := range []int{1, 3, 5, 7, 8, 9, 11, 15, 16, 30, 32, -1, math.MinInt, math.MaxInt, 1 << 32, 1<<32 + 4} {
		checkCutRefused(t, list, 32, at)
	}
	checkCut(t, blocks(pairs{{0, 256}}), heapWords, 0, nil, 256)
	checkCutRefused(t, blocks(pairs{{0, 256}}), heapWords, 1)
	checkCutRefused(t, nil, heapWords, 0)
	checkCutRefused(t, nil, 0, 0)
}

// Cutting all blocks in some order leaves none, and adding them in that order restores the list.
func TestBlocksInAnyOrder(t *testing.T) {
	for _, c := range longCases() {
		for _, order := range someOrders(len(c.list)) {
			left, back := c.list, []impl.Block(nil)
			for _, i := range order {
				b := c.list[i]
				less, size, ok := impl.LiveCut(left, c.words, b.At)
				more, fine := impl.LiveAdd(back, c.words, b)
				if !ok || !fine || size != b.Size || len(less) != len(left)-1 || len(more) != len(back)+1 {
					t.Fatalf("%v of %v: cut %v %d %v, added %v %v", b, c.list, less, size, ok, more, fine)
				}
				left, back = less, more
			}
			if len(left) != 0 || !slices.Equal(back, c.list) {
				t.Errorf("%v in the order %v: left %v, back %v", c.list, order, left, back)
			}
		}
	}
}

// someOrders has the numbers below n forwards, backwards, and mixed by a fixed rule.
func someOrders(n int) [][]int {
	forwards := span(0, n)
	backwards, mixed := slices.Clone(forwards), slices.Clone(forwards)
	slices.Reverse(backwards)
	slices.SortFunc(mixed, func(a int, b int) int { return a*37%257 - b*37%257 })
	return [][]int{forwards, backwards, mixed}
}

func TestFindAtEveryWord(t *testing.T) {
	for _, c := range liveCases() {
		for at, b := range byWord(c.list, c.words) {
			if b.Size > 0 {
				checkFound(t, c.list, c.words, at, b)
			} else {
				checkNotFound(t, c.list, c.words, at)
			}
		}
		for _, at := range farNumbers() {
			if at < 0 || at >= c.words {
				checkNotFound(t, c.list, c.words, at)
			}
		}
	}
}

func TestFindEdges(t *testing.T) {
	list := blocks(pairs{{2, 4}, {6, 1}, {8, 4}, {28, 4}})
	for at, want := range map[int]int{2: 0, 3: 0, 5: 0, 6: 1, 8: 2, 11: 2, 28: 3, 31: 3} {
		checkFound(t, list, 32, at, list[want])
	}
	for _, at := range []int{-1, 0, 1, 7, 12, 27, 32, 33, math.MinInt, math.MaxInt, 1<<32 + 2} {
		checkNotFound(t, list, 32, at)
	}
	checkFound(t, blocks(pairs{{0, 256}}), heapWords, 0, impl.Block{At: 0, Size: 256})
	checkFound(t, blocks(pairs{{0, 256}}), heapWords, 255, impl.Block{At: 0, Size: 256})
	checkNotFound(t, blocks(pairs{{0, 256}}), heapWords, 256)
	checkNotFound(t, nil, 0, 0)
}

func TestFreeEdges(t *testing.T) {
	for _, c := range []struct {
		words int
		list  pairs
		want  pairs
	}{
		{0, nil, nil},
		{1, nil, pairs{{0, 1}}},
		{heapWords, nil, pairs{{0, 256}}},
		{heapWords, pairs{{0, 256}}, nil},
		{heapWords, pairs{{0, 1}}, pairs{{1, 255}}},
		{heapWords, pairs{{255, 1}}, pairs{{0, 255}}},
		{heapWords, pairs{{128, 1}}, pairs{{0, 128}, {129, 127}}},
		{32, pairs{{0, 8}, {8, 4}}, pairs{{12, 20}}},
		{32, pairs{{0, 8}, {9, 4}}, pairs{{8, 1}, {13, 19}}},
		{32, pairs{{4, 4}, {8, 4}, {20, 12}}, pairs{{0, 4}, {12, 8}}},
		{32, pairs{{4, 4}, {8, 4}, {20, 11}}, pairs{{0, 4}, {12, 8}, {31, 1}}},
	} {
		checkFree(t, blocks(c.list), c.words, blocks(c.want))
	}
	checkFree(t, oneWordBlocks(256), heapWords, nil)
	checkFree(t, oneWordBlocks(255), heapWords, blocks(pairs{{255, 1}}))
}

func TestFreeWordsAndWordsInBlocksAreAllWords(t *testing.T) {
	for _, c := range liveCases() {
		free := impl.LiveFree(c.list, c.words)
		row := byWord(c.list, c.words)
		end := -1
		for _, b := range free {
			// A range that touches the one before it would not be maximal.
			if b.Size < 1 || b.At <= end {
				t.Fatalf("LiveFree(%v, %d): got %v", c.list, c.words, free)
			}
			end = b.At + b.Size
			for _, at := range span(b.At, b.Size) {
				if row[at].Size > 0 {
					t.Errorf("LiveFree(%v, %d): got %v, which has the word %d", c.list, c.words, free, at)
				}
				row[at] = b
			}
		}
		for at, b := range row {
			if b.Size == 0 {
				t.Errorf("LiveFree(%v, %d): got %v, without the word %d", c.list, c.words, free, at)
			}
		}
	}
}

func TestSumIsTheNumberOfWordsInBlocks(t *testing.T) {
	for _, c := range liveCases() {
		taken := 0
		for _, b := range byWord(c.list, c.words) {
			if b.Size > 0 {
				taken++
			}
		}
		checkSum(t, c.list, c.words, taken)
		free := impl.LiveFree(c.list, c.words)
		checkSum(t, free, c.words, c.words-taken)
	}
	checkSum(t, nil, 0, 0)
	checkSum(t, blocks(pairs{{0, 256}}), heapWords, 256)
	checkSum(t, oneWordBlocks(256), heapWords, 256)
}

// The free ranges of the free ranges are the blocks, with those that touch made into one.
func TestFreeOfFree(t *testing.T) {
	for _, c := range liveCases() {
		var joined []impl.Block
		for _, b := range c.list {
			if last := len(joined) - 1; last >= 0 && joined[last].At+joined[last].Size == b.At {
				joined[last].Size += b.Size
				continue
			}
			joined = append(joined, b)
		}
		checkFree(t, impl.LiveFree(c.list, c.words), c.words, joined)
	}
}

// sparedBlocks returns the list with marked capacity behind it, and all of its memory.
func sparedBlocks(list []impl.Block) ([]impl.Block, []impl.Block) {
	array := append(slices.Clone(list), slices.Repeat(blocks(pairs{{spareInt, spareInt}}), 6)...)
	return array[:len(list)], array
}

func overwriteBlocks(list []impl.Block) {
	for i := range list[:cap(list)] {
		list[:cap(list)][i].At ^= 0x5555
		list[:cap(list)][i].Size ^= 0x5555
	}
}

func checkNewBlocks(t *testing.T, name string, array []impl.Block, call func() []impl.Block) {
	t.Helper()
	arrayWas := slices.Clone(array)
	first, second := call(), call()
	if !slices.Equal(array, arrayWas) {
		t.Errorf("%s: the argument or its spare capacity is changed", name)
	}
	was := slices.Clone(second)
	overwriteBlocks(first)
	if !slices.Equal(second, was) || !slices.Equal(call(), was) {
		t.Errorf("%s: two results share memory", name)
	}
	if !slices.Equal(array, arrayWas) {
		t.Errorf("%s: writing to the result changes the argument", name)
	}
	overwriteBlocks(array)
	if !slices.Equal(second, was) {
		t.Errorf("%s: writing to the argument changes the result", name)
	}
	copy(array, arrayWas)
}

func TestListsOfBlocksAreNewMemory(t *testing.T) {
	for _, c := range liveCases() {
		list, array := sparedBlocks(c.list)
		for _, b := range firstBlocks(gapsOf(c), 8) {
			checkNewBlocks(t, "LiveAdd", array, func() []impl.Block {
				added, _ := impl.LiveAdd(list, c.words, b)
				return added
			})
		}
		for _, at := range []int{0, len(c.list) / 2, len(c.list) - 1} {
			if at < 0 || at >= len(c.list) {
				continue
			}
			start := c.list[at].At
			checkNewBlocks(t, "LiveCut", array, func() []impl.Block {
				cut, _, _ := impl.LiveCut(list, c.words, start)
				return cut
			})
		}
		checkNewBlocks(t, "LiveFree", array, func() []impl.Block { return impl.LiveFree(list, c.words) })
	}
}

func TestListsOfBlocksAreOnlyRead(t *testing.T) {
	cases := append(longCases(), liveCase{32, blocks(pairs{{8, 4}, {0, 8}})}, liveCase{32, blocks(pairs{{8, 4}, {8, 4}})}, liveCase{-1, blocks(pairs{{0, 1}})})
	for _, c := range cases {
		list, array := sparedBlocks(c.list)
		was := slices.Clone(array)
		impl.LiveOk(list, c.words)
		impl.LiveSum(list, c.words)
		impl.LiveFree(list, c.words)
		for _, at := range []int{-1, 0, 8, 255} {
			impl.LiveFind(list, c.words, at)
			impl.LiveCut(list, c.words, at)
			impl.LiveAdd(list, c.words, impl.Block{At: at, Size: 1})
		}
		if !slices.Equal(array, was) {
			t.Errorf("%v in %d words: the argument or its spare capacity is changed: %v", c.list, c.words, array)
		}
	}
}

// Blocks in the capacity behind a list are not in the list.
func TestSpareCapacityIsNotInTheList(t *testing.T) {
	array := blocks(pairs{{0, 8}, {8, 4}, {20, 4}, {20, 4}})
	list := array[:2]
	checkLiveOk(t, list, 32, true)
	checkNotFound(t, list, 32, 20)
	checkCutRefused(t, list, 32, 20)
	checkFree(t, list, 32, blocks(pairs{{12, 20}}))
	checkSum(t, list, 32, 12)
	checkAdded(t, list, 32, impl.Block{At: 20, Size: 4}, blocks(pairs{{0, 8}, {8, 4}, {20, 4}}))
	checkAdded(t, array[:0], 32, impl.Block{At: 0, Size: 8}, blocks(pairs{{0, 8}}))
}
