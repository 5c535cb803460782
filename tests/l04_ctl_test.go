package tests

import (
	"math"
	"slices"
	"testing"

	"loop.example/g00709/impl"
)

// Promise 6, control words: the blocks of a class fill a chunk, a size has the
// smallest class with enough room, and a control word is recovered from its
// encoding.

// The document's numbers, by class.
var (
	sizeOfClass   = [...]int{1, 2, 4, 8, 16}
	blocksOfClass = [...]int{16, 8, 4, 2, 1}
)

// badClasses has the neighbours of the classes, shift counts that are too
// large, and numbers that are a class in their low bits only.
func badClasses() []int {
	return []int{
		-1, impl.Classes, -2, impl.Classes + 1, -5, 8, 15, 16, 31, 32, 63, 64, 65, 256, 1 << 16,
		1 << 32, 1<<32 + 3, -1 << 32, -1<<32 + 3, math.MinInt32, math.MaxInt32,
		math.MinInt, math.MinInt + 3, math.MaxInt - 1, math.MaxInt,
	}
}

// farSizes has sizes far outside of every range, and some that are inside in their low bits only.
func farSizes() []int {
	return []int{
		math.MinInt, math.MinInt + 1, math.MinInt + 5, math.MinInt + 33, math.MinInt32, -1 << 32, -1<<32 + 5, -1<<32 + 33,
		-256, -33, -17, -16, 272, 512, 1000, 4096, 1 << 31, 1 << 32, 1<<32 + 5, 1<<32 + 33, 1<<40 + 16,
		math.MaxInt - 16, math.MaxInt - 15, math.MaxInt - 14, math.MaxInt - 1, math.MaxInt,
	}
}

// wordOf is the document's formula, in products and not in the shifts that it is to check.
func wordOf(c impl.Ctl) uint32 {
	return uint32(int(c.Map) + 65536*c.Class + 1048576*c.State + 16777216*c.Run)
}

// validCtls has every valid control state, with its word.
func validCtls() map[impl.Ctl]uint32 {
	all := map[impl.Ctl]uint32{}
	add := func(c impl.Ctl) { all[c] = wordOf(c) }
	add(impl.Ctl{State: 0})
	add(impl.Ctl{State: 3})
	for run := 2; run <= 16; run++ {
		add(impl.Ctl{State: 2, Run: run})
	}
	for class, blocks := range blocksOfClass {
		for taken := uint32(1); taken <= sumOfBits(span(0, blocks)); taken++ {
			add(impl.Ctl{State: 1, Class: class, Map: taken})
		}
	}
	return all
}

func checkCtl(t *testing.T, c impl.Ctl, word uint32) {
	t.Helper()
	if !impl.CtlOk(c) {
		t.Errorf("CtlOk(%+v): got false", c)
	}
	if x, ok := impl.CtlPack(c); x != word || !ok {
		t.Errorf("CtlPack(%+v): got %d %v, want %d true", c, x, ok, word)
	}
	if got, ok := impl.CtlRead(word); got != c || !ok {
		t.Errorf("CtlRead(%d): got %+v %v, want %+v true", word, got, ok, c)
	}
}

func checkCtlRefused(t *testing.T, c impl.Ctl) {
	t.Helper()
	if impl.CtlOk(c) {
		t.Errorf("CtlOk(%+v): got true", c)
	}
	if x, ok := impl.CtlPack(c); x != 0 || ok {
		t.Errorf("CtlPack(%+v): got %d %v, want 0 false", c, x, ok)
	}
}

func checkWordRefused(t *testing.T, x uint32) {
	t.Helper()
	if c, ok := impl.CtlRead(x); c != (impl.Ctl{}) || ok {
		t.Errorf("CtlRead(%d): got %+v %v, want the zero value and false", x, c, ok)
	}
}

func TestCtlConstants(t *testing.T) {
	got := []int{impl.ChunkWords, impl.MaxChunks, impl.Classes, impl.StFree, impl.StPage, impl.StHead, impl.StHeld}
	if !slices.Equal(got, []int{16, 16, 5, 0, 1, 2, 3}) {
		t.Errorf("got %v", got)
	}
}

func TestCtlExamples(t *testing.T) {
	if impl.ClassOf(5) != 3 || impl.ChunksFor(33) != 3 {
		t.Errorf("got %d %d, want 3 3", impl.ClassOf(5), impl.ChunksFor(33))
	}
	checkCtl(t, impl.Ctl{State: impl.StPage, Class: 3, Map: 3}, 1245187)
}

func TestSizesOfClasses(t *testing.T) {
	for class := range impl.Classes {
		if size := impl.ClassSize(class); size != sizeOfClass[class] {
			t.Errorf("ClassSize(%d): got %d, want %d", class, size, sizeOfClass[class])
		}
		if n := impl.PerPage(class); n != blocksOfClass[class] {
			t.Errorf("PerPage(%d): got %d, want %d", class, n, blocksOfClass[class])
		}
	}
	for _, class := range badClasses() {
		if size, n := impl.ClassSize(class), impl.PerPage(class); size != 0 || n != 0 {
			t.Errorf("the class %d: got %d words and %d blocks, want 0 and 0", class, size, n)
		}
	}
}

func TestBlocksOfAClassFillAChunk(t *testing.T) {
	for class := range impl.Classes {
		var covered []int
		for block := range impl.PerPage(class) {
			size := impl.ClassSize(class)
			covered = append(covered, span(block*size, size)...)
		}
		if !slices.Equal(covered, span(0, impl.ChunkWords)) {
			t.Errorf("class %d: the blocks cover the words %v", class, covered)
		}
	}
}

func TestClassOfEverySize(t *testing.T) {
	want := []int{0, 1, 2, 2, 3, 3, 3, 3, 4, 4, 4, 4, 4, 4, 4, 4} // of the sizes from 1
	for size := -40; size <= 600; size++ {
		class := -1
		if size >= 1 && size <= 16 {
			class = want[size-1]
		}
		if got := impl.ClassOf(size); got != class {
			t.Errorf("ClassOf(%d): got %d, want %d", size, got, class)
		}
	}
	for _, size := range farSizes() {
		if got := impl.ClassOf(size); got != -1 {
			t.Errorf("ClassOf(%d): got %d, want -1", size, got)
		}
	}
}

func TestClassIsTheSmallestWithEnoughRoom(t *testing.T) {
	for size := 1; size <= impl.ChunkWords; size++ {
		class := impl.ClassOf(size)
		if impl.ClassSize(class) < size {
			t.Errorf("size %d: the class %d has blocks of %d words", size, class, impl.ClassSize(class))
		}
		for smaller := range class {
			if impl.ClassSize(smaller) >= size {
				t.Errorf("size %d: got class %d, but class %d has room", size, class, smaller)
			}
		}
	}
}

func TestSizesAroundEachClassSize(t *testing.T) {
	for class, size := range sizeOfClass {
		if got := impl.ClassOf(size); got != class {
			t.Errorf("ClassOf(%d): got %d, want %d", size, got, class)
		}
		next := class + 1
		if next == impl.Classes {
			next = -1
		}
		if got := impl.ClassOf(size + 1); got != next {
			t.Errorf("ClassOf(%d): got %d, want %d", size+1, got, next)
		}
	}
	if impl.ClassOf(0) != -1 || impl.ClassOf(-1) != -1 {
		t.Errorf("ClassOf(0) is %d and ClassOf(-1) is %d, want -1", impl.ClassOf(0), impl.ClassOf(-1))
	}
}

func TestChunksForEverySize(t *testing.T) {
	for size := -40; size <= 600; size++ {
		want := 0
		if size >= 17 && size <= 256 {
			for room := 0; room < size; room += 16 {
				want++
			}
		}
		if got := impl.ChunksFor(size); got != want {
			t.Errorf("ChunksFor(%d): got %d, want %d", size, got, want)
		}
	}
	for _, size := range farSizes() {
		if got := impl.ChunksFor(size); got != 0 {
			t.Errorf("ChunksFor(%d): got %d, want 0", size, got)
		}
	}
}

func TestSizesAroundEachNumberOfChunks(t *testing.T) {
	for n := 2; n <= impl.MaxChunks; n++ {
		words := n * impl.ChunkWords
		next := n + 1
		if n == impl.MaxChunks {
			next = 0
		}
		got := []int{impl.ChunksFor(words - impl.ChunkWords + 1), impl.ChunksFor(words - 1), impl.ChunksFor(words), impl.ChunksFor(words + 1)}
		if !slices.Equal(got, []int{n, n, n, next}) {
			t.Errorf("around %d words: got %v", words, got)
		}
	}
	got := []int{impl.ChunksFor(0), impl.ChunksFor(1), impl.ChunksFor(15), impl.ChunksFor(16), impl.ChunksFor(17), impl.ChunksFor(256), impl.ChunksFor(257)}
	if !slices.Equal(got, []int{0, 0, 0, 0, 2, 16, 0}) {
		t.Errorf("at the ends of the range: got %v", got)
	}
}

func TestEverySizeHasAClassOrChunks(t *testing.T) {
	for size := 1; size <= impl.ChunkWords*impl.MaxChunks; size++ {
		if (impl.ClassOf(size) >= 0) == (impl.ChunksFor(size) > 0) {
			t.Errorf("size %d: class %d and %d chunks", size, impl.ClassOf(size), impl.ChunksFor(size))
		}
	}
}

func TestCtlEdges(t *testing.T) {
	cases := []struct {
		c    impl.Ctl
		word uint32
	}{
		{impl.Ctl{}, 0},
		{impl.Ctl{State: impl.StHeld}, 3145728},
		{impl.Ctl{State: impl.StHead, Run: 2}, 35651584},
		{impl.Ctl{State: impl.StHead, Run: 15}, 253755392},
		{impl.Ctl{State: impl.StHead, Run: 16}, 270532608},
		{impl.Ctl{State: impl.StPage, Class: 0, Map: 1}, 1048577},
		{impl.Ctl{State: impl.StPage, Class: 0, Map: 32768}, 1081344},
		{impl.Ctl{State: impl.StPage, Class: 0, Map: 65535}, 1114111},
		{impl.Ctl{State: impl.StPage, Class: 1, Map: 1}, 1114113},
		{impl.Ctl{State: impl.StPage, Class: 1, Map: 255}, 1114367},
		{impl.Ctl{State: impl.StPage, Class: 2, Map: 1}, 1179649},
		{impl.Ctl{State: impl.StPage, Class: 2, Map: 15}, 1179663},
		{impl.Ctl{State: impl.StPage, Class: 3, Map: 1}, 1245185},
		{impl.Ctl{State: impl.StPage, Class: 3, Map: 2}, 1245186},
		{impl.Ctl{State: impl.StPage, Class: 4, Map: 1}, 1310721},
	}
	for _, c := range cases {
		checkCtl(t, c.c, c.word)
	}
}

func TestCtlIsRecoveredFromItsWord(t *testing.T) {
	all := validCtls()
	seen := map[uint32]impl.Ctl{}
	for c, word := range all {
		checkCtl(t, c, word)
		x, _ := impl.CtlPack(c)
		if other, twice := seen[x]; twice {
			t.Errorf("%+v and %+v have the same word %d", c, other, x)
		}
		seen[x] = c
	}
	for x := range seen {
		c, ok := impl.CtlRead(x)
		if again, packed := impl.CtlPack(c); again != x || !ok || !packed {
			t.Errorf("CtlPack of CtlRead(%d): got %d %v %v", x, again, ok, packed)
		}
	}
}

func TestStatesRefused(t *testing.T) {
	states := []int{
		-1, 4, -2, -3, 5, 7, 8, 15, 16, 17, 18, 19, 4096, 4097,
		1 << 32, 1<<32 + 1, 1<<32 + 2, 1<<32 + 3, -1 << 32, -1<<32 + 1,
		math.MinInt, math.MinInt + 1, math.MinInt + 2, math.MinInt + 3, math.MaxInt - 1, math.MaxInt,
	}
	for _, state := range states {
		checkCtlRefused(t, impl.Ctl{State: state})
		checkCtlRefused(t, impl.Ctl{State: state, Class: 3, Map: 3})
		checkCtlRefused(t, impl.Ctl{State: state, Run: 2})
	}
}

func TestFreeAndHeldHaveNoOtherField(t *testing.T) {
	for _, state := range []int{impl.StFree, impl.StHeld} {
		for _, n := range []int{-1, 1, 2, 3, 4, 5, 16, 256, 1 << 32, -1 << 32, math.MinInt, math.MaxInt} {
			checkCtlRefused(t, impl.Ctl{State: state, Class: n})
			checkCtlRefused(t, impl.Ctl{State: state, Run: n})
			checkCtlRefused(t, impl.Ctl{State: state, Class: 3, Map: 3, Run: n})
		}
		for at := range 32 {
			checkCtlRefused(t, impl.Ctl{State: state, Map: sumOfBits([]int{at})})
		}
		checkCtlRefused(t, impl.Ctl{State: state, Map: top})
		checkCtlRefused(t, impl.Ctl{State: state, Class: 3, Map: 3})
	}
}

func TestMapBeyondTheClass(t *testing.T) {
	for class, blocks := range blocksOfClass {
		checkCtlRefused(t, impl.Ctl{State: impl.StPage, Class: class, Map: 0})
		checkCtlRefused(t, impl.Ctl{State: impl.StPage, Class: class, Map: top})
		all := sumOfBits(span(0, blocks))
		checkCtl(t, impl.Ctl{State: impl.StPage, Class: class, Map: all}, all+65536*uint32(class)+1048576)
		for at := range 32 {
			bit := sumOfBits([]int{at})
			if at < blocks {
				checkCtl(t, impl.Ctl{State: impl.StPage, Class: class, Map: bit}, bit+65536*uint32(class)+1048576)
				continue
			}
			for _, taken := range []uint32{bit, bit + 1, bit + all, top - all, top - 1} {
				checkCtlRefused(t, impl.Ctl{State: impl.StPage, Class: class, Map: taken})
				if taken < 65536 {
					checkWordRefused(t, taken+65536*uint32(class)+1048576)
				}
			}
		}
	}
}

func TestClassAndRunOfPagesRefused(t *testing.T) {
	for _, class := range badClasses() {
		for _, taken := range []uint32{0, 1, 2, 3, 255, 65535, 65536, top} {
			checkCtlRefused(t, impl.Ctl{State: impl.StPage, Class: class, Map: taken})
		}
	}
	for class := range impl.Classes {
		for _, run := range []int{-1, 1, 2, 16, 17, 255, 256, 1 << 32, -1 << 32, math.MinInt, math.MaxInt} {
			checkCtlRefused(t, impl.Ctl{State: impl.StPage, Class: class, Map: 1, Run: run})
		}
	}
}

func TestHeadsRefused(t *testing.T) {
	runs := []int{
		-2, -1, 0, 1, 17, 18, 32, 255, 256, 258, 1 << 32, 1<<32 + 2, -1 << 32, -1<<32 + 2,
		math.MinInt, math.MinInt + 2, math.MaxInt - 1, math.MaxInt,
	}
	for _, run := range runs {
		checkCtlRefused(t, impl.Ctl{State: impl.StHead, Run: run})
	}
	for run := 2; run <= impl.MaxChunks; run++ {
		for _, class := range append(badClasses(), 1, 2, 3, 4) {
			checkCtlRefused(t, impl.Ctl{State: impl.StHead, Class: class, Run: run})
		}
		for at := range 32 {
			checkCtlRefused(t, impl.Ctl{State: impl.StHead, Map: sumOfBits([]int{at}), Run: run})
		}
	}
}

func TestEveryCombinationOfEdgeFields(t *testing.T) {
	all := validCtls()
	far := []int{math.MinInt, -1 << 32, -2, -1, 0, 1, 2, 3, 4, 5, 15, 16, 17, 255, 256, 1 << 32, 1<<32 + 1, 1<<32 + 2, math.MaxInt}
	maps := []uint32{0, 1, 2, 3, 4, 15, 16, 128, 255, 256, 32768, 65535, 65536, 65537, 1 << 20, 1 << 31, top}
	for _, state := range far {
		for _, class := range far {
			for _, taken := range maps {
				for _, run := range far {
					c := impl.Ctl{State: state, Class: class, Map: taken, Run: run}
					if word, ok := all[c]; ok {
						checkCtl(t, c, word)
					} else {
						checkCtlRefused(t, c)
					}
				}
			}
		}
	}
}

// validWords has the control state of every word that has one.
func validWords() map[uint32]impl.Ctl {
	words := map[uint32]impl.Ctl{}
	for c, word := range validCtls() {
		words[word] = c
	}
	return words
}

func checkRead(t *testing.T, words map[uint32]impl.Ctl, x uint32) {
	t.Helper()
	want, valid := words[x]
	if c, ok := impl.CtlRead(x); c != want || ok != valid {
		t.Errorf("CtlRead(%d): got %+v %v, want %+v %v", x, c, ok, want, valid)
	}
}

// badWords has words that no control state has, for each reason.
func badWords() []uint32 {
	return []uint32{
		1, 2, 65535, // free, with a map
		65536, 5 * 65536, // free, with a class
		16777216, 33554432, // free, with a run
		1048576, 1048576 + 3*65536, // a page without blocks
		1048576 + 3*65536 + 4, 1048576 + 3*65536 + 7, // a map beyond the class
		1048576 + 4*65536 + 2, 1048576 + 4*65536 + 3,
		1048576 + 5*65536 + 1, 1048576 + 15*65536 + 1, // a class that is none
		1048577 + 16777216, 1048577 + 33554432, // a page with a run
		2097152, 2097152 + 16777216, 2097152 + 17*16777216, 2097152 + 255*16777216, // a head with a run out of range
		35651584 + 1, 35651584 + 32768, 35651584 + 65536, // a head with a map or a class
		3145728 + 1, 3145728 + 65536, 3145728 + 16777216, 3145728 + 33554432, // held, with a map, a class or a run
		4 * 1048576, 15 * 1048576, 5*1048576 + 1, 6*1048576 + 33554432, 7 * 1048576, // a state that is none
		0x80000000, 0x80000000 + 35651584, 0x40000000 + 1048577, 0x20000000 + 35651584, // a bit beyond every run
		top, top - 1, 0xffff0000, 0xfffffff0,
	}
}

func TestWordsRefused(t *testing.T) {
	for _, x := range badWords() {
		checkWordRefused(t, x)
	}
}

func TestWordsBesideValidOnes(t *testing.T) {
	words := validWords()
	for word := range words {
		for at := range 32 {
			checkRead(t, words, word^(1<<at))
		}
		checkRead(t, words, word-1)
		checkRead(t, words, word+1)
	}
}

func TestWordsOfAllUpperFields(t *testing.T) {
	words := validWords()
	for upper := range uint32(65536) {
		for _, taken := range []uint32{0, 1, 2, 3, 4, 15, 16, 255, 256, 32768, 65535} {
			checkRead(t, words, upper*65536+taken)
		}
	}
	for _, x := range bitWords() {
		checkRead(t, words, x)
	}
}
