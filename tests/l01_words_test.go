package tests

import (
	"math"
	"slices"
	"testing"

	"loop.example/g00709/impl"
)

// Promise 3, memory operations: each changes only its word, and a
// compare-and-swap succeeds only if the word has the expected value.

const (
	top   = math.MaxUint32
	spare = 0xabcd1234 // fills the capacity behind a memory, where nothing may be read or written
)

// memOp is one operation on the word at index at, in a form common to all of them.
type memOp struct {
	name string
	run  func(m impl.Mem, at int) memOut
	want func(word uint32) (after uint32, old uint32, done bool)
}

// memOut holds all results of an operation; those that an operation does not have are zero.
type memOut struct {
	mem  impl.Mem
	old  uint32
	done bool
	ok   bool
}

func loadOp() memOp {
	return memOp{
		name: "MemLoad",
		run: func(m impl.Mem, at int) memOut {
			// A load returns no memory: its argument, which must be unchanged, stands in for one.
			x, ok := impl.MemLoad(m, at)
			if !ok {
				return memOut{old: x}
			}
			return memOut{mem: impl.Mem{Words: slices.Clone(m.Words)}, old: x, ok: ok}
		},
		want: func(word uint32) (uint32, uint32, bool) { return word, word, false },
	}
}

func storeOp(x uint32) memOp {
	return memOp{
		name: "MemStore",
		run: func(m impl.Mem, at int) memOut {
			mem, ok := impl.MemStore(m, at, x)
			return memOut{mem: mem, ok: ok}
		},
		want: func(word uint32) (uint32, uint32, bool) { return x, 0, false },
	}
}

func casOp(was uint32, x uint32) memOp {
	return memOp{
		name: "MemCas",
		run: func(m impl.Mem, at int) memOut {
			mem, done, ok := impl.MemCas(m, at, was, x)
			return memOut{mem: mem, done: done, ok: ok}
		},
		want: func(word uint32) (uint32, uint32, bool) {
			if word == was {
				return x, 0, true
			}
			return word, 0, false
		},
	}
}

func addOp(x uint32) memOp {
	return memOp{
		name: "MemAdd",
		run: func(m impl.Mem, at int) memOut {
			mem, old, ok := impl.MemAdd(m, at, x)
			return memOut{mem: mem, old: old, ok: ok}
		},
		want: func(word uint32) (uint32, uint32, bool) {
			return uint32((uint64(word) + uint64(x)) % (1 << 32)), word, false
		},
	}
}

func orOp(x uint32) memOp {
	return memOp{
		name: "MemOr",
		run: func(m impl.Mem, at int) memOut {
			mem, old, ok := impl.MemOr(m, at, x)
			return memOut{mem: mem, old: old, ok: ok}
		},
		want: func(word uint32) (uint32, uint32, bool) { return word | x, word, false },
	}
}

func andOp(x uint32) memOp {
	return memOp{
		name: "MemAnd",
		run: func(m impl.Mem, at int) memOut {
			mem, old, ok := impl.MemAnd(m, at, x)
			return memOut{mem: mem, old: old, ok: ok}
		},
		want: func(word uint32) (uint32, uint32, bool) { return word & x, word, false },
	}
}

// edgeWords are words near the ends of 32 bits, of 31 bits and of 16 bits.
func edgeWords() []uint32 {
	return []uint32{0, 1, 2, 12, 0xffff, 0x10000, 0x7fffffff, 0x80000000, 0xfffffffe, top}
}

func wordOps() []memOp {
	list := []memOp{loadOp()}
	for _, x := range edgeWords() {
		list = append(list, storeOp(x), addOp(x), orOp(x), andOp(x))
		for _, was := range edgeWords() {
			list = append(list, casOp(was, x))
		}
	}
	return list
}

// spared returns a memory with these words and with marked capacity behind
// them, and the whole array, in which a test sees any write.
func spared(words []uint32) (impl.Mem, []uint32) {
	array := append(slices.Clone(words), spare, spare, spare, spare)
	return impl.Mem{Words: array[:len(words)]}, array
}

// numbered returns n words that differ from each other and from edgeWords.
func numbered(n int) []uint32 {
	words := make([]uint32, n)
	for i := range words {
		words[i] = 0x55000000 + uint32(i)
	}
	return words
}

// overwrite writes every element of a slice and of the capacity behind it.
func overwrite(words []uint32) {
	for i := range words[:cap(words)] {
		words[:cap(words)][i] ^= top
	}
}

func checkNoSharing(t *testing.T, name string, array []uint32, result impl.Mem) {
	t.Helper()
	arrayWas := slices.Clone(array)
	overwrite(result.Words)
	if !slices.Equal(array, arrayWas) {
		t.Errorf("%s: writing to the result changes the argument", name)
	}
	resultWas := slices.Clone(result.Words)
	overwrite(array)
	if !slices.Equal(result.Words, resultWas) {
		t.Errorf("%s: writing to the argument changes the result", name)
	}
}

func checkZero(t *testing.T, name string, out memOut) {
	t.Helper()
	if out.ok || out.done || out.old != 0 || len(out.mem.Words) != 0 {
		t.Errorf("%s: got %v, want zero values and false", name, out)
	}
}

func checkWordOp(t *testing.T, op memOp, words []uint32, at int) {
	t.Helper()
	m, array := spared(words)
	arrayWas := slices.Clone(array)
	out := op.run(m, at)
	if !slices.Equal(array, arrayWas) {
		t.Errorf("%s at %d: the argument or its spare capacity is changed", op.name, at)
	}
	after, old, done := op.want(words[at])
	want := slices.Clone(words)
	want[at] = after
	if !out.ok || out.done != done || out.old != old || !slices.Equal(out.mem.Words, want) {
		t.Errorf("%s at %d of %v: got %v, want %v %v %v true", op.name, at, words, out, want, old, done)
	}
	checkNoSharing(t, op.name, array, out.mem)
}

func TestWordOperationsOnEdgeWords(t *testing.T) {
	for _, op := range wordOps() {
		for _, x := range edgeWords() {
			checkWordOp(t, op, []uint32{x}, 0)
			checkWordOp(t, op, []uint32{7, x, top}, 1)
		}
	}
}

func TestWordOperationsAtEveryIndex(t *testing.T) {
	ops := []memOp{loadOp(), storeOp(9), addOp(0xaa000001), orOp(0x00ffff00), andOp(0x0000000f)}
	for _, n := range []int{1, 2, 16, impl.MaxWords - 1, impl.MaxWords} {
		words := numbered(n)
		for at := range n {
			for _, op := range ops {
				checkWordOp(t, op, words, at)
			}
			checkWordOp(t, casOp(words[at], 3), words, at)
			checkWordOp(t, casOp(words[at]+1, 3), words, at)
		}
	}
}

func TestWordOperationsWithoutSuchAWord(t *testing.T) {
	ops := []memOp{loadOp(), storeOp(5), casOp(0, 5), casOp(spare, 5), addOp(5), orOp(5), andOp(5)}
	for _, op := range ops {
		for _, n := range []int{0, 1, 3, impl.MaxWords} {
			for _, at := range []int{math.MinInt, -n - 1, -1, n, n + 1, impl.MaxWords, 1 << 32, math.MaxInt} {
				m, array := spared(make([]uint32, n))
				arrayWas := slices.Clone(array)
				checkZero(t, op.name, op.run(m, at))
				if !slices.Equal(array, arrayWas) {
					t.Errorf("%s at %d of %d words: the argument is changed", op.name, at, n)
				}
			}
		}
		checkZero(t, op.name, op.run(impl.Mem{}, 0))
	}
}

func TestWordOperationsOnAMemoryThatIsNotValid(t *testing.T) {
	ops := []memOp{loadOp(), storeOp(5), casOp(0x55000000, 5), addOp(5), orOp(5), andOp(top)}
	for _, op := range ops {
		for _, n := range []int{impl.MaxWords + 1, 200} {
			for _, at := range []int{-1, 0, impl.MaxWords - 1, impl.MaxWords, n} {
				m, array := spared(numbered(n))
				arrayWas := slices.Clone(array)
				checkZero(t, op.name, op.run(m, at))
				if !slices.Equal(array, arrayWas) {
					t.Errorf("%s at %d of %d words: the argument is changed", op.name, at, n)
				}
			}
		}
	}
}

func TestAddPasses32Bits(t *testing.T) {
	cases := []struct{ word, x, want uint32 }{
		{top, 2, 1}, // the document's example
		{top, 1, 0},
		{1, top, 0},
		{0x80000000, 0x80000000, 0},
		{top, top, 0xfffffffe},
		{0xfffffffe, 1, top},
	}
	for _, c := range cases {
		m, old, ok := impl.MemAdd(impl.Mem{Words: []uint32{8, c.word, 8}}, 1, c.x)
		if !ok || old != c.word || !slices.Equal(m.Words, []uint32{8, c.want, 8}) {
			t.Errorf("%d + %d: got %v %d %v, want %d", c.word, c.x, m, old, ok, c.want)
		}
	}
}

func TestCompareAndSwap(t *testing.T) {
	cases := []struct {
		word, was, x, want uint32
		done               bool
	}{
		{12, 12, 13, 13, true},
		{12, 1, 13, 12, false},
		{12, 13, 13, 12, false}, // the word is neither the expected value nor the new one
		{12, 12, 12, 12, true},  // succeeds although nothing changes
		{12, 1, 12, 12, false},  // fails although the word is the new value
		{0, 0, top, top, true},
		{0, top, 1, 0, false},
		{top, top, 0, 0, true},
		{0x80000001, 1, 5, 0x80000001, false}, // all 32 bits are compared
	}
	for _, c := range cases {
		m, done, ok := impl.MemCas(impl.Mem{Words: []uint32{c.was, c.word, c.was}}, 1, c.was, c.x)
		if !ok || done != c.done || !slices.Equal(m.Words, []uint32{c.was, c.want, c.was}) {
			t.Errorf("%v: got %v %v %v", c, m, done, ok)
		}
	}
}

func TestNewMemory(t *testing.T) {
	for n := 0; n <= impl.MaxWords; n++ {
		m, ok := impl.MemNew(n)
		if !ok || !impl.MemOk(m) || !slices.Equal(m.Words, make([]uint32, n)) {
			t.Errorf("MemNew(%d): got %v %v", n, m, ok)
		}
		overwrite(m.Words)
		again, _ := impl.MemNew(n)
		if !slices.Equal(again.Words, make([]uint32, n)) {
			t.Errorf("MemNew(%d): two memories share words", n)
		}
	}
	for _, n := range []int{math.MinInt, -impl.MaxWords, -1, impl.MaxWords + 1, 1 << 32, math.MaxInt} {
		m, ok := impl.MemNew(n)
		checkZero(t, "MemNew", memOut{mem: m, ok: ok})
	}
}

func TestValidMemory(t *testing.T) {
	if !impl.MemOk(impl.Mem{}) || !impl.MemOk(impl.Mem{Words: []uint32{}}) {
		t.Error("a memory of 0 words is valid")
	}
	for n := range 4 * impl.MaxWords {
		m, array := spared(numbered(n))
		arrayWas := slices.Clone(array)
		if impl.MemOk(m) != (n <= impl.MaxWords) {
			t.Errorf("MemOk of %d words: got %v", n, impl.MemOk(m))
		}
		if !slices.Equal(array, arrayWas) {
			t.Errorf("MemOk of %d words: the argument is changed", n)
		}
	}
}

func TestGrowMemory(t *testing.T) {
	for _, size := range []int{0, 1, 5, impl.MaxWords - 1, impl.MaxWords} {
		for n := 0; size+n <= impl.MaxWords; n++ {
			m, array := spared(numbered(size))
			arrayWas := slices.Clone(array)
			g, ok := impl.MemGrow(m, n)
			if !ok || !slices.Equal(g.Words, append(numbered(size), make([]uint32, n)...)) {
				t.Errorf("%d words grown by %d: got %v %v", size, n, g, ok)
			}
			if !slices.Equal(array, arrayWas) {
				t.Errorf("%d words grown by %d: the argument or its spare capacity is changed", size, n)
			}
			checkNoSharing(t, "MemGrow", array, g)
		}
	}
}

func TestGrowMemoryRefused(t *testing.T) {
	for _, size := range []int{0, 1, impl.MaxWords - 1, impl.MaxWords} {
		left := impl.MaxWords - size
		for _, n := range []int{math.MinInt, -size - 1, -1, left + 1, left + 2, 1 << 32, math.MaxInt} {
			checkGrowRefused(t, size, n)
		}
	}
	for _, size := range []int{impl.MaxWords + 1, 200} {
		for _, n := range []int{math.MinInt, impl.MaxWords - size, -1, 0, 1, math.MaxInt} {
			checkGrowRefused(t, size, n)
		}
	}
}

func checkGrowRefused(t *testing.T, size int, n int) {
	t.Helper()
	m, array := spared(numbered(size))
	arrayWas := slices.Clone(array)
	g, ok := impl.MemGrow(m, n)
	checkZero(t, "MemGrow", memOut{mem: g, ok: ok})
	if !slices.Equal(array, arrayWas) {
		t.Errorf("%d words grown by %d: the argument is changed", size, n)
	}
}

func TestOperationsKeepNoState(t *testing.T) {
	m := impl.Mem{Words: numbered(3)}
	for _, op := range wordOps() {
		first := op.run(m, 1)
		second := op.run(m, 1)
		if first.old != second.old || first.done != second.done || !slices.Equal(first.mem.Words, second.mem.Words) {
			t.Errorf("%s: the second call returned %v, the first one %v", op.name, second, first)
		}
		checkNoSharing(t, op.name, first.mem.Words, second.mem)
	}
}
