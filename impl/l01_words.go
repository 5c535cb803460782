package impl

import "sync"

const MaxWords = 64

type Mem struct {
	Words []uint32
}

func MemNew(n int) (Mem, bool) {
	return MemGrow(Mem{}, n)
}

func MemOk(m Mem) bool {
	return len(m.Words) <= MaxWords
}

func MemLoad(m Mem, at int) (uint32, bool) {
	if !hasWord(m, at) {
		return 0, false
	}
	return copyToBank(m).load(at), true
}

func MemStore(m Mem, at int, x uint32) (Mem, bool) {
	if !hasWord(m, at) {
		return Mem{}, false
	}
	b := copyToBank(m)
	b.store(at, x)
	return Mem{Words: b.words}, true
}

func MemCas(m Mem, at int, was uint32, x uint32) (Mem, bool, bool) {
	if !hasWord(m, at) {
		return Mem{}, false, false
	}
	b := copyToBank(m)
	done := b.cas(at, was, x)
	return Mem{Words: b.words}, done, true
}

func MemAdd(m Mem, at int, x uint32) (Mem, uint32, bool) {
	if !hasWord(m, at) {
		return Mem{}, 0, false
	}
	b := copyToBank(m)
	old := b.add(at, x)
	return Mem{Words: b.words}, old, true
}

func MemOr(m Mem, at int, x uint32) (Mem, uint32, bool) {
	if !hasWord(m, at) {
		return Mem{}, 0, false
	}
	b := copyToBank(m)
	old := b.or(at, x)
	return Mem{Words: b.words}, old, true
}

func MemAnd(m Mem, at int, x uint32) (Mem, uint32, bool) {
	if !hasWord(m, at) {
		return Mem{}, 0, false
	}
	b := copyToBank(m)
	old := b.and(at, x)
	return Mem{Words: b.words}, old, true
}

func MemGrow(m Mem, n int) (Mem, bool) {
	// n is compared with the words that are left: its sum with the length could overflow.
	if !MemOk(m) || n < 0 || n > MaxWords-len(m.Words) {
		return Mem{}, false
	}
	b := copyToBank(m)
	b.grow(n)
	return Mem{Words: b.words}, true
}

func hasWord(m Mem, at int) bool {
	return MemOk(m) && at >= 0 && at < len(m.Words)
}

// bank is what one operation works on: a copy of the words, so that the
// argument stays as it was and the result is new memory.
type bank struct {
	lock  sync.Mutex
	words []uint32
}

func copyToBank(m Mem) *bank {
	words := make([]uint32, len(m.Words))
	copy(words, m.Words)
	return &bank{words: words}
}

func (b *bank) load(at int) uint32 {
	b.lock.Lock()
	defer b.lock.Unlock()
	return b.words[at]
}

func (b *bank) store(at int, x uint32) {
	b.lock.Lock()
	defer b.lock.Unlock()
	b.words[at] = x
}

func (b *bank) cas(at int, was uint32, x uint32) bool {
	b.lock.Lock()
	defer b.lock.Unlock()
	if b.words[at] != was {
		return false
	}
	b.words[at] = x
	return true
}

func (b *bank) add(at int, x uint32) uint32 {
	b.lock.Lock()
	defer b.lock.Unlock()
	old := b.words[at]
	// The sum has up to 33 bits; the conversion is what makes it modulo 2^32.
	b.words[at] = uint32(uint64(old) + uint64(x))
	return old
}

func (b *bank) or(at int, x uint32) uint32 {
	b.lock.Lock()
	defer b.lock.Unlock()
	old := b.words[at]
	b.words[at] = old | x
	return old
}

func (b *bank) and(at int, x uint32) uint32 {
	b.lock.Lock()
	defer b.lock.Unlock()
	old := b.words[at]
	b.words[at] = old & x
	return old
}

func (b *bank) grow(n int) {
	b.lock.Lock()
	defer b.lock.Unlock()
	b.words = append(b.words, make([]uint32, n)...)
}
