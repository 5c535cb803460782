package tests

import (
	"math/big"
	"slices"

	"loop.example/g00709/impl"
)

// The document's warp, written down a second time to compare with: in plain
// numbers, and without the functions of the package.

// readCtl takes a word apart by division, and reports whether it is a control word.
func readCtl(x uint32) (impl.Ctl, bool) {
	c := impl.Ctl{State: int(x / 1048576 % 16), Class: int(x / 65536 % 16), Map: x % 65536, Run: int(x / 16777216)}
	switch c.State {
	case 0, 3:
		return c, c.Class == 0 && c.Map == 0 && c.Run == 0
	case 1:
		return c, c.Class < 5 && c.Map != 0 && c.Map <= sumOfBits(span(0, blocksOfClass[c.Class])) && c.Run == 0
	case 2:
		return c, c.Class == 0 && c.Map == 0 && c.Run >= 2 && c.Run <= 16
	}
	return c, false
}

// roomAt returns where blocks of the class can be allocated in the chunk of a word.
func roomAt(x uint32, class int) []int {
	c, ok := readCtl(x)
	if !ok {
		return nil
	}
	return freeStarts(c, class)
}

// canFree reports whether a block that can be freed starts at the offset.
func canFree(x uint32, off int) bool {
	c, ok := readCtl(x)
	return ok && (c.State == 2 && off == 0 || slices.Contains(takenStarts(c), off))
}

func classFor(size int) int {
	for class, words := range sizeOfClass {
		if size >= 1 && size <= words {
			return class
		}
	}
	return -1
}

func chunksFor(size int) int {
	n := 0
	for 16*n < size {
		n++
	}
	return n
}

func sumAtMost(a int, b int, limit int) bool {
	sum := new(big.Int).Add(big.NewInt(int64(a)), big.NewInt(int64(b)))
	return sum.Cmp(big.NewInt(int64(limit))) <= 0
}

func validReq(r impl.Req) bool {
	if len(r.Vals) != 8 {
		return false
	}
	least, most := slices.Min(r.Vals), slices.Max(r.Vals)
	return r.Kind == 1 && least >= 0 && most <= 256 || r.Kind == 2 && least >= -1 && most <= 4095
}

// askingLanes returns the lanes of a valid request that request something.
func askingLanes(r impl.Req) []int {
	var list []int
	for lane, x := range r.Vals {
		if r.Kind == 1 && x > 0 || r.Kind == 2 && x >= 0 {
			list = append(list, lane)
		}
	}
	return list
}

func validWarp(w impl.Warp, chunks int) bool {
	if chunks < 0 || chunks > 16 || len(w.Vals) != 8 || len(w.Got) != 8 || w.Todo > 255 {
		return false
	}
	if w.Kind == 0 {
		return w.Todo == 0 && w.Phase == 0 && w.Probe == 0 && w.Held == 0 && w.Seen == 0
	}
	r := impl.Req{Kind: w.Kind, Vals: w.Vals}
	if !validReq(r) || w.Todo == 0 {
		return false
	}
	for _, lane := range lanesOf(w.Todo) {
		if !slices.Contains(askingLanes(r), lane) {
			return false
		}
	}
	x := w.Vals[lanesOf(w.Todo)[0]]
	switch {
	case w.Kind == 2:
		return validGive(w, x, chunks)
	case x > 16:
		return validLarge(w, chunksFor(x), chunks)
	}
	return validSmall(w, classFor(x), chunks)
}

func validSmall(w impl.Warp, class int, chunks int) bool {
	search := w.Phase == 0 && w.Probe <= chunks && w.Seen == 0
	claim := w.Phase == 1 && w.Probe < chunks && len(roomAt(w.Seen, class)) > 0
	return w.Held == 0 && w.Probe >= 0 && (search || claim)
}

func validLarge(w impl.Warp, run int, chunks int) bool {
	if w.Phase < 0 || w.Phase > 3 || w.Probe < 0 || w.Probe > chunks || w.Held < 0 || w.Held > run || w.Seen != 0 {
		return false
	}
	if (w.Held > 0 || w.Phase == 1) && !sumAtMost(w.Probe, run, chunks) {
		return false
	}
	return [...]bool{w.Held < run, w.Held < run, w.Held > 0, w.Held == run}[w.Phase]
}

// validGive counts a negative Probe as not valid: it is no chunk.
func validGive(w impl.Warp, at int, chunks int) bool {
	still := w.Probe == 0 && w.Held == 0
	switch w.Phase {
	case 0:
		return still && w.Seen == 0
	case 1:
		return still && at < 16*chunks && canFree(w.Seen, at%16)
	case 2:
		return w.Held > 0 && w.Probe >= 0 && sumAtMost(w.Probe, w.Held, chunks) && w.Seen == 0
	}
	return false
}

// groupFor returns the lanes that a valid warp is processing.
func groupFor(w impl.Warp) []int {
	todo := lanesOf(w.Todo)
	if len(todo) == 0 {
		return nil
	}
	lead := todo[0]
	if w.Kind == 2 || w.Vals[lead] > 16 {
		return []int{lead}
	}
	var group []int
	for _, lane := range todo {
		if classFor(w.Vals[lane]) == classFor(w.Vals[lead]) {
			group = append(group, lane)
		}
	}
	return group
}

// stepped is what a step leaves, and the word that it accesses, or -1.
type stepped struct {
	warp  impl.Warp
	words []uint32
	facts []impl.Fact
	at    int
	id    int
}

// stepModel is a step of a valid warp that is not idle.
func stepModel(w impl.Warp, id int, words []uint32) stepped {
	w.Vals, w.Got = slices.Clone(w.Vals), slices.Clone(w.Got)
	s := stepped{warp: w, words: slices.Clone(words), at: -1, id: id}
	x := w.Vals[groupFor(w)[0]]
	switch {
	case w.Kind == 2:
		s.give(x)
	case x > 16:
		s.takeChunks(chunksFor(x))
	default:
		s.takeBlocks(classFor(x))
	}
	if s.warp.Todo == 0 {
		s.warp.Kind, s.warp.Phase, s.warp.Probe, s.warp.Held, s.warp.Seen = 0, 0, 0, 0, 0
	}
	return s
}

func (s *stepped) tell(kind int, lane int, at int, size int) {
	s.facts = append(s.facts, impl.Fact{Kind: kind, Warp: s.id, Lane: lane, At: at, Size: size})
}

func (s *stepped) end(lane int, got int) {
	s.warp.Got[lane] = got
	s.warp.Todo -= sumOfBits([]int{lane})
}

func (s *stepped) refuseAll(lanes []int) {
	for _, lane := range lanes {
		s.tell(3, lane, -1, s.warp.Vals[lane])
		s.end(lane, -2)
	}
	s.warp.Probe = 0
}

func (s *stepped) takeBlocks(class int) {
	w, n, group := &s.warp, len(s.words), groupFor(s.warp)
	if w.Phase == 0 && w.Probe == n {
		s.refuseAll(group)
		return
	}
	s.at = (5*s.id + 3*class + w.Probe) % n
	if w.Phase == 0 {
		if len(roomAt(s.words[s.at], class)) == 0 {
			w.Probe++
		} else {
			w.Phase, w.Seen = 1, s.words[s.at]
		}
		return
	}
	if s.words[s.at] == w.Seen {
		page, _ := readCtl(w.Seen)
		starts := firstOf(freeStarts(page, class), len(group))
		s.words[s.at] = wordOf(pageOf(class, page.Map+mapOf(class, starts)))
		for i, start := range starts {
			s.tell(1, group[i], 16*s.at+start, sizeOfClass[class])
			s.end(group[i], 16*s.at+start)
		}
		if len(starts) == len(group) {
			w.Probe = 0
		}
	}
	w.Phase, w.Seen = 0, 0
}

func (s *stepped) takeChunks(run int) {
	w, lead := &s.warp, groupFor(s.warp)[0]
	if w.Phase == 0 && w.Probe+run > len(s.words) {
		s.refuseAll([]int{lead})
		return
	}
	switch w.Phase {
	case 0, 1:
		s.at = w.Probe + w.Held
		free := s.words[s.at] == 0
		switch {
		case free && w.Phase == 0:
			w.Phase = 1
		case free:
			s.words[s.at] = 3145728
			w.Held++
			w.Phase = map[bool]int{true: 3, false: 0}[w.Held == run]
		case w.Held > 0:
			w.Phase = 2
		default:
			w.Phase = 0
			w.Probe++
		}
	case 2:
		s.at = w.Probe + w.Held - 1
		s.words[s.at] = 0
		w.Held--
		if w.Held == 0 {
			w.Phase = 0
			w.Probe++
		}
	case 3:
		s.at = w.Probe
		s.words[s.at] = uint32(2097152 + 16777216*run)
		s.tell(1, lead, 16*w.Probe, 16*run)
		s.end(lead, 16*w.Probe)
		w.Phase, w.Probe, w.Held = 0, 0, 0
	}
}

func (s *stepped) give(at int) {
	w, lead := &s.warp, groupFor(s.warp)[0]
	if w.Phase == 2 {
		s.at = w.Probe + w.Held - 1
		s.words[s.at] = 0
		w.Held--
		if w.Held == 0 {
			w.Phase, w.Probe = 0, 0
			s.end(lead, 1)
		}
		return
	}
	if at < 16*len(s.words) {
		s.at = at / 16
	}
	if w.Phase == 1 {
		s.giveSeen(at, lead)
		return
	}
	if s.at < 0 || !canFree(s.words[s.at], at%16) {
		s.tell(4, lead, at, 0)
		s.end(lead, -2)
		return
	}
	w.Phase, w.Seen = 1, s.words[s.at]
}

func (s *stepped) giveSeen(at int, lead int) {
	w := &s.warp
	c, _ := readCtl(w.Seen)
	same := s.words[s.at] == w.Seen
	w.Phase, w.Seen = 0, 0
	switch {
	case !same:
	case c.State == 2:
		s.words[s.at] = 3145728
		s.tell(2, lead, at, 16*c.Run)
		w.Phase, w.Probe, w.Held = 2, s.at, c.Run
	default:
		s.words[s.at] = wordOf(leftOf(c, at%16))
		s.tell(2, lead, at, sizeOfClass[c.Class])
		s.end(lead, 1)
	}
}
