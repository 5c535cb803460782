package tests

import (
	"fmt"
	"slices"
	"testing"

	"loop.example/g00709/impl"
)

// The promises 1, 2 and 10 over whole runs: for every interleaving the facts
// are right about the live blocks, which are those that the words show, and
// each chunk has one owner; a run can be split into two parts, and growing the
// heap preserves all live blocks.

// move is an event that is processed, and what is expected after it.
type move struct {
	e      impl.Event
	owners []int
	facts  []impl.Fact
}

// checkMoves executes the events one by one, and returns the machine at the end.
func checkMoves(t *testing.T, m impl.Mach, moves []move) impl.Mach {
	t.Helper()
	for i, move := range moves {
		d := checkEvent(t, m, move.e)
		if d.code != 0 || !slices.Equal(d.facts, move.facts) || !slices.Equal(ownersModel(d.mach), move.owners) {
			t.Fatalf("move %d: got %d %v %v, want %+v", i+1, d.code, d.facts, ownersModel(d.mach), move)
		}
		m = d.mach
	}
	return m
}

func checkQuietWords(t *testing.T, m impl.Mach, words ...uint32) {
	t.Helper()
	if !impl.Quiet(m) || !slices.Equal(m.Mem.Words, words) {
		t.Errorf("at the end: got %+v, want an idle machine with %v", m, words)
	}
}

// A warp that finds no third chunk gives up the two that it has reserved, the last one first, and tries again one chunk further.
func TestAWarpThatGivesUp(t *testing.T) {
	none := []int{-1, -1, -1, -1}
	m := checkMoves(t, machOf(make([]uint32, 3), idles(3)...), []move{
		{e: evSubmit(0, takeReq(48)), owners: none[:3]},
		{e: evSubmit(1, takeReq(0, 16)), owners: none[:3]},
		{e: evSubmit(2, takeReq(32)), owners: none[:3]},
		{e: evPick(0), owners: none[:3]},
		{e: evPick(0), owners: []int{0, -1, -1}},
		{e: evPick(0), owners: []int{0, -1, -1}},
		{e: evPick(0), owners: []int{0, 0, -1}},
		{e: evPick(1), owners: []int{0, 0, -1}},
		{e: evPick(1), owners: []int{0, 0, -1}, facts: []impl.Fact{{Kind: 1, Warp: 1, Lane: 1, At: 32, Size: 16}}},
		{e: evPick(2), owners: []int{0, 0, -1}},
		{e: evPick(2), owners: []int{0, 0, -1}},
		{e: evPick(0), owners: []int{0, 0, -1}},
		{e: evGrow(1), owners: []int{0, 0, -1, -1}},
		{e: evPick(0), owners: []int{0, -1, -1, -1}},
		{e: evPick(0), owners: none},
		{e: evPick(2), owners: none},
		{e: evPick(2), owners: none, facts: []impl.Fact{{Kind: 3, Warp: 2, At: -1, Size: 32}}},
		{e: evPick(0), owners: none},
		{e: evPick(0), owners: []int{-1, 0, -1, -1}},
		{e: evPick(0), owners: []int{-1, 0, -1, -1}},
		{e: evPick(0), owners: none},
		{e: evPick(0), owners: none, facts: []impl.Fact{{Kind: 3, At: -1, Size: 48}}},
	})
	checkQuietWords(t, m, 0, 0, page(4, 1), 0)
}

// Of two warps that reserve towards each other, the one that comes first to a held chunk gives up.
func TestTwoWarpsThatReserve(t *testing.T) {
	m := checkMoves(t, machOf(make([]uint32, 3), idles(2)...), []move{
		{e: evSubmit(0, takeReq(17)), owners: []int{-1, -1, -1}},
		{e: evSubmit(1, takeReq(32)), owners: []int{-1, -1, -1}},
		{e: evPick(0), owners: []int{-1, -1, -1}},
		{e: evPick(1), owners: []int{-1, -1, -1}},
		{e: evPick(0), owners: []int{0, -1, -1}},
		{e: evPick(1), owners: []int{0, -1, -1}},
		{e: evPick(1), owners: []int{0, -1, -1}},
		{e: evPick(0), owners: []int{0, -1, -1}},
		{e: evPick(1), owners: []int{0, 1, -1}},
		{e: evPick(0), owners: []int{0, 1, -1}},
		{e: evPick(1), owners: []int{0, 1, -1}},
		{e: evPick(1), owners: []int{0, 1, 1}},
		{e: evPick(0), owners: []int{-1, 1, 1}},
		{e: evPick(1), owners: []int{-1, -2, -2}, facts: []impl.Fact{{Kind: 1, Warp: 1, At: 16, Size: 32}}},
		{e: evPick(0), owners: []int{-1, -2, -2}},
		{e: evPick(0), owners: []int{-1, -2, -2}, facts: []impl.Fact{{Kind: 3, At: -1, Size: 17}}},
	})
	checkQuietWords(t, m, 0, head(2), held)
}

// The chunks of a large block that is freed are held by the warp until they are free, and the block cannot be freed again.
func TestALargeBlockIsGivenTwice(t *testing.T) {
	m := checkMoves(t, machOf([]uint32{page(0, 1), head(3), held, held}, idles(3)...), []move{
		{e: evSubmit(0, giveReq(-1, 16)), owners: []int{-1, -2, -2, -2}},
		{e: evSubmit(2, giveReq(16, 16, 32)), owners: []int{-1, -2, -2, -2}},
		{e: evSubmit(1, takeReq(9)), owners: []int{-1, -2, -2, -2}},
		{e: evPick(0), owners: []int{-1, -2, -2, -2}},
		{e: evPick(2), owners: []int{-1, -2, -2, -2}},
		{e: evPick(2), owners: []int{-1, 2, 2, 2}, facts: []impl.Fact{{Kind: 2, Warp: 2, At: 16, Size: 48}}},
		{e: evPick(0), owners: []int{-1, 2, 2, 2}},
		{e: evPick(0), owners: []int{-1, 2, 2, 2}, facts: []impl.Fact{{Kind: 4, Lane: 1, At: 16}}},
		{e: evPick(1), owners: []int{-1, 2, 2, 2}},
		{e: evPick(2), owners: []int{-1, 2, 2, -1}},
		{e: evPick(1), owners: []int{-1, 2, 2, -1}},
		{e: evPick(1), owners: []int{-1, 2, 2, -1}},
		{e: evPick(2), owners: []int{-1, 2, -1, -1}},
		{e: evPick(1), owners: []int{-1, 2, -1, -1}, facts: []impl.Fact{{Kind: 1, Warp: 1, At: 48, Size: 16}}},
		{e: evPick(2), owners: []int{-1, -1, -1, -1}},
		{e: evPick(2), owners: []int{-1, -1, -1, -1}, facts: []impl.Fact{{Kind: 4, Warp: 2, Lane: 1, At: 16}}},
		{e: evPick(2), owners: []int{-1, -1, -1, -1}, facts: []impl.Fact{{Kind: 4, Warp: 2, Lane: 2, At: 32}}},
	})
	checkQuietWords(t, m, page(0, 1), 0, 0, page(4, 1))
}

// story is what the warps request, each in this order, and by how much the heap grows, at any time.
type story struct {
	words []uint32
	reqs  [][]impl.Req
	grow  []int
}

// giveBack stands for the request to free all that the warp has got.
var giveBack = impl.Req{}

// scene is how far a story has come.
type scene struct {
	mach  impl.Mach
	asked []int // by warp
	grown int
}

// events returns all that can happen next.
func (s story) events(now scene) []impl.Event {
	var list []impl.Event
	for id, w := range now.mach.Warps {
		switch {
		case w.Kind != 0:
			list = append(list, evPick(id))
		case now.asked[id] < len(s.reqs[id]):
			r := s.reqs[id][now.asked[id]]
			if r.Kind == 0 {
				r = backReq(w)
			}
			list = append(list, evSubmit(id, r))
		}
	}
	if now.grown < len(s.grow) {
		list = append(list, evGrow(s.grow[now.grown]))
	}
	return list
}

func backReq(w impl.Warp) impl.Req {
	r := giveReq()
	for lane, got := range w.Got {
		if w.Vals[lane] > 0 && got >= 0 {
			r.Vals[lane] = got
		}
	}
	return r
}

func (now scene) after(e impl.Event, m impl.Mach) scene {
	next := scene{mach: m, asked: slices.Clone(now.asked), grown: now.grown}
	switch e.Kind {
	case 1:
		next.asked[e.Warp]++
	case 3:
		next.grown++
	}
	return next
}

// seen counts what occurs in the scenes of a story.
type seen struct {
	scenes int
	ends   []impl.Mach
	facts  map[int]int
	gaveUp int
	// The farthest Probe.
	farthest int
}

// playAll goes through every interleaving of a story: each scene that can be reached, once, and all that can happen there.
func playAll(t *testing.T, s story) seen {
	t.Helper()
	first := scene{mach: machOf(s.words, idles(len(s.reqs))...), asked: make([]int, len(s.reqs))}
	if !checkMach(t, first.mach) {
		t.Fatalf("%+v is not valid", first.mach)
	}
	all := seen{facts: map[int]int{}}
	reached, left := map[string]bool{fmt.Sprint(first): true}, []scene{first}
	for len(left) > 0 {
		now := left[len(left)-1]
		left = left[:len(left)-1]
		events := s.events(now)
		if len(events) == 0 {
			all.ends = append(all.ends, now.mach)
		}
		for _, e := range events {
			d := checkEvent(t, now.mach, e)
			all.count(d)
			next := now.after(e, d.mach)
			if key := fmt.Sprint(next); !reached[key] {
				reached[key] = true
				left = append(left, next)
			}
		}
	}
	all.scenes = len(reached)
	return all
}

func (all *seen) count(d done) {
	for _, f := range d.facts {
		all.facts[f.Kind]++
	}
	for _, w := range d.mach.Warps {
		if w.Kind == 1 && w.Phase == 2 {
			all.gaveUp++
		}
		all.farthest = max(all.farthest, w.Probe)
	}
}

// Whatever the order, at the end nothing is left of what was allocated and given back.
func TestEveryInterleavingOfTakingAndGivingBack(t *testing.T) {
	for _, c := range []struct {
		s      story
		gaveUp bool
		refuse bool
	}{
		{story{words: make([]uint32, 1), reqs: [][]impl.Req{{takeReq(8), giveBack}, {takeReq(5, 8), giveBack}, {takeReq(4), giveBack}}}, false, true},
		{story{words: make([]uint32, 2), reqs: [][]impl.Req{{takeReq(1, 2, 1), giveBack}, {takeReq(2, 1), giveBack}}}, false, false},
		{story{words: make([]uint32, 3), reqs: [][]impl.Req{{takeReq(32), giveBack}, {takeReq(17), giveBack}, {takeReq(16), giveBack}}}, true, true},
		{story{words: make([]uint32, 2), reqs: [][]impl.Req{{takeReq(16, 16), giveBack}, {takeReq(17), giveBack}}, grow: []int{1, 1}}, true, true},
		{story{words: make([]uint32, 4), reqs: [][]impl.Req{{takeReq(48), giveBack}, {takeReq(33), giveBack}}, grow: []int{1}}, true, true},
		{story{reqs: [][]impl.Req{{takeReq(17, 1), giveBack}, {takeReq(16), giveBack}}, grow: []int{1, 1, 1}}, true, true},
		{story{words: make([]uint32, 4), reqs: [][]impl.Req{{takeReq(32), giveBack}, {takeReq(17), giveBack}, {takeReq(48), giveBack}}}, true, true},
	} {
		all := playAll(t, c.s)
		if all.scenes < 100 || len(all.ends) == 0 || all.facts[1] == 0 || all.facts[2] == 0 || c.gaveUp && all.gaveUp == 0 || c.refuse && all.facts[3] == 0 {
			t.Errorf("%+v: too little has occurred: %d scenes, %d ends, facts %v, given up %d", c.s, all.scenes, len(all.ends), all.facts, all.gaveUp)
		}
		for _, m := range all.ends {
			if slices.Max(m.Mem.Words) != 0 {
				t.Fatalf("%+v: something is left at the end: %+v", c.s, m)
			}
		}
	}
}

// Of several warps that free one block, only one can.
func TestEveryInterleavingOfFreeingTheSameBlocks(t *testing.T) {
	for _, c := range []struct {
		s story
		n int // the blocks that are freed, once each
	}{
		{story{words: []uint32{page(3, 3)}, reqs: [][]impl.Req{{giveReq(0, 8)}, {giveReq(8, 0)}, {giveReq(0, 0)}}}, 2},
		{story{words: []uint32{head(2), held}, reqs: [][]impl.Req{{giveReq(0)}, {giveReq(0, 0)}, {giveReq(16, 0)}}}, 1},
		{story{words: []uint32{head(3), held, held, page(4, 1)}, reqs: [][]impl.Req{{giveReq(0, 48)}, {giveReq(48, 0)}}, grow: []int{1}}, 2},
	} {
		all := playAll(t, c.s)
		if all.scenes < 30 || all.facts[2] == 0 || all.facts[4] == 0 {
			t.Errorf("%+v: too little has occurred: %d scenes, facts %v", c.s, all.scenes, all.facts)
		}
		for _, m := range all.ends {
			freed := 0
			for _, w := range m.Warps {
				for _, got := range w.Got {
					freed += max(0, got)
				}
			}
			if freed != c.n || slices.Max(m.Mem.Words) != 0 {
				t.Fatalf("%+v: %d blocks are freed at the end: %+v", c.s, freed, m)
			}
		}
	}
}

// A block is freed and its chunk allocated again, while another warp still acts on what it has seen before.
func TestEveryInterleavingOfFreeingAndTakingAgain(t *testing.T) {
	for _, s := range []story{
		{words: []uint32{head(2), held}, reqs: [][]impl.Req{{giveReq(0), takeReq(17)}, {giveReq(0), takeReq(16)}}},
		{words: []uint32{page(4, 1), 0}, reqs: [][]impl.Req{{giveReq(0), takeReq(16)}, {giveReq(0), takeReq(32)}, {takeReq(9)}}},
		{words: []uint32{page(2, 5), page(2, 15)}, reqs: [][]impl.Req{{giveReq(0, 8), takeReq(4, 8)}, {giveReq(8, 16), takeReq(4, 3)}}},
		{words: []uint32{head(2), held, page(0, 1)}, reqs: [][]impl.Req{{giveReq(0), takeReq(48)}, {giveReq(32), giveReq(0)}, {takeReq(1)}}, grow: []int{1}},
		{words: make([]uint32, 2), reqs: [][]impl.Req{{takeReq(16), giveBack}, {takeReq(32), giveBack}, {takeReq(8)}, {giveReq(0)}}},
		{words: make([]uint32, 3), reqs: [][]impl.Req{{takeReq(32)}, {takeReq(17)}, {takeReq(33)}, {takeReq(9), giveBack}}},
	} {
		all := playAll(t, s)
		if all.scenes < 100 || len(all.ends) == 0 || all.facts[1] == 0 || all.facts[2] == 0 {
			t.Errorf("%+v: too little has occurred: %d scenes, facts %v", s, all.scenes, all.facts)
		}
		for _, m := range all.ends {
			if !impl.Quiet(m) {
				t.Fatalf("%+v: not quiet at the end: %+v", s, m)
			}
		}
	}
}

// randomEvent returns an event that mostly is a step of a busy warp.
func randomEvent(c *crew, m impl.Mach) impl.Event {
	c.words, c.warps = m.Mem.Words, m.Warps
	id := c.dice.roll(len(m.Warps))
	switch roll := c.dice.roll(100); {
	case roll < 1:
		return evGrow(1 + c.dice.roll(3))
	case roll < 6:
		list := badEvents()
		return list[c.dice.roll(len(list))]
	case roll < 9:
		return evPick(c.dice.roll(4))
	case roll < 12 || m.Warps[id].Kind == 0:
		return evSubmit(id, c.request())
	}
	return evPick(id)
}

// runOf is a run of a new machine that was made up event by event.
type runOf struct {
	first  impl.Mach
	events []impl.Event
	machs  []impl.Mach // before each event, and at the end
	facts  [][]impl.Fact
}

// randomRun makes up a run, and compares the facts with the words after every event.
func randomRun(t *testing.T, seed int, chunks int, warps int, n int) runOf {
	t.Helper()
	first, ok := impl.MachNew(chunks, warps)
	if !ok {
		t.Fatalf("MachNew(%d, %d): got false", chunks, warps)
	}
	c := newCrew(t, seed, chunks, warps)
	r := runOf{first: first, machs: []impl.Mach{first}}
	for m := first; len(r.events) < n; {
		e := randomEvent(c, m)
		d := checkEvent(t, m, e)
		for _, f := range d.facts {
			c.hear(f)
		}
		m = d.mach
		c.words = m.Mem.Words
		c.checkWords()
		r.events, r.machs, r.facts = append(r.events, e), append(r.machs, m), append(r.facts, d.facts)
	}
	return r
}

func TestRandomRuns(t *testing.T) {
	kinds, codes, gaveUp := map[int]int{}, map[int]int{}, 0
	for seed := range 5 {
		for _, chunks := range []int{0, 1, 2, 5, 9, 16} {
			for warps := 1; warps <= 4; warps++ {
				r := randomRun(t, seed, chunks, warps, 400)
				d := checkRun(t, r.first, r.events)
				if !sameMach(d.mach, r.machs[400]) || !slices.Equal(d.facts, slices.Concat(r.facts...)) {
					t.Fatalf("%d chunks, %d warps: the run is not what its events are one by one", chunks, warps)
				}
				all := seen{facts: kinds}
				for i, m := range r.machs[1:] {
					all.count(done{mach: m, facts: r.facts[i]})
					codes[doModel(r.machs[i], r.events[i]).code]++
				}
				gaveUp += all.gaveUp
			}
		}
	}
	for i := range 4 {
		if kinds[i+1] < 100 || codes[i+1] < 30 || gaveUp < 100 {
			t.Errorf("too little has occurred: facts %v, codes %v, given up %d", kinds, codes, gaveUp)
		}
	}
}

// checkSplit checks that a run does the same in two parts.
func checkSplit(t *testing.T, m impl.Mach, list []impl.Event, at int) {
	t.Helper()
	whole, facts, ok := impl.MachRun(m, list)
	middle, before, first := impl.MachRun(m, list[:at])
	end, after, second := impl.MachRun(middle, list[at:])
	if !ok || !first || !second || !sameMach(end, whole) || !slices.Equal(append(before, after...), facts) {
		t.Fatalf("%+v, split after %d of %d events: got %+v %v, want %+v %v", m, at, len(list), end, append(before, after...), whole, facts)
	}
}

func TestARunIsSplitIntoTwoParts(t *testing.T) {
	for seed := range 3 {
		for _, chunks := range []int{0, 2, 5, 16} {
			long := randomRun(t, 70+seed, chunks, 2+seed%3, 400)
			for _, at := range []int{0, 1, 2, 57, 199, 200, 201, 398, 399, 400} {
				checkSplit(t, long.first, long.events, at)
			}
			short := long.events[seed*100 : seed*100+50]
			for at := range len(short) + 1 {
				checkSplit(t, long.machs[seed*100], short, at)
			}
		}
	}
	for _, m := range machs() {
		for at := range 4 {
			checkSplit(t, m, []impl.Event{evPick(0), evGrow(1), evPick(0)}, at)
		}
	}
}

func TestRunsOfManyEvents(t *testing.T) {
	m := machOf(make([]uint32, 2), idles(2)...)
	list := make([]impl.Event, 402)
	for i := range list {
		list[i] = []impl.Event{evSubmit(i%2, takeReq(1)), evPick(0), evPick(1)}[i%3]
	}
	for _, n := range []int{0, 1, 2, 399, 400} {
		checkRun(t, m, list[:n])
		checkRun(t, m, make([]impl.Event, n))
	}
	for _, n := range []int{401, 402} {
		checkRunRefused(t, m, list[:n])
		checkRunRefused(t, m, make([]impl.Event, n))
		checkRunRefused(t, impl.Mach{}, list[:n])
	}
	for _, n := range []int{800, 4096} {
		checkRunRefused(t, m, make([]impl.Event, n))
	}
}

// An event with an error changes nothing, and the events after it are processed.
func TestRunsGoOnAfterAnError(t *testing.T) {
	m := machOf(make([]uint32, 1), idles(1)...)
	d := checkRun(t, m, []impl.Event{
		evPick(0), evSubmit(1, takeReq(1)), evSubmit(0, takeReq(9)), evSubmit(0, takeReq(2)), evPick(0), {}, evGrow(16), evPick(1), evPick(0), evPick(0), evGrow(15), evGrow(1),
	})
	want := []impl.Fact{{Kind: 1, At: 0, Size: 16}}
	if !slices.Equal(d.facts, want) || !slices.Equal(d.mach.Mem.Words, append([]uint32{page(4, 1)}, make([]uint32, 15)...)) {
		t.Errorf("got %v %v", d.facts, d.mach.Mem.Words)
	}
}

// checkGrown checks that a machine keeps all it has when it grows, up to the limit and not beyond.
func checkGrown(t *testing.T, m impl.Mach, n int) {
	t.Helper()
	d, chunks := checkEvent(t, m, evGrow(n)), len(m.Mem.Words)
	if chunks+n > 16 {
		if d.code != 3 || !sameMach(d.mach, m) {
			t.Fatalf("%+v: grows by %d to more than 16 chunks", m, n)
		}
		return
	}
	words := append(slices.Clone(m.Mem.Words), make([]uint32, n)...)
	if d.code != 0 || len(d.facts) != 0 || !sameMach(d.mach, machOf(words, m.Warps...)) {
		t.Fatalf("%+v, grown by %d: got %+v", m, n, d)
	}
	owners := append(ownersModel(m), slices.Repeat([]int{-1}, n)...)
	if !slices.Equal(impl.Owners(d.mach), owners) {
		t.Fatalf("%+v, grown by %d: got the owners %v", m, n, impl.Owners(d.mach))
	}
	if id := slices.IndexFunc(m.Warps, func(w impl.Warp) bool { return w.Kind == 0 }); id >= 0 {
		checkAllGiven(t, d.mach, id, blocksIn(m.Mem.Words))
	}
}

// checkAllGiven frees the blocks with that warp, eight at a time.
func checkAllGiven(t *testing.T, m impl.Mach, id int, blocks []impl.Block) {
	t.Helper()
	for list := range slices.Chunk(blocks, 8) {
		r := giveReq()
		var want, facts []impl.Fact
		for lane, b := range list {
			r.Vals[lane] = b.At
			want = append(want, impl.Fact{Kind: 2, Warp: id, Lane: lane, At: b.At, Size: b.Size})
		}
		m = doModel(m, evSubmit(id, r)).mach
		for m.Warps[id].Kind != 0 {
			d := checkDo(t, m, evPick(id))
			m, facts = d.mach, append(facts, d.facts...)
		}
		if !slices.Equal(facts, want) {
			t.Fatalf("got %v, want %v", facts, want)
		}
	}
	if len(blocksIn(m.Mem.Words)) != 0 {
		t.Fatalf("there are blocks left: %+v", m)
	}
}

func TestGrowingKeepsAllBlocks(t *testing.T) {
	list := machs()
	for seed := range 3 {
		for _, chunks := range []int{1, 4, 9} {
			r := randomRun(t, 40+seed, chunks, 4, 120)
			list = append(list, r.machs[60], r.machs[90], r.machs[120])
		}
	}
	for _, m := range list {
		for n := 1; n <= 16; n++ {
			checkGrown(t, m, n)
		}
	}
}

// After the heap has grown, a warp starts at another chunk, so that its swap is on another word than the one that it has seen.
func TestASwapAfterTheHeapHasGrown(t *testing.T) {
	m := machOf([]uint32{page(3, 1), page(3, 1), 0}, impl.WarpNew(), impl.WarpNew())
	d := checkRun(t, m, []impl.Event{evSubmit(1, takeReq(8)), evPick(1)})
	if w := d.mach.Warps[1]; w.Phase != 1 || w.Seen != 0 || w.Probe != 0 {
		t.Fatalf("got %+v", w)
	}
	d = checkRun(t, d.mach, []impl.Event{evGrow(10), evPick(1), evPick(1), evPick(1)})
	// (5 + 9) modulo 13 is 1, where there is a page; with three chunks it was 2.
	want := []impl.Fact{{Kind: 1, Warp: 1, At: 24, Size: 8}}
	if !slices.Equal(d.facts, want) || d.mach.Mem.Words[1] != page(3, 3) || d.mach.Mem.Words[2] != 0 {
		t.Errorf("got %v %v, want %v", d.facts, d.mach.Mem.Words, want)
	}
}
