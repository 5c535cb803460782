package tests

import (
	"slices"
	"testing"

	"loop.example/g00709/impl"
)

// Promise 1: for every interleaving the facts are consistent after every step,
// and Audit of the words returns exactly the live blocks. That each single
// event keeps this, in every scene of the stories and in the small machines of
// chapter 8, is checked there (checkEvent); here are the facts of whole runs.

// checkAudited checks that the facts of an event lead from the blocks that Audit finds before it to those that it finds after it.
func checkAudited(t *testing.T, m impl.Mach, e impl.Event, d done) {
	t.Helper()
	live, ok := impl.Audit(m.Mem)
	for _, f := range d.facts {
		if !ok {
			break
		}
		live, ok = impl.FactDo(live, f)
	}
	after, fine := impl.Audit(d.mach.Mem)
	if !ok || !fine || !slices.Equal(live, after) {
		t.Fatalf("%+v of %+v: the facts %v lead to %v %v, Audit to %v %v", e, m, d.facts, live, ok, after, fine)
	}
}

// checkTold checks that the facts so far are consistent, and the live blocks those in the words.
func checkTold(t *testing.T, words []uint32, facts []impl.Fact) {
	t.Helper()
	live, bad := impl.FactsRun(facts)
	blocks, ok := impl.Audit(impl.Mem{Words: words})
	if bad != -1 || !ok || !slices.Equal(live, blocks) {
		t.Fatalf("the facts %v lead to %v %d, Audit of %v to %v %v", facts, live, bad, words, blocks, ok)
	}
}

// takenFacts has a fact for every block that the words have, as if a lane had got it before.
func takenFacts(words []uint32) []impl.Fact {
	var list []impl.Fact
	for _, b := range blocksIn(words) {
		list = append(list, fact(1, 0, b.At, b.Size))
	}
	return list
}

// diary has what the lanes have got, by warp and lane.
type diary map[[2]int][]int

// write notes what the lanes of a warp have got in a request that is finished.
func (d diary) write(id int, w impl.Warp, r impl.Req) {
	for _, lane := range askingLanes(r) {
		at := [2]int{id, lane}
		d[at] = append(d[at], w.Got[lane])
	}
}

// check checks that the answers to the lanes of the warp are what they have got.
func (d diary) check(t *testing.T, facts []impl.Fact, id int) {
	t.Helper()
	for lane := range 8 {
		checkAnswers(t, facts, id, lane, d[[2]int{id, lane}])
	}
}

// checkRunTold checks the facts of a run after every event, and the answers whenever a request is finished.
// It returns how many requests were, and all facts.
func checkRunTold(t *testing.T, r runOf) (int, []impl.Fact) {
	t.Helper()
	var facts []impl.Fact
	finished, book, asked := 0, diary{}, make([]impl.Req, 4)
	for i, e := range r.events {
		facts = append(facts, r.facts[i]...)
		before, m := r.machs[i], r.machs[i+1]
		checkTold(t, m.Mem.Words, facts)
		if e.Warp < 0 || e.Warp >= len(m.Warps) || before.Warps[e.Warp].Kind == m.Warps[e.Warp].Kind {
			continue
		}
		if w := m.Warps[e.Warp]; w.Kind != 0 {
			asked[e.Warp] = e.Req
		} else {
			finished++
			book.write(e.Warp, w, asked[e.Warp])
			book.check(t, facts, e.Warp)
		}
	}
	return finished, facts
}

func TestFactsOfRandomRuns(t *testing.T) {
	finished, most := 0, 0
	for seed := range 4 {
		for _, chunks := range []int{0, 1, 2, 5, 16} {
			for warps := 1; warps <= 4; warps++ {
				n, facts := checkRunTold(t, randomRun(t, 200+seed, chunks, warps, 250))
				if answers := checkAllAnswers(t, facts); answers != len(facts) {
					t.Fatalf("%d answers for %d facts", answers, len(facts))
				}
				finished += n
				most = max(most, len(facts))
			}
		}
	}
	if finished < 1000 || most < 100 {
		t.Errorf("too little has occurred: %d requests are finished, at most %d facts in a run", finished, most)
	}
}

// What the sums count is what the owners and the words say.
func TestSumsOfRandomRuns(t *testing.T) {
	for seed := range 6 {
		for _, chunks := range []int{0, 2, 5, 9, 16} {
			for _, m := range randomRun(t, 300+seed, chunks, 1+seed%4, 150).machs {
				words, owners := m.Mem.Words, impl.Owners(m)
				free, pages, large := impl.AuditSum(m.Mem)
				blocks, _ := impl.Audit(m.Mem)
				sum, owned := 0, 0
				for chunk, x := range words {
					if owners[chunk] == -2 {
						sum += 16
					}
					if owners[chunk] != -1 {
						owned++
					}
					if c, _ := readCtl(x); c.State == 1 {
						sum += impl.TakenWords(x)
					}
				}
				if free+pages+large != len(words) || large != owned || impl.LiveSum(blocks, 16*len(words)) != sum {
					t.Fatalf("%v, owners %v: got %d %d %d, and %v, want %d words", words, owners, free, pages, large, blocks, sum)
				}
			}
		}
	}
}

// path follows every way through a story, and counts the ends and the facts on the ways to them.
type path struct {
	t     *testing.T
	s     story
	ends  int
	facts map[int]int
}

// follow goes on from a scene in every order of the events, each time with all that was told on the way.
func (p *path) follow(now scene, told []impl.Fact) {
	p.t.Helper()
	checkTold(p.t, now.mach.Mem.Words, told)
	events := p.s.events(now)
	if len(events) == 0 {
		p.ends++
		for _, f := range told {
			p.facts[f.Kind]++
		}
	}
	for _, e := range events {
		m, facts, code := impl.MachDo(now.mach, e)
		if code != 0 {
			p.t.Fatalf("MachDo(%+v, %+v): got the code %d", now.mach, e, code)
		}
		p.follow(now.after(e, m), slices.Concat(told, facts))
	}
}

// Here no two ways to the same scene are taken for one, so that all facts of each are known.
func TestFactsOfEveryWayThroughAStory(t *testing.T) {
	for _, c := range []struct {
		s     story
		kinds []int
	}{
		{story{words: make([]uint32, 1), reqs: [][]impl.Req{{takeReq(8), giveBack}, {takeReq(5), giveBack}}}, []int{1, 2}},
		{story{words: make([]uint32, 1), reqs: [][]impl.Req{{takeReq(16), giveBack}, {takeReq(3, 3), giveBack}}}, []int{1, 2, 3}},
		{story{words: make([]uint32, 2), reqs: [][]impl.Req{{takeReq(17), giveBack}, {takeReq(16)}}}, []int{1, 2, 3}},
		{story{words: []uint32{page(4, 1)}, reqs: [][]impl.Req{{giveReq(0)}, {giveReq(0)}, {giveReq(0)}}}, []int{2, 4}},
		{story{words: []uint32{page(3, 1)}, reqs: [][]impl.Req{{giveReq(0), takeReq(8)}, {giveReq(0, 8)}}}, []int{1, 2, 4}},
		{story{words: []uint32{head(2), held}, reqs: [][]impl.Req{{giveReq(0, 16)}, {giveReq(0)}}, grow: []int{1}}, []int{2, 4}},
		{story{words: []uint32{head(2), held}, reqs: [][]impl.Req{{giveReq(0)}, {takeReq(9), giveReq(16)}}}, []int{1, 2, 3, 4}},
		{story{reqs: [][]impl.Req{{takeReq(1), giveBack}, {giveReq(0, 16)}}, grow: []int{1, 1}}, []int{1, 2, 3, 4}},
	} {
		p := path{t: t, s: c.s, facts: map[int]int{}}
		p.follow(scene{mach: machOf(c.s.words, idles(len(c.s.reqs))...), asked: make([]int, len(c.s.reqs))}, takenFacts(c.s.words))
		for _, kind := range c.kinds {
			if p.facts[kind] == 0 || p.ends < 100 {
				t.Errorf("%+v: too little has occurred: %d ends, facts %v", c.s, p.ends, p.facts)
			}
		}
	}
}

// checkTale executes the events one by one, each with the facts that are expected, and compares the words at the end.
func checkTale(t *testing.T, words []uint32, warps int, tale []move, end ...uint32) {
	t.Helper()
	m, told := machOf(words, idles(warps)...), takenFacts(words)
	for i, move := range tale {
		d := checkEvent(t, m, move.e)
		if d.code != 0 || !slices.Equal(d.facts, move.facts) {
			t.Fatalf("event %d: got %d %v, want %v", i+1, d.code, d.facts, move.facts)
		}
		m, told = d.mach, append(told, d.facts...)
		checkTold(t, m.Mem.Words, told)
	}
	checkQuietWords(t, m, end...)
}

// A warp frees what it has seen, although another one has freed it and a third one has taken it again: it is live.
func TestABlockThatIsFreedAndTakenAgain(t *testing.T) {
	checkTale(t, []uint32{page(4, 1)}, 3, []move{
		{e: evSubmit(0, giveReq(0))},
		{e: evSubmit(1, giveReq(-1, 0, 0))},
		{e: evSubmit(2, takeReq(16))},
		{e: evPick(1)},
		{e: evPick(0)},
		{e: evPick(0), facts: []impl.Fact{{Kind: 2, Size: 16}}},
		{e: evPick(2)},
		{e: evPick(2), facts: []impl.Fact{{Kind: 1, Warp: 2, Size: 16}}},
		{e: evPick(1), facts: []impl.Fact{{Kind: 2, Warp: 1, Lane: 1, Size: 16}}},
		{e: evPick(1), facts: []impl.Fact{{Kind: 4, Warp: 1, Lane: 2}}},
	}, 0)
}

// The address of a large block is wrong before the block has its head, and again after the head is gone, when its chunks still are held.
func TestAnAddressThatIsWrongBeforeAndAfter(t *testing.T) {
	checkTale(t, make([]uint32, 2), 2, []move{
		{e: evSubmit(0, takeReq(20))},
		{e: evPick(0)},
		{e: evPick(0)},
		{e: evPick(0)},
		{e: evPick(0)},
		{e: evSubmit(1, giveReq(0, 0, 16, 0, 16, 0))},
		{e: evPick(1), facts: []impl.Fact{{Kind: 4, Warp: 1}}},
		{e: evPick(0), facts: []impl.Fact{{Kind: 1, Size: 32}}},
		{e: evPick(1)},
		{e: evSubmit(0, giveReq(0, 17, 0))},
		{e: evPick(0)},
		{e: evPick(0), facts: []impl.Fact{{Kind: 2, Size: 32}}},
		{e: evPick(1)},
		{e: evPick(1), facts: []impl.Fact{{Kind: 4, Warp: 1, Lane: 1}}},
		{e: evPick(1), facts: []impl.Fact{{Kind: 4, Warp: 1, Lane: 2, At: 16}}},
		{e: evPick(0)},
		{e: evPick(1), facts: []impl.Fact{{Kind: 4, Warp: 1, Lane: 3}}},
		{e: evPick(1), facts: []impl.Fact{{Kind: 4, Warp: 1, Lane: 4, At: 16}}},
		{e: evPick(0)},
		{e: evPick(1), facts: []impl.Fact{{Kind: 4, Warp: 1, Lane: 5}}},
		{e: evPick(0), facts: []impl.Fact{{Kind: 4, Lane: 1, At: 17}}},
		{e: evPick(0), facts: []impl.Fact{{Kind: 4, Lane: 2}}},
	}, 0, 0)
}

// An address inside of a block, one of a block that was freed, one behind the last chunk, and one that no heap has, are wrong.
func TestAddressesThatAreWrong(t *testing.T) {
	checkTale(t, []uint32{page(3, 3)}, 2, []move{
		{e: evSubmit(0, giveReq(4, 0, 0, 16, 255, 256, 4095))},
		{e: evPick(0), facts: []impl.Fact{{Kind: 4, At: 4}}},
		{e: evPick(0)},
		{e: evPick(0), facts: []impl.Fact{{Kind: 2, Lane: 1, Size: 8}}},
		{e: evPick(0), facts: []impl.Fact{{Kind: 4, Lane: 2}}},
		{e: evPick(0), facts: []impl.Fact{{Kind: 4, Lane: 3, At: 16}}},
		{e: evGrow(1)},
		{e: evSubmit(1, takeReq(16))},
		{e: evPick(1)},
		{e: evPick(1), facts: []impl.Fact{{Kind: 1, Warp: 1, At: 16, Size: 16}}},
		{e: evPick(0), facts: []impl.Fact{{Kind: 4, Lane: 4, At: 255}}},
		{e: evPick(0), facts: []impl.Fact{{Kind: 4, Lane: 5, At: 256}}},
		{e: evPick(0), facts: []impl.Fact{{Kind: 4, Lane: 6, At: 4095}}},
	}, page(3, 2), page(4, 1))
}

// The same facts in another order are not consistent if an address was live when it was reported as wrong.
func TestTheOrderOfFacts(t *testing.T) {
	take, give, wrong := fact(1, 0, 16, 16), fact(2, 1, 16, 16), fact(4, 2, 16, 0)
	for _, c := range []struct {
		list []impl.Fact
		bad  int
	}{
		{[]impl.Fact{take, give, wrong}, -1},
		{[]impl.Fact{wrong, take, give}, -1},
		{[]impl.Fact{take, wrong, give}, 1},
		{[]impl.Fact{give, take, wrong}, 0},
		{[]impl.Fact{wrong, give, take}, 1},
		{[]impl.Fact{give, wrong, take}, 0},
		{[]impl.Fact{wrong, take, give, wrong, take, wrong}, 5},
	} {
		checkFactsRun(t, c.list, nil, c.bad)
	}
}

// As many facts as a run can have: with every second event, all lanes of a warp are refused.
func TestARunWithTheMostFacts(t *testing.T) {
	var events []impl.Event
	for range impl.MaxEvents / 2 {
		events = append(events, evSubmit(0, takeReq(slices.Repeat([]int{2}, 8)...)), evPick(0))
	}
	d := checkRun(t, machOf(nil, idles(1)...), events)
	if len(d.facts) != 1600 {
		t.Fatalf("got %d facts, want 1600", len(d.facts))
	}
	checkTold(t, nil, d.facts)
	for lane := range 8 {
		checkAnswers(t, d.facts, 0, lane, slices.Repeat([]int{-2}, 200))
	}
}
