package tests

import (
	"testing"

	"loop.example/g00709/impl"
)

// Promise 13 over whole runs: no more units are handed out than existed and
// arrived, and every reservation is covered until it is served.

// ledger is a semaphore and what its callers know: who waits for how many
// units, how many are being produced, and how many existed, arrived and were
// handed out.
type ledger struct {
	t       *testing.T
	sema    impl.Sema
	waiting []int
	making  int
	existed int
	arrived int
	handed  int
}

func newLedger(t *testing.T, units int) *ledger {
	return &ledger{t: t, sema: sema(units, 0, 0), existed: units}
}

func (l *ledger) reserved() int {
	total := 0
	for _, n := range l.waiting {
		total += n
	}
	return total
}

// check checks that the semaphore is what the ledger says, and nothing else.
func (l *ledger) check(what string, n int) {
	l.t.Helper()
	want := sema(l.existed+l.arrived-l.handed, l.making, l.reserved())
	if l.sema != want || want.Count < 0 {
		l.t.Fatalf("%s %d: got %+v, want %+v", what, n, l.sema, want)
	}
	if l.reserved() > want.Count+l.making {
		l.t.Fatalf("%s %d: %v are covered by nothing in %+v", what, n, l.waiting, l.sema)
	}
	if x, ok := impl.SemaPack(l.sema); !ok || x != semaWord(want) {
		l.t.Fatalf("%s %d: the word of %+v is %d %v", what, n, l.sema, x, ok)
	}
}

func (l *ledger) want(n int, batch int) int {
	l.t.Helper()
	before := l.sema
	next, code := impl.SemaWant(l.sema, n, batch)
	switch code {
	case impl.SemaNo:
		return code
	case impl.SemaNow:
		l.handed += n
	case impl.SemaWait:
		l.waiting = append(l.waiting, n)
	case impl.SemaMake:
		l.waiting = append(l.waiting, n)
		l.making += batch
	default:
		l.t.Fatalf("SemaWant(%+v, %d, %d): got the code %d", before, n, batch, code)
	}
	l.sema = next
	l.check("want", n)
	if code == impl.SemaNow && next.Count < next.Reserved {
		l.t.Fatalf("SemaWant(%+v, %d, %d): got %+v, and others wait for these units", before, n, batch, next)
	}
	return code
}

func (l *ledger) post(n int) bool {
	l.t.Helper()
	next, ok := impl.SemaPost(l.sema, n)
	if ok {
		l.sema = next
		l.making -= n
		l.arrived += n
		l.check("post", n)
	}
	return ok
}

// serve hands the units over to one of those that wait.
func (l *ledger) serve(i int) bool {
	l.t.Helper()
	n := l.waiting[i]
	next, ok := impl.SemaServe(l.sema, n)
	if ok {
		l.sema = next
		l.waiting = append(l.waiting[:i:i], l.waiting[i+1:]...)
		l.handed += n
		l.check("serve", n)
	}
	return ok
}

// serveAll lets what is expected arrive until all that wait are served.
func (l *ledger) serveAll() {
	l.t.Helper()
	for len(l.waiting) > 0 {
		if l.serve(0) {
			continue
		}
		if !l.post(1) {
			l.t.Fatalf("%+v: %v wait, but nothing can arrive", l.sema, l.waiting)
		}
	}
}

func TestRandomRunsOfASema(t *testing.T) {
	codes := [4]int{}
	posts, serves, unserved := 0, 0, 0
	for seed := range 60 {
		d := dice(seed*7919 + 11)
		most := []int{3, 10, 60, 400, 1000}[seed%5]
		l := newLedger(t, d.roll(most+1))
		for range 1500 {
			switch d.roll(4) {
			case 0, 1:
				codes[l.want(1+d.roll(most), 1+d.roll(most))]++
			case 2:
				if l.post(1 + d.roll(max(most/2, 1))) {
					posts++
				}
			case 3:
				if len(l.waiting) == 0 {
					continue
				}
				if l.serve(d.roll(len(l.waiting))) {
					serves++
				} else {
					unserved++
				}
			}
		}
		l.serveAll()
		if l.handed > l.existed+l.arrived {
			t.Errorf("seed %d: %d units were handed out of %d and %d", seed, l.handed, l.existed, l.arrived)
		}
	}
	if min(codes[0], codes[1], codes[2], codes[3], posts, serves, unserved) == 0 {
		t.Errorf("some of this never happened: codes %v, %d posts, %d serves, %d times too few units", codes, posts, serves, unserved)
	}
}

// reach returns every semaphore with up to 24 units that is reached from so many units, with requests of up to most units and batches of that size.
func reach(units int, most int, batch int) map[impl.Sema]bool {
	start := sema(units, 0, 0)
	seen := map[impl.Sema]bool{start: true}
	list := []impl.Sema{start}
	visit := func(s impl.Sema) {
		if !seen[s] && s.Count+s.Expected <= 24 {
			seen[s] = true
			list = append(list, s)
		}
	}
	for len(list) > 0 {
		s := list[0]
		list = list[1:]
		for n := 1; n <= most; n++ {
			if next, code := impl.SemaWant(s, n, batch); code != impl.SemaNo {
				visit(next)
			}
			if next, ok := impl.SemaPost(s, n); ok {
				visit(next)
			}
			if next, ok := impl.SemaServe(s, n); ok {
				visit(next)
			}
		}
	}
	return seen
}

func TestEverySemaThatIsReached(t *testing.T) {
	for units := range 4 {
		for batch := 1; batch <= 6; batch++ {
			all := reach(units, 6, batch)
			if len(all) < 20 {
				t.Errorf("%d units, batches of %d: only %d semaphores", units, batch, len(all))
			}
			for s := range all {
				checkSema(t, s, semaWord(s))
			}
		}
	}
}

// drain lets units arrive and hands them over until nothing is reserved; it returns the number of units that were handed over.
func drain(t *testing.T, s impl.Sema) (impl.Sema, int) {
	t.Helper()
	handed := 0
	for s.Reserved > 0 {
		n := min(s.Count, s.Reserved)
		if n > 0 {
			next, ok := impl.SemaServe(s, n)
			if !ok {
				t.Fatalf("SemaServe(%+v, %d): got false", s, n)
			}
			s, handed = next, handed+n
			continue
		}
		arrive := min(s.Expected, 1000-s.Count)
		next, ok := impl.SemaPost(s, arrive)
		if !ok {
			t.Fatalf("SemaPost(%+v, %d): got false", s, arrive)
		}
		s = next
	}
	return s, handed
}

func TestEveryReservationCanBeServed(t *testing.T) {
	check := func(s impl.Sema) {
		end, handed := drain(t, s)
		if handed != s.Reserved || end.Count+end.Expected != impl.SemaLeft(s) || !impl.SemaOk(end) {
			t.Fatalf("%+v: %d units were handed over, and %+v is left", s, handed, end)
		}
	}
	for s := range smallSemas(12) {
		check(s)
	}
	for s := range edgeSemas() {
		check(s)
	}
}

// What was available for reservations before is so after others have got units.
func TestUnitsHandedOutAreNotReserved(t *testing.T) {
	times := 0
	for s := range smallSemas(12) {
		for n := 1; n <= 13; n++ {
			next, code := impl.SemaWant(s, n, 1)
			if code != impl.SemaNow {
				continue
			}
			times++
			if next.Reserved != s.Reserved || next.Count < next.Reserved {
				t.Errorf("SemaWant(%+v, %d, 1): got %+v", s, n, next)
			}
			if end, ok := impl.SemaServe(next, s.Reserved); s.Reserved > 0 && (!ok || end.Reserved != 0) {
				t.Errorf("SemaWant(%+v, %d, 1): %d units cannot be served from %+v", s, n, s.Reserved, next)
			}
		}
	}
	if times == 0 {
		t.Error("no units were handed out")
	}
}

func TestAStoryOfASema(t *testing.T) {
	l := newLedger(t, 5)
	steps := []struct {
		n, code int
		want    impl.Sema
	}{
		{3, impl.SemaNow, sema(2, 0, 0)},
		{4, impl.SemaMake, sema(2, 8, 4)},
		{1, impl.SemaWait, sema(2, 8, 5)}, // two units are there, but four are reserved
		{5, impl.SemaWait, sema(2, 8, 10)},
		{9, impl.SemaNo, sema(2, 8, 10)},
		{8, impl.SemaMake, sema(2, 16, 18)},
	}
	for _, s := range steps {
		if code := l.want(s.n, 8); code != s.code || l.sema != s.want {
			t.Fatalf("a request of %d units: got %d %+v, want %d %+v", s.n, code, l.sema, s.code, s.want)
		}
	}
	if l.serve(0) || l.post(17) {
		t.Fatalf("units were handed over that have not arrived: %+v", l.sema)
	}
	if !l.serve(1) || !l.post(8) || !l.serve(0) || !l.serve(0) || l.serve(0) || !l.post(8) || !l.serve(0) {
		t.Fatalf("what is reserved was not served: %+v", l.sema)
	}
	if l.sema != (impl.Sema{}) || l.handed != 21 {
		t.Errorf("got %+v in the end, and %d units handed out", l.sema, l.handed)
	}
}
