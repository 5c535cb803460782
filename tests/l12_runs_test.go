package tests

import (
	"slices"
	"testing"

	"loop.example/g00709/impl"
)

// Promise 14 over whole runs: elements are popped in the order in which they
// were pushed, as many as the ring has slots.

// line is a ring and the elements that wait in it, in a list of its own.
type line struct {
	t      *testing.T
	ring   impl.Ring
	slots  int
	wait   []int
	pushed int
	popped int
}

func newLine(t *testing.T, slots int) *line {
	t.Helper()
	r, ok := impl.RingNew(slots)
	if !ok {
		t.Fatalf("RingNew(%d): got false", slots)
	}
	return &line{t: t, ring: r, slots: slots}
}

// push pushes one element and reports whether there was a slot for it.
func (l *line) push(val int) bool {
	l.t.Helper()
	next, ok := impl.RingPush(l.ring, val)
	if ok != (len(l.wait) < l.slots) {
		l.t.Fatalf("RingPush(%+v, %d): got %v", l.ring, val, ok)
	}
	if ok {
		l.ring = next
		l.wait = append(l.wait, val)
		l.pushed++
	}
	return ok
}

// pop pops one element and reports whether there was one.
func (l *line) pop() bool {
	l.t.Helper()
	next, val, ok := impl.RingPop(l.ring)
	if ok != (len(l.wait) > 0) || ok && val != l.wait[0] {
		l.t.Fatalf("RingPop(%+v): got %d %v, and %v wait", l.ring, val, ok, l.wait)
	}
	if ok {
		l.ring = next
		l.wait = l.wait[1:]
		l.popped++
	}
	return ok
}

// check checks the whole ring.
func (l *line) check() {
	l.t.Helper()
	if want := ringWith(l.slots, l.popped, l.wait...); !sameRing(l.ring, want) || l.ring.Tail != l.pushed {
		l.t.Fatalf("after %d pushes and %d pops: got %+v, want %+v", l.pushed, l.popped, l.ring, want)
	}
	if list := impl.RingList(l.ring); !slices.Equal(list, l.wait) {
		l.t.Fatalf("RingList(%+v): got %v, want %v", l.ring, list, l.wait)
	}
	elements := 0
	for i := range l.slots {
		elements += impl.RingTurn(l.ring, i)
	}
	if !impl.RingOk(l.ring) || elements != len(l.wait) {
		l.t.Fatalf("%+v: %v, and %d slots with elements", l.ring, impl.RingOk(l.ring), elements)
	}
}

func TestEveryOrderOfPushesAndPops(t *testing.T) {
	const moves = 13
	for slots := 1; slots <= 4; slots++ {
		for order := range 1 << moves {
			l := newLine(t, slots)
			for i := range moves {
				if order>>i&1 == 0 {
					l.push(100 + i)
				} else {
					l.pop()
				}
			}
			l.check()
		}
	}
}

func TestRandomRunsOfARing(t *testing.T) {
	for slots := 1; slots <= 32; slots++ {
		d := dice(slots * 104729)
		l := newLine(t, slots)
		full, empty := 0, 0
		for i := range 1200 {
			// Now more pushes than pops, now fewer, so that the ring is filled and emptied.
			if bias := i / 100 % 2; d.roll(3) > bias {
				if !l.push(d.roll(256)) {
					full++
				}
			} else if !l.pop() {
				empty++
			}
			l.check()
		}
		if full == 0 || empty == 0 || l.popped < 3*slots {
			t.Errorf("%d slots: %d times full, %d times empty, %d popped", slots, full, empty, l.popped)
		}
	}
}

// A full ring takes one element for each that leaves it.
func TestFullRingsOverManyPasses(t *testing.T) {
	for slots := 1; slots <= 32; slots++ {
		l := newLine(t, slots)
		for i := range slots {
			l.push(i)
		}
		for i := range 5*slots + 3 {
			if l.push(7) || !l.pop() || !l.push(i*31%256) {
				t.Fatalf("%d slots: not full after %d pops", slots, l.popped)
			}
			l.check()
		}
		for range slots {
			l.pop()
			l.check()
		}
		if l.pop() {
			t.Errorf("%d slots: more elements than were pushed", slots)
		}
	}
}

func TestAMillionElements(t *testing.T) {
	for _, slots := range []int{1, 2} {
		l := newLine(t, slots)
		for i := range lastTail {
			if !l.push(i%256) || !l.pop() {
				t.Fatalf("the element %d was not taken", i)
			}
		}
		l.check()
		checkPushRefused(t, l.ring, 0)
		checkPopRefused(t, l.ring)
	}
}
