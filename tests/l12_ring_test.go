package tests

import (
	"iter"
	"math"
	"slices"
	"testing"

	"loop.example/g00709/impl"
)

// Promise 14, ring buffers: each function is held against a model of the
// document, on rings in every pass through the slots.

// The greatest Tail of a ring.
const lastTail = 1000000

// ringWith returns the ring of n slots that has these elements, of which the first is the one of the number head.
func ringWith(n int, head int, vals ...int) impl.Ring {
	r := impl.Ring{Head: head, Tail: head + len(vals), Slots: make([]impl.Slot, n)}
	for i := range n {
		k := head + i
		r.Slots[k%n] = impl.Slot{Seq: k}
		if i < len(vals) {
			r.Slots[k%n] = impl.Slot{Seq: k + 1, Val: vals[i]}
		}
	}
	return r
}

// turnOf returns the number whose turn the slot has: the one among the n numbers from the head on.
func turnOf(r impl.Ring, slot int) int {
	n := len(r.Slots)
	return r.Head + (slot-r.Head%n+n)%n
}

func validRing(r impl.Ring) bool {
	n := len(r.Slots)
	if n == 0 || n > 32 || r.Head < 0 || r.Tail > lastTail || r.Head > r.Tail || r.Tail-r.Head > n {
		return false
	}
	for i, s := range r.Slots {
		k := turnOf(r, i)
		if s.Val < 0 || s.Val > 255 {
			return false
		}
		if k < r.Tail && s.Seq != k+1 {
			return false
		}
		if k >= r.Tail && (s.Seq != k || s.Val != 0) {
			return false
		}
	}
	return true
}

// valsOf returns the elements of a valid ring, in order.
func valsOf(r impl.Ring) []int {
	list := []int{}
	for k := r.Head; k < r.Tail; k++ {
		list = append(list, r.Slots[k%len(r.Slots)].Val)
	}
	return list
}

func sameRing(a impl.Ring, b impl.Ring) bool {
	return a.Head == b.Head && a.Tail == b.Tail && slices.Equal(a.Slots, b.Slots)
}

// checkRing checks a valid ring, and what it says of itself.
func checkRing(t *testing.T, r impl.Ring) {
	t.Helper()
	if !validRing(r) || !impl.RingOk(r) {
		t.Fatalf("RingOk(%+v): got %v, the model says %v", r, impl.RingOk(r), validRing(r))
	}
	if list := impl.RingList(r); !slices.Equal(list, valsOf(r)) {
		t.Errorf("RingList(%+v): got %v", r, list)
	}
	for i := range r.Slots {
		want := 0
		if turnOf(r, i) < r.Tail {
			want = 1
		}
		if turn := impl.RingTurn(r, i); turn != want {
			t.Errorf("RingTurn(%+v, %d): got %d, want %d", r, i, turn, want)
		}
	}
	checkNoTurn(t, r, -1)
	checkNoTurn(t, r, len(r.Slots))
}

func checkNoTurn(t *testing.T, r impl.Ring, slot int) {
	t.Helper()
	if turn := impl.RingTurn(r, slot); turn != -1 {
		t.Errorf("RingTurn(%+v, %d): got %d, want -1", r, slot, turn)
	}
}

func checkPush(t *testing.T, r impl.Ring, val int, want impl.Ring) impl.Ring {
	t.Helper()
	got, ok := impl.RingPush(r, val)
	if !ok || !sameRing(got, want) {
		t.Errorf("RingPush(%+v, %d): got %+v %v, want %+v true", r, val, got, ok, want)
	}
	return got
}

func checkPushRefused(t *testing.T, r impl.Ring, val int) {
	t.Helper()
	if got, ok := impl.RingPush(r, val); ok || !sameRing(got, impl.Ring{}) {
		t.Errorf("RingPush(%+v, %d): got %+v %v, want zero values", r, val, got, ok)
	}
}

func checkPop(t *testing.T, r impl.Ring, want impl.Ring, val int) impl.Ring {
	t.Helper()
	got, gotVal, ok := impl.RingPop(r)
	if !ok || gotVal != val || !sameRing(got, want) {
		t.Errorf("RingPop(%+v): got %+v %d %v, want %+v %d true", r, got, gotVal, ok, want, val)
	}
	return got
}

func checkPopRefused(t *testing.T, r impl.Ring) {
	t.Helper()
	if got, val, ok := impl.RingPop(r); ok || val != 0 || !sameRing(got, impl.Ring{}) {
		t.Errorf("RingPop(%+v): got %+v %d %v, want zero values", r, got, val, ok)
	}
}

// checkRingRefused checks that every function refuses what is not a valid ring.
func checkRingRefused(t *testing.T, r impl.Ring) {
	t.Helper()
	if impl.RingOk(r) {
		t.Errorf("RingOk(%+v): got true", r)
	}
	checkPushRefused(t, r, 0)
	checkPushRefused(t, r, 7)
	checkPopRefused(t, r)
	if list := impl.RingList(r); len(list) != 0 {
		t.Errorf("RingList(%+v): got %v", r, list)
	}
	for i := -1; i <= len(r.Slots); i++ {
		checkNoTurn(t, r, i)
	}
}

// checkAgainstModel checks a ring of which it is not known whether it is valid, and returns whether it is.
func checkAgainstModel(t *testing.T, r impl.Ring) bool {
	t.Helper()
	if !validRing(r) {
		checkRingRefused(t, r)
		return false
	}
	checkRing(t, r)
	n, vals := len(r.Slots), valsOf(r)
	if len(vals) == n || r.Tail == lastTail {
		checkPushRefused(t, r, 9)
	} else {
		checkPush(t, r, 9, ringWith(n, r.Head, append(slices.Clone(vals), 9)...))
	}
	if len(vals) == 0 {
		checkPopRefused(t, r)
	} else {
		checkPop(t, r, ringWith(n, r.Head+1, vals[1:]...), vals[0])
	}
	return true
}

func badRingSizes() []int {
	return distinct(-1, 0, 33, -2, -32, 34, 64, 256, 256+1, 1<<16+1, 1<<32, 1<<32+1, 1<<32+32, -1<<32+1, math.MinInt, math.MinInt+1, math.MaxInt, math.MaxInt-1)
}

func badVals() []int {
	return distinct(-1, 256, -2, 257, -255, -256, 511, 512, 1<<16, 1<<32, 1<<32+7, -1<<32+7, math.MinInt, math.MinInt+7, math.MaxInt)
}

// someVals returns n elements, different ones, with both limits among them.
func someVals(n int) []int {
	list := []int{}
	for i := range n {
		list = append(list, []int{255, 0, 1, 128, 254, 7}[i%6]^i/6)
	}
	return list
}

// headsFor returns heads in every place of the first three passes through n slots, and some before a Tail of the limit.
func headsFor(n int) []int {
	heads := span(0, 3*n+1)
	for _, far := range []int{255, 256, 65535, 65536, lastTail - n - 1, lastTail - n, lastTail - n + 1, lastTail - 1, lastTail} {
		heads = append(heads, far)
	}
	return distinct(heads...)
}

// validRings yields rings of many sizes, in many places and with every number of elements.
func validRings() iter.Seq[impl.Ring] {
	return func(yield func(impl.Ring) bool) {
		for _, n := range []int{1, 2, 3, 4, 5, 8, 31, 32} {
			for _, head := range headsFor(n) {
				for count := range n + 1 {
					if head+count <= lastTail && !yield(ringWith(n, head, someVals(count)...)) {
						return
					}
				}
			}
		}
	}
}

func TestRingNew(t *testing.T) {
	for n := 1; n <= 32; n++ {
		r, ok := impl.RingNew(n)
		if !ok || !sameRing(r, ringWith(n, 0)) {
			t.Errorf("RingNew(%d): got %+v %v", n, r, ok)
			continue
		}
		checkAgainstModel(t, r)
	}
}

func TestRingNewOfBadSizes(t *testing.T) {
	for _, n := range badRingSizes() {
		if r, ok := impl.RingNew(n); ok || !sameRing(r, impl.Ring{}) {
			t.Errorf("RingNew(%d): got %+v %v, want zero values", n, r, ok)
		}
	}
}

func TestValidRings(t *testing.T) {
	count := 0
	for r := range validRings() {
		if !checkAgainstModel(t, r) {
			t.Errorf("the model refuses %+v", r)
		}
		count++
	}
	if count < 5000 {
		t.Errorf("only %d rings", count)
	}
}

// The slots after one and after two passes, written out.
func TestPassesThroughTheSlots(t *testing.T) {
	slots := func(list ...int) []impl.Slot {
		made := []impl.Slot{}
		for i := 0; i < len(list); i += 2 {
			made = append(made, impl.Slot{Seq: list[i], Val: list[i+1]})
		}
		return made
	}
	steps := []struct {
		push int // or -1 to pop what comes first
		want impl.Ring
	}{
		{50, impl.Ring{Head: 0, Tail: 1, Slots: slots(1, 50, 1, 0, 2, 0)}},
		{51, impl.Ring{Head: 0, Tail: 2, Slots: slots(1, 50, 2, 51, 2, 0)}},
		{-1, impl.Ring{Head: 1, Tail: 2, Slots: slots(3, 0, 2, 51, 2, 0)}},
		{52, impl.Ring{Head: 1, Tail: 3, Slots: slots(3, 0, 2, 51, 3, 52)}},
		{53, impl.Ring{Head: 1, Tail: 4, Slots: slots(4, 53, 2, 51, 3, 52)}},
		{-1, impl.Ring{Head: 2, Tail: 4, Slots: slots(4, 53, 4, 0, 3, 52)}},
		{-1, impl.Ring{Head: 3, Tail: 4, Slots: slots(4, 53, 4, 0, 5, 0)}},
		{54, impl.Ring{Head: 3, Tail: 5, Slots: slots(4, 53, 5, 54, 5, 0)}},
		{55, impl.Ring{Head: 3, Tail: 6, Slots: slots(4, 53, 5, 54, 6, 55)}},
		{-1, impl.Ring{Head: 4, Tail: 6, Slots: slots(6, 0, 5, 54, 6, 55)}},
		{56, impl.Ring{Head: 4, Tail: 7, Slots: slots(7, 56, 5, 54, 6, 55)}},
		{-1, impl.Ring{Head: 5, Tail: 7, Slots: slots(7, 56, 7, 0, 6, 55)}},
		{-1, impl.Ring{Head: 6, Tail: 7, Slots: slots(7, 56, 7, 0, 8, 0)}},
		{-1, impl.Ring{Head: 7, Tail: 7, Slots: slots(9, 0, 7, 0, 8, 0)}},
	}
	r, _ := impl.RingNew(3)
	first := 50
	for _, s := range steps {
		if s.push >= 0 {
			r = checkPush(t, r, s.push, s.want)
		} else {
			r = checkPop(t, r, s.want, first)
			first++
		}
		checkAgainstModel(t, r)
	}
}

// In a ring of one slot every number has its turn at the same index.
func TestRingOfOneSlot(t *testing.T) {
	r, _ := impl.RingNew(1)
	for k := range 5 {
		if turn := impl.RingTurn(r, 0); turn != 0 {
			t.Errorf("RingTurn(%+v, 0): got %d, want 0", r, turn)
		}
		r = checkPush(t, r, k+1, impl.Ring{Head: k, Tail: k + 1, Slots: []impl.Slot{{Seq: k + 1, Val: k + 1}}})
		if turn := impl.RingTurn(r, 0); turn != 1 {
			t.Errorf("RingTurn(%+v, 0): got %d, want 1", r, turn)
		}
		checkPushRefused(t, r, 1)
		r = checkPop(t, r, impl.Ring{Head: k + 1, Tail: k + 1, Slots: []impl.Slot{{Seq: k + 1}}}, k+1)
		checkPopRefused(t, r)
	}
}

func TestPushOfEveryValue(t *testing.T) {
	for _, r := range []impl.Ring{ringWith(1, 0), ringWith(4, 7, 1, 2), ringWith(32, 500, someVals(31)...)} {
		n, vals := len(r.Slots), valsOf(r)
		for val := range 256 {
			want := ringWith(n, r.Head, append(slices.Clone(vals), val)...)
			checkRing(t, checkPush(t, r, val, want))
		}
	}
}

func TestPushOfBadValues(t *testing.T) {
	for _, r := range []impl.Ring{ringWith(1, 0), ringWith(4, 7, 1, 2), ringWith(32, 500, someVals(31)...)} {
		for _, val := range badVals() {
			checkPushRefused(t, r, val)
		}
	}
}

// The value 0 is an element like others.
func TestRingOfZeros(t *testing.T) {
	r := ringWith(3, 4, 0, 0)
	checkAgainstModel(t, r)
	if list := impl.RingList(r); len(list) != 2 {
		t.Errorf("RingList(%+v): got %v", r, list)
	}
	r = checkPush(t, r, 0, ringWith(3, 4, 0, 0, 0))
	checkPushRefused(t, r, 0)
	checkPop(t, r, ringWith(3, 5, 0, 0), 0)
}

func TestRingAtTheLastTail(t *testing.T) {
	for n := 1; n <= 32; n++ {
		for count := range n {
			r := ringWith(n, lastTail-1-count, someVals(count)...)
			r = checkPush(t, r, 200, ringWith(n, r.Head, append(someVals(count), 200)...))
			checkRing(t, r)
			checkPushRefused(t, r, 200)
			for _, val := range append(someVals(count), 200) {
				r = checkPop(t, r, ringWith(n, r.Head+1, valsOf(r)[1:]...), val)
				checkRing(t, r)
				checkPushRefused(t, r, 200)
			}
			checkPopRefused(t, r)
		}
		for count := range n + 1 {
			checkRingRefused(t, ringWith(n, lastTail+1-count, someVals(count)...))
		}
	}
}

func TestTurnOfBadSlots(t *testing.T) {
	for _, r := range []impl.Ring{ringWith(1, 0, 5), ringWith(2, 3, 1, 2), ringWith(32, 40, someVals(32)...)} {
		n := len(r.Slots)
		for _, slot := range distinct(-1, -2, -n, n, n+1, 2*n, r.Head+n, r.Tail+n, 256, 1<<32, 1<<32+1, -1<<32, math.MinInt, math.MinInt+1, math.MaxInt) {
			checkNoTurn(t, r, slot)
		}
	}
}

// changedRings yields the ring with one of its numbers replaced.
func changedRings(r impl.Ring) iter.Seq[impl.Ring] {
	return func(yield func(impl.Ring) bool) {
		n := len(r.Slots)
		replace := func(field func(*impl.Ring) *int, others ...int) bool {
			was := *field(&r)
			for _, d := range []int{-2*n - 1, -2 * n, -n - 1, -n, -n + 1, -2, -1, 1, 2, n - 1, n, n + 1, 2 * n, 256, 1 << 32, -1 << 32} {
				others = append(others, was+d)
			}
			for _, x := range distinct(append(others, math.MinInt, math.MinInt+1, math.MaxInt, math.MaxInt-1)...) {
				changed := impl.Ring{Head: r.Head, Tail: r.Tail, Slots: slices.Clone(r.Slots)}
				*field(&changed) = x
				if x != was && !yield(changed) {
					return false
				}
			}
			return true
		}
		if !replace(func(r *impl.Ring) *int { return &r.Head }) || !replace(func(r *impl.Ring) *int { return &r.Tail }) {
			return
		}
		for i := range n {
			seq := func(r *impl.Ring) *int { return &r.Slots[i].Seq }
			val := func(r *impl.Ring) *int { return &r.Slots[i].Val }
			if !replace(seq) || !replace(val, badVals()...) {
				return
			}
		}
	}
}

func TestRingsWithOneNumberChanged(t *testing.T) {
	valid, refused := 0, 0
	for _, n := range []int{1, 2, 3, 5, 32} {
		for _, head := range []int{0, 1, n - 1, n, n + 1, 3*n - 1, lastTail - n, lastTail - n + 1} {
			for _, count := range distinct(0, 1, n/2, n-1, n) {
				if head+count > lastTail {
					continue
				}
				for r := range changedRings(ringWith(n, head, someVals(count)...)) {
					if checkAgainstModel(t, r) {
						valid++
					} else {
						refused++
					}
				}
			}
		}
	}
	if valid < 100 || refused < 1000 {
		t.Errorf("only %d valid rings and %d others", valid, refused)
	}
}

func TestRingsOfBadSizes(t *testing.T) {
	checkRingRefused(t, impl.Ring{})
	checkRingRefused(t, impl.Ring{Slots: []impl.Slot{}})
	checkRingRefused(t, impl.Ring{Head: 1, Tail: 1})
	checkRingRefused(t, impl.Ring{Head: 0, Tail: 1})
	for _, n := range []int{33, 34, 64, 256, 257} {
		checkRingRefused(t, ringWith(n, 0))
		checkRingRefused(t, ringWith(n, 3, 1, 2))
		checkRingRefused(t, ringWith(n, n+1, someVals(n)...))
	}
	for _, n := range []int{1, 2, 5, 31, 32} {
		for _, head := range []int{0, n, 2*n + 1} {
			r := ringWith(n, head, someVals(n)...)
			checkRingRefused(t, impl.Ring{Head: r.Head, Tail: r.Tail, Slots: r.Slots[:n-1]})
			checkRingRefused(t, impl.Ring{Head: r.Head, Tail: r.Tail, Slots: append(slices.Clone(r.Slots), impl.Slot{})})
		}
	}
}

// Numbers whose sums with the number of slots are more than an int.
func TestRingsOfFarNumbers(t *testing.T) {
	for _, n := range []int{1, 2, 7, 32} {
		for _, head := range []int{math.MinInt, math.MinInt + 1, -1 << 32, math.MaxInt - n, math.MaxInt - 1, math.MaxInt, 1 << 32, -n, -1} {
			for _, tail := range []int{head, head + 1, head + n - 1, head + n, 0, 1, math.MinInt, math.MaxInt, lastTail} {
				slots := slices.Clone(ringWith(n, 0).Slots)
				checkRingRefused(t, impl.Ring{Head: head, Tail: tail, Slots: slots})
				for i := range slots {
					slots[i].Seq = head + i
				}
				checkRingRefused(t, impl.Ring{Head: head, Tail: tail, Slots: slots})
			}
		}
	}
}

// Every ring of one or two slots with small numbers.
func TestEverySmallRing(t *testing.T) {
	slots := []impl.Slot{}
	for seq := -1; seq <= 6; seq++ {
		for _, val := range []int{-1, 0, 1, 255, 256} {
			slots = append(slots, impl.Slot{Seq: seq, Val: val})
		}
	}
	valid := 0
	check := func(list ...impl.Slot) {
		for head := -1; head <= 4; head++ {
			for tail := -1; tail <= 6; tail++ {
				r := impl.Ring{Head: head, Tail: tail, Slots: list}
				if impl.RingOk(r) != validRing(r) {
					t.Errorf("RingOk(%+v): got %v, want %v", r, impl.RingOk(r), validRing(r))
				}
				if validRing(r) {
					checkAgainstModel(t, r)
					valid++
				}
			}
		}
	}
	for _, a := range slots {
		check(a)
		for _, b := range slots {
			check(a, b)
		}
	}
	if valid == 0 {
		t.Error("none of the rings was valid")
	}
}

// sparedRing returns the ring with slots behind its own, which continue it, and all of its memory.
func sparedRing(r impl.Ring) (impl.Ring, []impl.Slot) {
	array := slices.Clone(r.Slots)
	for i := range 12 {
		array = append(array, impl.Slot{Seq: r.Head + len(r.Slots) + i, Val: 77})
	}
	r.Slots = array[:len(r.Slots)]
	return r, array
}

func overwriteSlots(list []impl.Slot) {
	for i := range list[:cap(list)] {
		list[:cap(list)][i] = impl.Slot{Seq: -5, Val: -6}
	}
}

func TestRingResultsAreNewMemory(t *testing.T) {
	calls := map[string]func(r impl.Ring) impl.Ring{
		"RingPush": func(r impl.Ring) impl.Ring { next, _ := impl.RingPush(r, 5); return next },
		"RingPop":  func(r impl.Ring) impl.Ring { next, _, _ := impl.RingPop(r); return next },
		"RingNew":  func(r impl.Ring) impl.Ring { next, _ := impl.RingNew(len(r.Slots)); return next },
	}
	for name, call := range calls {
		for _, plain := range []impl.Ring{ringWith(1, 0), ringWith(1, 4, 3), ringWith(4, 0), ringWith(4, 6, 1, 2, 3), ringWith(4, 6, 1, 2, 3, 4), ringWith(32, 33, someVals(20)...)} {
			r, array := sparedRing(plain)
			was := slices.Clone(array)
			first, second := call(r), call(r)
			wanted := slices.Clone(second.Slots)
			overwriteSlots(first.Slots)
			if !slices.Equal(array, was) || !slices.Equal(second.Slots, wanted) {
				t.Errorf("%s(%+v): the argument or its spare capacity is changed or shared", name, plain)
			}
			overwriteSlots(array)
			if !slices.Equal(second.Slots, wanted) {
				t.Errorf("%s(%+v): the result is in the memory of the argument", name, plain)
			}
		}
	}
}

func TestRingListIsNewMemory(t *testing.T) {
	for _, plain := range []impl.Ring{ringWith(1, 4, 3), ringWith(4, 6, 1, 2, 3), ringWith(32, 33, someVals(32)...)} {
		r, array := sparedRing(plain)
		was := slices.Clone(array)
		checkNewInts(t, "RingList", nil, func() []int { return impl.RingList(r) })
		list := impl.RingList(r)
		if overwriteInts(list); !slices.Equal(array, was) {
			t.Errorf("RingList(%+v): the argument is changed", plain)
		}
		checkRing(t, r)
		impl.RingOk(r)
		impl.RingTurn(r, 0)
		if !slices.Equal(array, was) {
			t.Errorf("%+v: the argument or its spare capacity is changed", plain)
		}
	}
}

// Slots behind the end of the list are not slots of the ring.
func TestSpareSlotsAreNotRead(t *testing.T) {
	for _, n := range []int{1, 2, 5, 32} {
		for _, head := range []int{0, n, 2*n + 1} {
			for count := range n + 1 {
				r, _ := sparedRing(ringWith(n, head, someVals(count)...))
				checkAgainstModel(t, r)
			}
		}
	}
	whole := ringWith(4, 5, 1, 2, 3)
	whole.Slots = whole.Slots[:3]
	checkRingRefused(t, whole)
	whole.Slots = whole.Slots[:0]
	checkRingRefused(t, whole)
}
