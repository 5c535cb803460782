package tests

import (
	"math"
	"slices"
	"testing"

	"loop.example/g00709/impl"
)

// Promise 5, warp-level primitives: NthLane and RankOf are inverse to each
// other, every lane of a mask is in one group, with the lanes that have the
// same value, and spreading gathered values restores the row.

const spareInt = -9182736455 // fills the capacity behind a list of integers

// sparedInts returns a list with these elements and with marked capacity
// behind them, and the whole array, in which a test sees any write.
func sparedInts(list []int) ([]int, []int) {
	array := append(slices.Clone(list), slices.Repeat([]int{spareInt}, 12)...)
	return array[:len(list)], array
}

// overwriteInts writes every element of a list and of the capacity behind it.
func overwriteInts(list []int) {
	for i := range list[:cap(list)] {
		list[:cap(list)][i] ^= 0x5555
	}
}

// badMasks has every bit above the lanes, alone and beside bits of lanes.
func badMasks() []uint32 {
	list := []uint32{top, top - 255, 0x1ff, 0xff00, 0x10001, 0x80000001}
	for at := impl.Lanes; at < 32; at++ {
		bit := sumOfBits([]int{at})
		list = append(list, bit, bit+1, bit+47, bit+128, bit+255)
	}
	return list
}

// rows has the document's row, the edges, and a fixed sequence of rows of few values.
func rows() [][]int {
	list := [][]int{
		{5, 3, 5, 3, 7, 5, 0, 0},
		{0, 0, 0, 0, 0, 0, 0, 0},
		{-1, -1, -1, -1, -1, -1, -1, -1},
		{0, 1, 2, 3, 4, 5, 6, 7},
		{-7, 6, -5, 4, -3, 2, -1, 0},
		{1, 1, 1, 1, 2, 2, 2, 2},
		{1, 2, 1, 2, 1, 2, 1, 2},
		{9, 4, 4, 4, 4, 4, 4, 9},
		{4, 4, 4, 4, 4, 4, 4, 9},
		{9, 4, 4, 4, 4, 4, 4, 4},
		{math.MinInt, math.MaxInt, math.MinInt, -1, 1, math.MaxInt, 0, math.MinInt},
		slices.Repeat([]int{math.MinInt}, impl.Lanes),
		slices.Repeat([]int{math.MaxInt}, impl.Lanes),
		// Values that are equal in their low 32 bits, or but for the sign, are not equal.
		{0, 1 << 32, 1 << 40, 0, math.MinInt, 1 << 32, -1 << 32, 0},
		{-1, math.MaxUint32, math.MaxInt32, math.MinInt32, 1 << 31, 1, -math.MaxInt32, math.MaxInt},
		{math.MaxInt, math.MaxInt - 1, math.MinInt, math.MinInt + 1, math.MaxInt, math.MaxInt - 1, math.MinInt, math.MinInt + 1},
	}
	mixed := uint32(3)
	for values := range 8 {
		for range 6 {
			r := make([]int, impl.Lanes)
			for lane := range r {
				mixed = mixed*1664525 + 1013904223
				r[lane] = int(mixed>>16)%(values+1) - 3
			}
			list = append(list, r)
		}
	}
	return list
}

// badRows has lists that are not rows, of 0, Lanes - 1, Lanes + 1 and more elements.
func badRows() [][]int {
	list := [][]int{nil, {}}
	for _, n := range []int{1, 2, impl.Lanes - 1, impl.Lanes + 1, 2 * impl.Lanes, 32, 33} {
		list = append(list, make([]int, n), span(4, n))
	}
	return list
}

func lanesOf(mask uint32) []int {
	return bitNumbers(mask, impl.Lanes, true)
}

func pick(list []int, at []int) []int {
	var out []int
	for _, i := range at {
		out = append(out, list[i])
	}
	return out
}

func TestLaneExamples(t *testing.T) {
	mask, ok := impl.Ballot([]bool{true, false, true, false, false, false, false, true})
	if mask != 133 || !ok {
		t.Errorf("Ballot: got %d %v, want 133 true", mask, ok)
	}
	vals := []int{5, 3, 5, 3, 7, 5, 0, 0}
	if list := impl.Groups(vals, 47); !slices.Equal(list, []uint32{37, 10}) {
		t.Errorf("Groups: got %v, want 37 and 10", list)
	}
	if list := impl.Gather(vals, 47); !slices.Equal(list, []int{5, 3, 5, 3, 5}) {
		t.Errorf("Gather: got %v", list)
	}
	if list := impl.Spread(vals, 10, []int{8, 9}); !slices.Equal(list, []int{5, 8, 5, 9, 7, 5, 0, 0}) {
		t.Errorf("Spread: got %v", list)
	}
}

func TestBallotOfEveryMask(t *testing.T) {
	for mask := range uint32(256) {
		array := slices.Repeat([]bool{true}, 2*impl.Lanes)
		for lane := range impl.Lanes {
			array[lane] = bitAt(mask, lane)
		}
		was := slices.Clone(array)
		got, ok := impl.Ballot(array[:impl.Lanes])
		if got != mask || !ok {
			t.Errorf("Ballot(%v): got %d %v, want %d true", array[:impl.Lanes], got, ok, mask)
		}
		if !slices.Equal(array, was) {
			t.Errorf("Ballot(%v): the list or its spare capacity is changed", was[:impl.Lanes])
		}
	}
}

func TestBallotRefused(t *testing.T) {
	for _, n := range []int{0, 1, impl.Lanes - 1, impl.Lanes + 1, 2 * impl.Lanes, 32, 33, 100} {
		for _, vote := range []bool{false, true} {
			array := slices.Repeat([]bool{vote}, n+impl.Lanes)
			was := slices.Clone(array)
			mask, ok := impl.Ballot(array[:n])
			if mask != 0 || ok {
				t.Errorf("Ballot of %d elements %v: got %d %v, want 0 false", n, vote, mask, ok)
			}
			if !slices.Equal(array, was) {
				t.Errorf("Ballot of %d elements %v: the list is changed", n, vote)
			}
		}
	}
	if mask, ok := impl.Ballot(nil); mask != 0 || ok {
		t.Errorf("Ballot(nil): got %d %v, want 0 false", mask, ok)
	}
}

func TestLeaderIsTheLowestLane(t *testing.T) {
	for mask := range uint32(256) {
		want := -1
		if lanes := lanesOf(mask); len(lanes) > 0 {
			want = lanes[0]
		}
		if got := impl.Leader(mask); got != want {
			t.Errorf("Leader(%d): got %d, want %d", mask, got, want)
		}
	}
	if impl.Leader(0) != -1 || impl.Leader(255) != 0 || impl.Leader(128) != 7 {
		t.Error("Leader of the empty mask, of all lanes and of the last lane")
	}
}

func TestRankCountsTheLanesBelow(t *testing.T) {
	for mask := range uint32(256) {
		lanes := lanesOf(mask)
		for lane := -40; lane <= 72; lane++ {
			want := slices.Index(lanes, lane)
			if got := impl.RankOf(mask, lane); got != want {
				t.Errorf("RankOf(%d, %d): got %d, want %d", mask, lane, got, want)
			}
		}
		for _, lane := range []int{math.MinInt, math.MinInt32, -1 << 32, 1 << 32, 1<<32 + 1, math.MaxInt} {
			if got := impl.RankOf(mask, lane); got != -1 {
				t.Errorf("RankOf(%d, %d): got %d, want -1", mask, lane, got)
			}
		}
	}
}

func TestNthLaneHasTheRank(t *testing.T) {
	for mask := range uint32(256) {
		lanes := lanesOf(mask)
		for n, lane := range lanes {
			if got := impl.NthLane(mask, n); got != lane {
				t.Errorf("NthLane(%d, %d): got %d, want %d", mask, n, got, lane)
			}
		}
		none := []int{math.MinInt, math.MinInt + 1, math.MinInt32, -8, -2, -1, len(lanes), len(lanes) + 1, 8, 9, 31, 32, 256, 1 << 32, math.MaxInt - 1, math.MaxInt}
		for _, n := range none {
			if got := impl.NthLane(mask, n); got != -1 {
				t.Errorf("NthLane(%d, %d): got %d, want -1", mask, n, got)
			}
		}
	}
}

func TestNthLaneAndRankAreInverse(t *testing.T) {
	for mask := range uint32(256) {
		for lane := range impl.Lanes {
			rank := impl.RankOf(mask, lane)
			if bitAt(mask, lane) != (rank >= 0) {
				t.Errorf("RankOf(%d, %d): got %d", mask, lane, rank)
			}
			if rank >= 0 && impl.NthLane(mask, rank) != lane {
				t.Errorf("NthLane(%d, %d): got %d, want %d", mask, rank, impl.NthLane(mask, rank), lane)
			}
		}
		for n := range impl.Lanes {
			lane := impl.NthLane(mask, n)
			if lane >= 0 && impl.RankOf(mask, lane) != n {
				t.Errorf("RankOf(%d, %d): got %d, want %d", mask, lane, impl.RankOf(mask, lane), n)
			}
		}
	}
}

func TestBitsAboveTheLanesAreNoMask(t *testing.T) {
	vals := []int{5, 3, 5, 3, 7, 5, 0, 0}
	same := slices.Repeat([]int{4}, impl.Lanes)
	for _, mask := range badMasks() {
		if got := impl.Leader(mask); got != -1 {
			t.Errorf("Leader(%d): got %d, want -1", mask, got)
		}
		for n := -2; n <= 33; n++ {
			if got := impl.RankOf(mask, n); got != -1 {
				t.Errorf("RankOf(%d, %d): got %d, want -1", mask, n, got)
			}
			if got := impl.NthLane(mask, n); got != -1 {
				t.Errorf("NthLane(%d, %d): got %d, want -1", mask, n, got)
			}
		}
		for _, r := range [][]int{vals, same} {
			checkRowRefused(t, r, mask)
		}
	}
}

func TestListsThatAreNoRows(t *testing.T) {
	for _, list := range badRows() {
		for _, mask := range []uint32{0, 1, 3, 47, 64, 128, 255, 256, 511, top} {
			checkRowRefused(t, list, mask)
		}
	}
}

// checkRowRefused checks the functions that return nothing if the list is not a row or the mask is not a mask.
func checkRowRefused(t *testing.T, list []int, mask uint32) {
	t.Helper()
	vals, array := sparedInts(list)
	was := slices.Clone(array)
	if got := impl.GroupOf(vals, mask); got != 0 {
		t.Errorf("GroupOf(%v, %d): got %d, want 0", list, mask, got)
	}
	if got := impl.Groups(vals, mask); len(got) != 0 {
		t.Errorf("Groups(%v, %d): got %v, want nil", list, mask, got)
	}
	if got := impl.Gather(vals, mask); len(got) != 0 {
		t.Errorf("Gather(%v, %d): got %v, want nil", list, mask, got)
	}
	for n := range impl.Lanes + 2 {
		if got := impl.Spread(vals, mask, span(90, n)); len(got) != 0 {
			t.Errorf("Spread(%v, %d, %d values): got %v, want nil", list, mask, n, got)
		}
	}
	if !slices.Equal(array, was) {
		t.Errorf("%v, %d: the list or its spare capacity is changed", list, mask)
	}
}

// groupsOf takes, as the document says, the lanes with the leader's value, and again among the remaining ones.
func groupsOf(vals []int, mask uint32) []uint32 {
	var list []uint32
	for left := lanesOf(mask); len(left) > 0; {
		x := vals[left[0]]
		differs := func(lane int) bool { return vals[lane] != x }
		list = append(list, sumOfBits(slices.DeleteFunc(slices.Clone(left), differs)))
		left = slices.DeleteFunc(left, func(lane int) bool { return !differs(lane) })
	}
	return list
}

func TestGroupsOfEveryMask(t *testing.T) {
	for _, r := range rows() {
		vals, array := sparedInts(r)
		was := slices.Clone(array)
		for mask := range uint32(256) {
			want := groupsOf(r, mask)
			if got := impl.Groups(vals, mask); !slices.Equal(got, want) {
				t.Errorf("Groups(%v, %d): got %v, want %v", r, mask, got, want)
			}
			first := uint32(0)
			if len(want) > 0 {
				first = want[0]
			}
			if got := impl.GroupOf(vals, mask); got != first {
				t.Errorf("GroupOf(%v, %d): got %d, want %d", r, mask, got, first)
			}
		}
		if !slices.Equal(array, was) {
			t.Errorf("%v: the row or its spare capacity is changed", r)
		}
	}
}

func TestEveryLaneIsInOneGroup(t *testing.T) {
	for _, r := range rows() {
		for mask := range uint32(256) {
			groups := impl.Groups(r, mask)
			for lane := range impl.Lanes {
				var with []int
				for other := range impl.Lanes {
					if bitAt(mask, lane) && bitAt(mask, other) && r[other] == r[lane] {
						with = append(with, other)
					}
				}
				in := slices.DeleteFunc(slices.Clone(groups), func(g uint32) bool { return !bitAt(g, lane) })
				if len(with) == 0 && len(in) != 0 {
					t.Errorf("Groups(%v, %d): lane %d is in %v, not in the mask", r, mask, lane, in)
				}
				if len(with) > 0 && !slices.Equal(in, []uint32{sumOfBits(with)}) {
					t.Errorf("Groups(%v, %d): lane %d is in %v, want one group of the lanes %v", r, mask, lane, in, with)
				}
			}
		}
	}
}

func TestGroupEdges(t *testing.T) {
	same := slices.Repeat([]int{math.MinInt}, impl.Lanes)
	different := []int{7, 6, 5, 4, -4, -5, -6, -7}
	cases := []struct {
		vals []int
		mask uint32
		want []uint32
	}{
		{same, 0, nil},
		{same, 1, []uint32{1}},
		{same, 90, []uint32{90}},
		{same, 255, []uint32{255}},
		{different, 0, nil},
		{different, 128, []uint32{128}},
		{different, 90, []uint32{2, 8, 16, 64}},
		{different, 255, []uint32{1, 2, 4, 8, 16, 32, 64, 128}},
		{[]int{4, 4, 4, 4, 4, 4, 4, 9}, 127, []uint32{127}}, // the other value is outside of the mask
		{[]int{9, 4, 4, 4, 4, 4, 4, 9}, 126, []uint32{126}},
		{[]int{9, 4, 4, 4, 4, 4, 4, 9}, 255, []uint32{129, 126}},
		{[]int{9, 4, 4, 4, 4, 4, 4, 9}, 254, []uint32{126, 128}}, // in the order of the leaders, not of the values
	}
	for _, c := range cases {
		if got := impl.Groups(c.vals, c.mask); !slices.Equal(got, c.want) {
			t.Errorf("%v: got %v", c, got)
		}
	}
}

func TestGatherInOrderOfLanes(t *testing.T) {
	for _, r := range rows() {
		vals, array := sparedInts(r)
		was := slices.Clone(array)
		for mask := range uint32(256) {
			want := pick(r, lanesOf(mask))
			if got := impl.Gather(vals, mask); !slices.Equal(got, want) {
				t.Errorf("Gather(%v, %d): got %v, want %v", r, mask, got, want)
			}
		}
		if !slices.Equal(array, was) {
			t.Errorf("%v: the row or its spare capacity is changed", r)
		}
	}
}

func TestSpreadAsManyAsThereAre(t *testing.T) {
	for _, r := range rows() {
		for mask := range uint32(256) {
			lanes := lanesOf(mask)
			for n := range impl.Lanes + 4 { // fewer than the lanes of the mask, as many, and more
				old, oldArray := sparedInts(r)
				vals, valsArray := sparedInts(span(-900, n))
				oldWas, valsWas := slices.Clone(oldArray), slices.Clone(valsArray)
				want := slices.Clone(r)
				for i, lane := range firstOf(lanes, n) {
					want[lane] = -900 + i
				}
				if got := impl.Spread(old, mask, vals); !slices.Equal(got, want) {
					t.Errorf("Spread(%v, %d, %v): got %v, want %v", r, mask, vals, got, want)
				}
				if !slices.Equal(oldArray, oldWas) || !slices.Equal(valsArray, valsWas) {
					t.Errorf("Spread(%v, %d, %v): a list or its spare capacity is changed", r, mask, vals)
				}
			}
		}
	}
}

func TestSpreadEdges(t *testing.T) {
	old := []int{10, 11, 12, 13, 14, 15, 16, 17}
	cases := []struct {
		mask uint32
		vals []int
		want []int
	}{
		{0, nil, old},
		{0, []int{1, 2}, old},
		{255, nil, old},
		{255, []int{}, old},
		{255, []int{1, 2, 3, 4, 5, 6, 7, 8}, []int{1, 2, 3, 4, 5, 6, 7, 8}},
		{255, []int{1, 2, 3, 4, 5, 6, 7, 8, 9}, []int{1, 2, 3, 4, 5, 6, 7, 8}},
		{255, []int{1, 2, 3, 4, 5, 6, 7}, []int{1, 2, 3, 4, 5, 6, 7, 17}},
		{129, []int{math.MinInt, math.MaxInt, 5}, []int{math.MinInt, 11, 12, 13, 14, 15, 16, math.MaxInt}},
		{129, []int{-1}, []int{-1, 11, 12, 13, 14, 15, 16, 17}},
		{42, []int{0, 0, 0}, []int{10, 0, 12, 0, 14, 0, 16, 17}},
	}
	for _, c := range cases {
		if got := impl.Spread(old, c.mask, c.vals); !slices.Equal(got, c.want) {
			t.Errorf("%v: got %v", c, got)
		}
	}
	// One list may be both arguments.
	if got := impl.Spread(old, 170, old); !slices.Equal(got, []int{10, 10, 12, 11, 14, 12, 16, 13}) {
		t.Errorf("Spread of a row into itself: got %v", got)
	}
}

func TestSpreadingGatheredValuesRestoresTheRow(t *testing.T) {
	other := []int{101, 102, 103, 104, 105, 106, 107, 108}
	for _, r := range rows() {
		for mask := range uint32(256) {
			list := impl.Gather(r, mask)
			if got := impl.Spread(r, mask, list); !slices.Equal(got, r) {
				t.Errorf("%v, %d: the row is restored as %v", r, mask, got)
			}
			moved := impl.Spread(other, mask, list)
			if got := impl.Gather(moved, mask); !slices.Equal(got, list) {
				t.Errorf("%v, %d: %v is gathered as %v", r, mask, list, got)
			}
			rest := impl.Gather(r, 255-mask)
			if got := impl.Spread(moved, 255-mask, rest); !slices.Equal(got, r) {
				t.Errorf("%v, %d: the two parts of the row are put together as %v", r, mask, got)
			}
		}
	}
}

func TestListsOfLanesAreNewMemory(t *testing.T) {
	vals := slices.Repeat([]int{6}, 3)
	for _, r := range rows() {
		for _, mask := range []uint32{0, 1, 47, 128, 254, 255} {
			old, array := sparedInts(r)
			values, valuesArray := sparedInts(vals)
			checkNewInts(t, "Gather", array, func() []int { return impl.Gather(old, mask) })
			checkNewInts(t, "Spread", array, func() []int { return impl.Spread(old, mask, values) })
			checkNewInts(t, "Spread", valuesArray, func() []int { return impl.Spread(old, mask, values) })
			first := impl.Groups(old, mask)
			second := impl.Groups(old, mask)
			overwrite(first)
			if !slices.Equal(second, groupsOf(r, mask)) || !slices.Equal(impl.Groups(old, mask), second) {
				t.Errorf("Groups(%v, %d): two results share memory", r, mask)
			}
		}
	}
}

// checkNewInts checks that the results of two calls share no memory with each other or with an argument's array.
func checkNewInts(t *testing.T, name string, array []int, call func() []int) {
	t.Helper()
	arrayWas := slices.Clone(array)
	first, second := call(), call()
	was := slices.Clone(second)
	overwriteInts(first)
	if !slices.Equal(second, was) || !slices.Equal(call(), was) {
		t.Errorf("%s: two results share memory", name)
	}
	if !slices.Equal(array, arrayWas) {
		t.Errorf("%s: writing to the result changes the argument", name)
	}
	overwriteInts(array)
	if !slices.Equal(second, was) {
		t.Errorf("%s: writing to the argument changes the result", name)
	}
	copy(array, arrayWas)
}
