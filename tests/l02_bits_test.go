package tests

import (
	"math"
	"slices"
	"testing"

	"loop.example/g00709/impl"
)

// Promise 4, bit operations: a word is determined by its bits, the lowest
// bits are returned in order, and the longest free run is free.

// bitAt is worked out by division, not by the shifts that it is to check.
func bitAt(x uint32, at int) bool {
	for range at {
		x /= 2
	}
	return x%2 == 1
}

// bitNumbers returns the numbers below width of the bits that equal one.
func bitNumbers(x uint32, width int, one bool) []int {
	var list []int
	for at := range width {
		if bitAt(x, at) == one {
			list = append(list, at)
		}
	}
	return list
}

func sumOfBits(list []int) uint32 {
	var x uint32
	for _, at := range list {
		power := uint32(1)
		for range at {
			power *= 2
		}
		x += power
	}
	return x
}

// bitWords has the words of the edges, of one bit, of all bits but one, of
// one run of bits, and a fixed sequence of mixed ones.
func bitWords() []uint32 {
	list := append(edgeWords(), 22, 0x55555555, 0xaaaaaaaa, 0x0f0f0f0f, 0xff00ff00)
	for lo := range 32 {
		for hi := lo; hi < 32; hi++ {
			run := sumOfBits(span(lo, hi-lo+1))
			list = append(list, run, top-run)
		}
	}
	mixed := uint32(1)
	for range 200 {
		mixed = mixed*1664525 + 1013904223
		list = append(list, mixed, mixed&(mixed*69069), mixed|(mixed*69069))
	}
	return list
}

func span(start int, n int) []int {
	list := make([]int, n)
	for i := range list {
		list[i] = start + i
	}
	return list
}

// counts has the numbers of bits that are around the ends of 0..32, and around n.
func counts(n int) []int {
	return []int{math.MinInt, math.MinInt32, -32, -1, 0, 1, 2, n - 1, n, n + 1, 31, 32, 33, 1 << 32, math.MaxInt}
}

func badWidths() []int {
	return []int{math.MinInt, math.MinInt32, -33, -32, -1, 33, 34, 63, 64, 65, 1 << 32, 1<<32 + 5, math.MaxInt}
}

func firstOf(list []int, n int) []int {
	return list[:min(max(n, 0), len(list))]
}

func TestBitExamples(t *testing.T) {
	if impl.Ones(22) != 3 || impl.Lowest(22) != 1 || impl.Highest(22) != 4 {
		t.Errorf("22: got %d %d %d", impl.Ones(22), impl.Lowest(22), impl.Highest(22))
	}
	if impl.TakeLow(22, 2) != 6 || impl.FreeLow(22, 5, 2) != 9 {
		t.Errorf("22: got %d %d", impl.TakeLow(22, 2), impl.FreeLow(22, 5, 2))
	}
	if list := impl.BitList(22); !slices.Equal(list, []int{1, 2, 4}) {
		t.Errorf("22: got %v", list)
	}
}

func TestWordIsDeterminedByItsBits(t *testing.T) {
	for _, x := range bitWords() {
		want := bitNumbers(x, 32, true)
		list := impl.BitList(x)
		if !slices.Equal(list, want) {
			t.Errorf("BitList(%d): got %v, want %v", x, list, want)
		}
		checkBitsOf(t, list, x)
		slices.Reverse(list)
		checkBitsOf(t, list, x)
	}
}

func checkBitsOf(t *testing.T, list []int, want uint32) {
	t.Helper()
	array := append(slices.Clone(list), 3, -1, 99) // behind the list, where nothing counts
	arrayWas := slices.Clone(array)
	x, ok := impl.BitsOf(array[:len(list)])
	if !ok || x != want {
		t.Errorf("BitsOf(%v): got %d %v, want %d", list, x, ok, want)
	}
	if !slices.Equal(array, arrayWas) {
		t.Errorf("BitsOf(%v): the list or its spare capacity is changed", list)
	}
}

func TestBitsOfInAnyOrder(t *testing.T) {
	checkBitsOf(t, nil, 0)
	checkBitsOf(t, []int{}, 0)
	checkBitsOf(t, []int{0}, 1)
	checkBitsOf(t, []int{31}, 0x80000000)
	checkBitsOf(t, []int{4, 1, 2}, 22)
	checkBitsOf(t, []int{31, 0, 16}, 0x80010001)
	checkBitsOf(t, span(0, 32), top)
}

func TestBitsOfRefused(t *testing.T) {
	lists := [][]int{
		{-1}, {32}, {33}, {64}, {math.MinInt}, {math.MaxInt}, {1 << 32}, {-32},
		{5, 6, -1}, {-1, 5, 6}, {5, 32, 6}, {32, 32}, {-1, -1},
		{1, 1}, {0, 0}, {31, 31}, {1, 2, 1}, {2, 1, 1}, {7, 8, 9, 8, 10},
		append(span(0, 32), 0), append(span(0, 32), 31), span(0, 33), span(-1, 32),
	}
	for _, list := range lists {
		was := slices.Clone(list)
		x, ok := impl.BitsOf(list)
		if ok || x != 0 {
			t.Errorf("BitsOf(%v): got %d %v, want 0 false", list, x, ok)
		}
		if !slices.Equal(list, was) {
			t.Errorf("BitsOf(%v): the list is changed to %v", was, list)
		}
	}
}

func TestBitListIsNewMemory(t *testing.T) {
	for _, x := range []uint32{1, 22, 0x80000000, top} {
		first := impl.BitList(x)
		second := impl.BitList(x)
		was := slices.Clone(second)
		whole := first[:cap(first)]
		for i := range whole {
			whole[i] = -7
		}
		if !slices.Equal(second, was) || !slices.Equal(impl.BitList(x), was) {
			t.Errorf("BitList(%d): two results share memory", x)
		}
	}
	if list := impl.BitList(0); len(list) != 0 {
		t.Errorf("BitList(0): got %v", list)
	}
}

func TestCountAndEndsOfBits(t *testing.T) {
	for _, x := range bitWords() {
		list := bitNumbers(x, 32, true)
		low, high := -1, -1
		if len(list) > 0 {
			low, high = list[0], list[len(list)-1]
		}
		if impl.Ones(x) != len(list) || impl.Lowest(x) != low || impl.Highest(x) != high {
			t.Errorf("%d: got %d %d %d, want %d %d %d", x, impl.Ones(x), impl.Lowest(x), impl.Highest(x), len(list), low, high)
		}
	}
}

func TestEndsOfTheEdgeWords(t *testing.T) {
	cases := []struct {
		x               uint32
		ones, low, high int
	}{
		{0, 0, -1, -1},
		{1, 1, 0, 0},
		{0x80000000, 1, 31, 31},
		{0x80000001, 2, 0, 31},
		{top, 32, 0, 31},
	}
	for _, c := range cases {
		if impl.Ones(c.x) != c.ones || impl.Lowest(c.x) != c.low || impl.Highest(c.x) != c.high {
			t.Errorf("%v: got %d %d %d", c, impl.Ones(c.x), impl.Lowest(c.x), impl.Highest(c.x))
		}
	}
}

func TestMaskOfAWidth(t *testing.T) {
	for n := 0; n <= 32; n++ {
		if x := impl.MaskOf(n); x != sumOfBits(span(0, n)) {
			t.Errorf("MaskOf(%d): got %d", n, x)
		}
	}
	if impl.MaskOf(0) != 0 || impl.MaskOf(1) != 1 || impl.MaskOf(31) != 2147483647 || impl.MaskOf(32) != 4294967295 {
		t.Error("MaskOf at the ends of 0..32")
	}
	for _, n := range badWidths() {
		if x := impl.MaskOf(n); x != 0 {
			t.Errorf("MaskOf(%d): got %d, want 0", n, x)
		}
	}
}

func TestTakeLowInOrder(t *testing.T) {
	for _, x := range bitWords() {
		list := bitNumbers(x, 32, true)
		for _, n := range counts(len(list)) {
			want := sumOfBits(firstOf(list, n))
			if got := impl.TakeLow(x, n); got != want {
				t.Errorf("TakeLow(%d, %d): got %d, want %d", x, n, got, want)
			}
		}
	}
}

func TestTakeLowEdges(t *testing.T) {
	cases := []struct {
		x    uint32
		n    int
		want uint32
	}{
		{0, 0, 0}, {0, 5, 0}, {0, -1, 0},
		{22, 0, 0}, {22, 1, 2}, {22, 3, 22}, {22, 4, 22}, {22, -1, 0},
		{top, 0, 0}, {top, 1, 1}, {top, 31, 0x7fffffff}, {top, 32, top}, {top, 33, top}, {top, -1, 0},
		{0x80000000, 1, 0x80000000}, {0x80000001, 1, 1},
		{top, math.MaxInt, top}, {top, math.MinInt, 0},
	}
	for _, c := range cases {
		if got := impl.TakeLow(c.x, c.n); got != c.want {
			t.Errorf("%v: got %d", c, got)
		}
	}
}

func TestFreeLowInOrder(t *testing.T) {
	for _, x := range bitWords() {
		for width := 0; width <= 32; width++ {
			list := bitNumbers(x, width, false)
			for _, n := range counts(len(list)) {
				want := sumOfBits(firstOf(list, n))
				if got := impl.FreeLow(x, width, n); got != want {
					t.Errorf("FreeLow(%d, %d, %d): got %d, want %d", x, width, n, got, want)
				}
			}
		}
	}
}

func TestFreeLowEdges(t *testing.T) {
	cases := []struct {
		x     uint32
		width int
		n     int
		want  uint32
	}{
		{0, 0, 1, 0}, {0, 0, 32, 0}, {top, 0, 1, 0},
		{0, 32, 0, 0}, {0, 32, 1, 1}, {0, 32, 31, 0x7fffffff}, {0, 32, 32, top}, {0, 32, 33, top},
		{top, 32, 1, 0}, {top, 32, 32, 0},
		{0x7fffffff, 32, 1, 0x80000000}, {0x7fffffff, 31, 1, 0},
		{22, 5, 0, 0}, {22, 5, 1, 1}, {22, 5, 2, 9}, {22, 5, 3, 9}, {22, 6, 3, 41}, {22, 3, 2, 1},
		{22, 5, -1, 0}, {0, 32, -1, 0}, {0, 32, math.MinInt, 0}, {0, 32, math.MaxInt, top},
	}
	for _, c := range cases {
		if got := impl.FreeLow(c.x, c.width, c.n); got != c.want {
			t.Errorf("%v: got %d", c, got)
		}
	}
}

func TestWidthRefused(t *testing.T) {
	for _, width := range badWidths() {
		for _, x := range []uint32{0, 1, 22, 0x80000000, top} {
			for _, n := range []int{-1, 0, 1, 32, math.MaxInt} {
				if got := impl.FreeLow(x, width, n); got != 0 {
					t.Errorf("FreeLow(%d, %d, %d): got %d, want 0", x, width, n, got)
				}
			}
			if at, n := impl.Longest(x, width); at != -1 || n != 0 {
				t.Errorf("Longest(%d, %d): got %d %d, want -1 0", x, width, at, n)
			}
		}
	}
}

// longestRun tries every length from the longest and every start from the lowest.
func longestRun(x uint32, width int) (int, int) {
	free := bitNumbers(x, width, false)
	for n := width; n > 0; n-- {
		for at := 0; at+n <= width; at++ {
			i, found := slices.BinarySearch(free, at)
			if found && i+n <= len(free) && free[i+n-1] == at+n-1 {
				return at, n
			}
		}
	}
	return 0, 0
}

func TestLongestRunIsFree(t *testing.T) {
	for _, x := range bitWords() {
		for width := 0; width <= 32; width++ {
			at, n := impl.Longest(x, width)
			wantAt, wantN := longestRun(x, width)
			if at != wantAt || n != wantN {
				t.Errorf("Longest(%d, %d): got %d %d, want %d %d", x, width, at, n, wantAt, wantN)
			}
			if x&sumOfBits(span(at, n)) != 0 || at+n > width {
				t.Errorf("Longest(%d, %d): the run %d %d is not free", x, width, at, n)
			}
		}
	}
}

func TestLongestEdges(t *testing.T) {
	cases := []struct {
		x     uint32
		width int
		at, n int
	}{
		{22, 8, 5, 3}, // the document's example
		{22, 5, 0, 1}, // several of the same length
		{0x00ff00ff, 32, 8, 8},
		{0x00ff00ff, 16, 8, 8},
		{0xff00ff00, 32, 0, 8},
		{0x0000ff00, 24, 0, 8},
		{0x0000ff00, 25, 16, 9},
		{0, 0, 0, 0}, {top, 0, 0, 0}, {22, 0, 0, 0},
		{0, 1, 0, 1}, {1, 1, 0, 0},
		{0, 32, 0, 32}, {top, 32, 0, 0}, {0, 31, 0, 31},
		{1, 32, 1, 31}, {0x80000000, 32, 0, 31}, {0x80000001, 32, 1, 30},
		{0x7fffffff, 32, 31, 1}, {0xfffffffe, 32, 0, 1},
		{7, 3, 0, 0}, {7, 4, 3, 1}, {6, 3, 0, 1},
		{top - 32, 32, 5, 1}, {top - 32, 5, 0, 0}, {top - 32, 6, 5, 1},
	}
	for _, c := range cases {
		if at, n := impl.Longest(c.x, c.width); at != c.at || n != c.n {
			t.Errorf("%v: got %d %d", c, at, n)
		}
	}
}
