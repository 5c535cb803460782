package tests

import (
	"iter"
	"math"
	"testing"

	"loop.example/g00709/impl"
)

// Promise 13, semaphores: a semaphore is recovered from its word, and each
// function is held against a model of the document.

func sema(count int, expected int, reserved int) impl.Sema {
	return impl.Sema{Count: count, Expected: expected, Reserved: reserved}
}

func validSema(s impl.Sema) bool {
	for _, n := range []int{s.Count, s.Expected, s.Reserved} {
		if n < 0 || n > 1000 {
			return false
		}
	}
	return s.Count+s.Expected >= s.Reserved
}

// semaWord is the document's formula, in products and not in shifts.
func semaWord(s impl.Sema) uint32 {
	return uint32(s.Count + 1024*s.Expected + 1048576*s.Reserved)
}

// semaAt is the inverse of the formula, by division: what the word stands for if it is valid.
func semaAt(x uint32) (impl.Sema, bool) {
	s := sema(int(x%1024), int(x/1024%1024), int(x/1048576))
	if !validSema(s) {
		return impl.Sema{}, false
	}
	return s, true
}

func isAmount(n int) bool { return n >= 1 && n <= 1000 }

func wantModel(s impl.Sema, n int, batch int) (impl.Sema, int) {
	if !validSema(s) || !isAmount(n) || !isAmount(batch) {
		return impl.Sema{}, 0
	}
	next, code := impl.Sema{}, 0
	if s.Count >= s.Reserved+n {
		next, code = sema(s.Count-n, s.Expected, s.Reserved), 1
	} else if s.Count+s.Expected >= s.Reserved+n {
		next, code = sema(s.Count, s.Expected, s.Reserved+n), 2
	} else if n <= batch {
		next, code = sema(s.Count, s.Expected+batch, s.Reserved+n), 3
	}
	if code == 0 || !validSema(next) {
		return impl.Sema{}, 0
	}
	return next, code
}

func postModel(s impl.Sema, n int) (impl.Sema, bool) {
	if !validSema(s) || !isAmount(n) || s.Expected < n || s.Count+n > 1000 {
		return impl.Sema{}, false
	}
	return sema(s.Count+n, s.Expected-n, s.Reserved), true
}

func serveModel(s impl.Sema, n int) (impl.Sema, bool) {
	if !validSema(s) || !isAmount(n) || s.Count < n || s.Reserved < n {
		return impl.Sema{}, false
	}
	return sema(s.Count-n, s.Expected, s.Reserved-n), true
}

func checkSema(t *testing.T, s impl.Sema, word uint32) {
	t.Helper()
	if !impl.SemaOk(s) {
		t.Errorf("SemaOk(%+v): got false", s)
	}
	if x, ok := impl.SemaPack(s); x != word || !ok {
		t.Errorf("SemaPack(%+v): got %d %v, want %d true", s, x, ok, word)
	}
	if got, ok := impl.SemaRead(word); got != s || !ok {
		t.Errorf("SemaRead(%d): got %+v %v, want %+v true", word, got, ok, s)
	}
	if left := impl.SemaLeft(s); left != s.Count+s.Expected-s.Reserved {
		t.Errorf("SemaLeft(%+v): got %d", s, left)
	}
}

// checkSemaRefused checks that every function refuses what is not a valid semaphore.
func checkSemaRefused(t *testing.T, s impl.Sema) {
	t.Helper()
	if impl.SemaOk(s) {
		t.Errorf("SemaOk(%+v): got true", s)
	}
	if x, ok := impl.SemaPack(s); x != 0 || ok {
		t.Errorf("SemaPack(%+v): got %d %v, want 0 false", s, x, ok)
	}
	if left := impl.SemaLeft(s); left != -1 {
		t.Errorf("SemaLeft(%+v): got %d, want -1", s, left)
	}
	for _, n := range []int{1, 2, 1000} {
		checkWantRefused(t, s, n, 1000)
		checkPostRefused(t, s, n)
		checkServeRefused(t, s, n)
	}
}

func checkSemaRead(t *testing.T, x uint32) {
	t.Helper()
	want, valid := semaAt(x)
	if s, ok := impl.SemaRead(x); s != want || ok != valid {
		t.Errorf("SemaRead(%d): got %+v %v, want %+v %v", x, s, ok, want, valid)
	}
}

func checkSemaWordRefused(t *testing.T, x uint32) {
	t.Helper()
	if s, ok := impl.SemaRead(x); s != (impl.Sema{}) || ok {
		t.Errorf("SemaRead(%d): got %+v %v, want the zero value and false", x, s, ok)
	}
}

func checkWant(t *testing.T, s impl.Sema, n int, batch int, want impl.Sema, code int) {
	t.Helper()
	if got, kind := impl.SemaWant(s, n, batch); got != want || kind != code {
		t.Errorf("SemaWant(%+v, %d, %d): got %+v %d, want %+v %d", s, n, batch, got, kind, want, code)
	}
}

func checkWantRefused(t *testing.T, s impl.Sema, n int, batch int) {
	t.Helper()
	checkWant(t, s, n, batch, impl.Sema{}, impl.SemaNo)
}

func checkPost(t *testing.T, s impl.Sema, n int, want impl.Sema, fine bool) {
	t.Helper()
	if got, ok := impl.SemaPost(s, n); got != want || ok != fine {
		t.Errorf("SemaPost(%+v, %d): got %+v %v, want %+v %v", s, n, got, ok, want, fine)
	}
}

func checkPostRefused(t *testing.T, s impl.Sema, n int) {
	t.Helper()
	checkPost(t, s, n, impl.Sema{}, false)
}

func checkServe(t *testing.T, s impl.Sema, n int, want impl.Sema, fine bool) {
	t.Helper()
	if got, ok := impl.SemaServe(s, n); got != want || ok != fine {
		t.Errorf("SemaServe(%+v, %d): got %+v %v, want %+v %v", s, n, got, ok, want, fine)
	}
}

func checkServeRefused(t *testing.T, s impl.Sema, n int) {
	t.Helper()
	checkServe(t, s, n, impl.Sema{}, false)
}

// edgeUnits has numbers of units around 0, the middle and the limit.
func edgeUnits() []int {
	return []int{0, 1, 2, 3, 23, 24, 25, 499, 500, 501, 976, 977, 998, 999, 1000}
}

// badUnits has numbers that no field and no request may have: beside the
// limits, of more than a field's bits, and in range in their low bits only.
func badUnits() []int {
	return []int{
		-1, 1001, -2, -24, -999, -1000, -1001, -1023, -1024, -1025, 1002, 1022, 1023, 1024, 1025, 2000, 2024, 2048, 4095, 4096,
		1 << 20, 1<<20 + 1, 1 << 22, 1 << 31, 1<<31 + 1, 1 << 32, 1<<32 + 1, -1 << 32, -1<<32 + 1, 1<<54 + 1, 1 << 62, -1 << 62,
		math.MinInt32, math.MaxInt32, math.MinInt, math.MinInt + 1, math.MinInt + 1000, math.MaxInt - 1000, math.MaxInt - 1, math.MaxInt,
	}
}

// edgeSemas has the valid semaphores with fields around the limits, and around as many reserved units as there are.
func edgeSemas() iter.Seq[impl.Sema] {
	return func(yield func(impl.Sema) bool) {
		for _, count := range edgeUnits() {
			for _, expected := range edgeUnits() {
				all := count + expected
				for _, reserved := range distinct(append(edgeUnits(), count-1, count, count+1, all-1, all)...) {
					if s := sema(count, expected, reserved); validSema(s) && !yield(s) {
						return
					}
				}
			}
		}
	}
}

// smallSemas has every valid semaphore with up to so many units of each kind.
func smallSemas(most int) iter.Seq[impl.Sema] {
	return func(yield func(impl.Sema) bool) {
		for count := range most + 1 {
			for expected := range most + 1 {
				for reserved := range count + expected + 1 {
					if !yield(sema(count, expected, reserved)) {
						return
					}
				}
			}
		}
	}
}

func TestSemaConstants(t *testing.T) {
	got := [...]int{impl.MaxSema, impl.SemaNo, impl.SemaNow, impl.SemaWait, impl.SemaMake}
	if got != [...]int{1000, 0, 1, 2, 3} {
		t.Errorf("got %v", got)
	}
}

func TestSemaExamples(t *testing.T) {
	s := sema(5, 2, 1)
	checkSema(t, s, 1050629)
	checkWant(t, s, 4, 9, sema(1, 2, 1), impl.SemaNow)
	checkWant(t, s, 6, 9, sema(5, 2, 7), impl.SemaWait)
}

func TestSemaEdges(t *testing.T) {
	cases := []struct {
		s    impl.Sema
		word uint32
	}{
		{sema(0, 0, 0), 0},
		{sema(1, 0, 0), 1},
		{sema(0, 1, 0), 1024},
		{sema(1, 0, 1), 1048577},
		{sema(0, 1, 1), 1049600},
		{sema(1, 1, 2), 2098177},
		{sema(1000, 0, 0), 1000},
		{sema(0, 1000, 0), 1024000},
		{sema(1000, 1000, 0), 1025000},
		{sema(1000, 0, 1000), 1048577000},
		{sema(0, 1000, 1000), 1049600000},
		{sema(500, 500, 1000), 1049088500},
		{sema(1000, 1000, 1000), 1049601000},
	}
	for _, c := range cases {
		checkSema(t, c.s, c.word)
	}
}

func TestSemasRefused(t *testing.T) {
	for _, n := range badUnits() {
		for _, m := range []int{0, 1, 500, 1000} {
			checkSemaRefused(t, sema(n, m, 0))
			checkSemaRefused(t, sema(m, n, 0))
			checkSemaRefused(t, sema(m, 1000, n))
			checkSemaRefused(t, sema(n, m, n))
			checkSemaRefused(t, sema(m, n, n))
		}
		for _, other := range badUnits() {
			checkSemaRefused(t, sema(n, other, 0))
			checkSemaRefused(t, sema(n, 0, other))
			checkSemaRefused(t, sema(0, n, other))
			checkSemaRefused(t, sema(n, n, other))
		}
	}
}

func TestReservedUnitsAreCovered(t *testing.T) {
	for _, count := range edgeUnits() {
		for _, expected := range edgeUnits() {
			all := count + expected
			for _, reserved := range []int{all - 1, all, all + 1, all + 2, all + 24, 1000, 1001} {
				s := sema(count, expected, reserved)
				if reserved >= 0 && reserved <= all && reserved <= 1000 {
					checkSema(t, s, semaWord(s))
				} else {
					checkSemaRefused(t, s)
				}
			}
		}
	}
}

func TestSemaIsRecoveredFromItsWord(t *testing.T) {
	for s := range edgeSemas() {
		checkSema(t, s, semaWord(s))
	}
	seen := map[uint32]impl.Sema{}
	for s := range smallSemas(30) {
		checkSema(t, s, semaWord(s))
		x, _ := impl.SemaPack(s)
		if other, twice := seen[x]; twice {
			t.Errorf("%+v and %+v have the same word %d", s, other, x)
		}
		seen[x] = s
	}
}

func TestEveryCountAndExpectedIsRecovered(t *testing.T) {
	for count := range 1001 {
		for expected := range 1001 {
			reserved := (count*7 + expected*3) % (min(count+expected, 1000) + 1)
			s := sema(count, expected, reserved)
			x, ok := impl.SemaPack(s)
			back, read := impl.SemaRead(x)
			if !ok || !read || back != s || x != semaWord(s) {
				t.Fatalf("%+v: got the word %d %v, and from it %+v %v", s, x, ok, back, read)
			}
		}
	}
}

func TestSemaWordsRefused(t *testing.T) {
	words := []uint32{
		1001, 1023, // too many units available
		1001 * 1024, 1023 * 1024, // expected
		1001*1048576 + 1024*1000 + 1000, 1023*1048576 + 1024*1000 + 1000, // reserved
		1048576, 1048576 * 1000, // reserved units that are covered by nothing
		1048576*2 + 1, 1048576*2 + 1024, 1048576*3 + 1024 + 1, 1048576*1000 + 1024*500 + 499,
		1 << 30, 1 << 31, 3 << 30, 1<<30 + 1, 1<<31 + 1, 1<<30 + 1050629, 1<<31 + 1050629, 3<<30 + 1050629, // bits beyond the fields
		top, top - 1, 1<<30 - 1, 0xfff00000, 0xffff0000,
	}
	for _, x := range words {
		checkSemaWordRefused(t, x)
	}
}

func TestSemaWordsBesideValidOnes(t *testing.T) {
	for s := range edgeSemas() {
		word := semaWord(s)
		for at := range 32 {
			checkSemaRead(t, word^(1<<at))
		}
		checkSemaRead(t, word-1)
		checkSemaRead(t, word+1)
	}
}

func TestSemaWordsOfAllFields(t *testing.T) {
	low := append(edgeUnits(), 1001, 1002, 1010, 1022, 1023)
	high := append(low, 1024, 1025, 1524, 2000, 2023, 2024, 2047, 2048, 2049, 3000, 3072, 3073, 4094, 4095)
	for _, count := range low {
		for _, expected := range low {
			for _, reserved := range high {
				checkSemaRead(t, uint32(count+1024*expected+1048576*reserved))
			}
		}
	}
	for _, x := range bitWords() {
		checkSemaRead(t, x)
	}
}

func TestSemaWordsAllOver(t *testing.T) {
	const step = 65537 // shares no divisor with 1024, so that all fields change
	x, valid := uint32(0), 0
	for range 1 << 21 {
		want, ok := semaAt(x)
		if s, read := impl.SemaRead(x); s != want || read != ok {
			t.Fatalf("SemaRead(%d): got %+v %v, want %+v %v", x, s, read, want, ok)
		}
		if ok {
			valid++
		}
		x += step
	}
	if valid == 0 {
		t.Error("no word was valid")
	}
}

func TestWantWithoutReservations(t *testing.T) {
	checkWant(t, sema(5, 0, 0), 1, 1, sema(4, 0, 0), impl.SemaNow)
	checkWant(t, sema(5, 0, 0), 5, 1, sema(0, 0, 0), impl.SemaNow)
	checkWant(t, sema(5, 0, 0), 6, 6, sema(5, 6, 6), impl.SemaMake)
	checkWantRefused(t, sema(5, 0, 0), 6, 5)
	checkWant(t, sema(5, 2, 0), 5, 1, sema(0, 2, 0), impl.SemaNow)
	checkWant(t, sema(5, 2, 0), 6, 1, sema(5, 2, 6), impl.SemaWait)
	checkWant(t, sema(5, 2, 0), 7, 1, sema(5, 2, 7), impl.SemaWait)
	checkWant(t, sema(5, 2, 0), 8, 8, sema(5, 10, 8), impl.SemaMake)
	checkWantRefused(t, sema(5, 2, 0), 8, 7)
	checkWant(t, sema(0, 0, 0), 3, 3, sema(0, 3, 3), impl.SemaMake)
	checkWant(t, sema(0, 0, 0), 3, 9, sema(0, 9, 3), impl.SemaMake)
	checkWantRefused(t, sema(0, 0, 0), 3, 2)
	checkWantRefused(t, sema(0, 0, 0), 1000, 999)
}

// Units that are reserved are not handed out to others, though they are available.
func TestWantWhileAvailableUnitsAreReserved(t *testing.T) {
	checkWant(t, sema(5, 0, 4), 1, 1, sema(4, 0, 4), impl.SemaNow)
	checkWant(t, sema(5, 0, 4), 2, 2, sema(5, 2, 6), impl.SemaMake)
	checkWantRefused(t, sema(5, 0, 4), 2, 1)
	checkWant(t, sema(5, 0, 5), 1, 1, sema(5, 1, 6), impl.SemaMake)
	checkWantRefused(t, sema(5, 0, 5), 2, 1)
	checkWant(t, sema(5, 3, 4), 1, 1, sema(4, 3, 4), impl.SemaNow)
	checkWant(t, sema(5, 3, 4), 2, 1, sema(5, 3, 6), impl.SemaWait)
	checkWant(t, sema(5, 3, 4), 4, 1, sema(5, 3, 8), impl.SemaWait)
	checkWant(t, sema(5, 3, 4), 5, 5, sema(5, 8, 9), impl.SemaMake)
	checkWant(t, sema(5, 3, 5), 1, 1, sema(5, 3, 6), impl.SemaWait)
	checkWant(t, sema(5, 3, 7), 1, 1, sema(5, 3, 8), impl.SemaWait)
	checkWant(t, sema(5, 3, 8), 1, 1, sema(5, 4, 9), impl.SemaMake)
	checkWant(t, sema(5, 3, 7), 2, 4, sema(5, 7, 9), impl.SemaMake)
	checkWantRefused(t, sema(5, 3, 7), 2, 1)
	checkWant(t, sema(1000, 0, 999), 1, 1, sema(999, 0, 999), impl.SemaNow)
	checkWant(t, sema(0, 6, 6), 2, 2, sema(0, 8, 8), impl.SemaMake)
}

func TestWantAtTheLimits(t *testing.T) {
	checkWant(t, sema(1000, 1000, 0), 1000, 1, sema(0, 1000, 0), impl.SemaNow)
	checkWant(t, sema(999, 1, 0), 1000, 1, sema(999, 1, 1000), impl.SemaWait)
	checkWant(t, sema(0, 0, 0), 1000, 1000, sema(0, 1000, 1000), impl.SemaMake)
	checkWant(t, sema(1000, 500, 1), 999, 1, sema(1, 500, 1), impl.SemaNow)
	checkWantRefused(t, sema(1000, 500, 1), 1000, 1) // 1001 would be reserved
	checkWantRefused(t, sema(1000, 1000, 999), 2, 1000)
	checkWantRefused(t, sema(1000, 1000, 1000), 1, 1000)
	checkWant(t, sema(500, 600, 999), 1, 1, sema(500, 600, 1000), impl.SemaWait)
	checkWantRefused(t, sema(500, 600, 999), 2, 2)
	checkWantRefused(t, sema(500, 600, 1000), 1, 1)
	checkWant(t, sema(0, 999, 999), 1, 1, sema(0, 1000, 1000), impl.SemaMake)
	checkWantRefused(t, sema(0, 999, 999), 1, 2) // 1001 would be expected
	checkWantRefused(t, sema(0, 1000, 1000), 1, 1)
	checkWant(t, sema(0, 900, 900), 1, 100, sema(0, 1000, 901), impl.SemaMake)
	checkWantRefused(t, sema(0, 900, 900), 1, 101)
	checkWantRefused(t, sema(0, 900, 900), 1, 124) // 1024 would be expected
	checkWantRefused(t, sema(0, 900, 900), 1, 125)
	checkWantRefused(t, sema(0, 900, 900), 1, 1000)
	checkWant(t, sema(0, 900, 500), 400, 1, sema(0, 900, 900), impl.SemaWait)
	checkWant(t, sema(0, 900, 900), 100, 100, sema(0, 1000, 1000), impl.SemaMake)
}

// Every batch is checked, also if none is needed.
func TestWantOfBadNumbers(t *testing.T) {
	for _, s := range []impl.Sema{sema(0, 0, 0), sema(5, 2, 1), sema(0, 500, 0), sema(500, 0, 0), sema(1000, 1000, 0), sema(1000, 1000, 1000)} {
		for _, bad := range append(badUnits(), 0) {
			for _, n := range []int{1, 2, 6, 1000} {
				checkWantRefused(t, s, bad, n)
				checkWantRefused(t, s, n, bad)
			}
			for _, other := range append(badUnits(), 0) {
				checkWantRefused(t, s, bad, other)
			}
		}
	}
}

func TestWantOnEverySmallSema(t *testing.T) {
	codes := [4]int{}
	for s := range smallSemas(6) {
		for n := -1; n <= 15; n++ {
			for batch := -1; batch <= 15; batch++ {
				want, code := wantModel(s, n, batch)
				checkWant(t, s, n, batch, want, code)
				codes[code]++
			}
		}
	}
	for code, times := range codes {
		if times == 0 {
			t.Errorf("the code %d was never wanted", code)
		}
	}
}

func TestWantOnEdgeSemas(t *testing.T) {
	i := 0
	for s := range edgeSemas() {
		left := s.Count + s.Expected - s.Reserved
		for _, n := range distinct(1, 2, 23, 24, 25, 500, 999, 1000, 1001, s.Count, s.Count+1, s.Count-s.Reserved, s.Count-s.Reserved+1, left-1, left, left+1, 1000-s.Reserved, 1001-s.Reserved) {
			for _, batch := range []int{1, 1000 - s.Expected, 1001 - s.Expected, 1024 - s.Expected, n - 1, n, n + 1, 24 + i%976} {
				want, code := wantModel(s, n, batch)
				checkWant(t, s, n, batch, want, code)
				i++
			}
		}
	}
}

func TestPost(t *testing.T) {
	checkPost(t, sema(5, 2, 1), 1, sema(6, 1, 1), true)
	checkPost(t, sema(5, 2, 1), 2, sema(7, 0, 1), true)
	checkPostRefused(t, sema(5, 2, 1), 3)
	checkPostRefused(t, sema(5, 0, 1), 1)
	checkPost(t, sema(0, 2, 2), 2, sema(2, 0, 2), true)
	checkPost(t, sema(0, 1000, 0), 1000, sema(1000, 0, 0), true)
	checkPost(t, sema(0, 1000, 1000), 1000, sema(1000, 0, 1000), true)
	checkPost(t, sema(999, 1000, 0), 1, sema(1000, 999, 0), true)
	checkPostRefused(t, sema(999, 1000, 0), 2)
	checkPostRefused(t, sema(1000, 1, 0), 1)
	checkPostRefused(t, sema(1000, 1000, 1000), 24) // 1024 would be available
	checkPostRefused(t, sema(1000, 1000, 1000), 25)
	checkPostRefused(t, sema(1000, 1000, 0), 1000)
	checkPostRefused(t, sema(0, 0, 0), 1)
}

func TestServe(t *testing.T) {
	checkServe(t, sema(5, 2, 3), 1, sema(4, 2, 2), true)
	checkServe(t, sema(5, 2, 3), 3, sema(2, 2, 0), true)
	checkServeRefused(t, sema(5, 2, 3), 4) // not reserved
	checkServeRefused(t, sema(5, 2, 0), 1)
	checkServe(t, sema(3, 5, 6), 3, sema(0, 5, 3), true)
	checkServeRefused(t, sema(3, 5, 6), 4) // not available
	checkServeRefused(t, sema(0, 5, 5), 1)
	checkServe(t, sema(3, 0, 3), 3, sema(0, 0, 0), true)
	checkServe(t, sema(1000, 0, 1000), 1000, sema(0, 0, 0), true)
	checkServe(t, sema(1000, 1000, 1000), 1000, sema(0, 1000, 0), true)
	checkServeRefused(t, sema(999, 1, 1000), 1000)
	checkServeRefused(t, sema(1000, 0, 999), 1000)
	checkServeRefused(t, sema(0, 0, 0), 1)
}

func TestPostAndServeOfBadNumbers(t *testing.T) {
	for s := range edgeSemas() {
		for _, n := range append(badUnits(), 0) {
			checkPostRefused(t, s, n)
			checkServeRefused(t, s, n)
		}
	}
}

func TestPostAndServeOnEverySmallSema(t *testing.T) {
	for s := range smallSemas(9) {
		for n := -20; n <= 20; n++ {
			next, ok := postModel(s, n)
			checkPost(t, s, n, next, ok)
			next, ok = serveModel(s, n)
			checkServe(t, s, n, next, ok)
		}
	}
}

func TestPostAndServeOnEdgeSemas(t *testing.T) {
	for s := range edgeSemas() {
		for _, n := range distinct(append(edgeUnits(), s.Count-1, s.Count, s.Count+1, s.Expected, s.Expected+1, s.Reserved, s.Reserved+1, 1000-s.Count, 1001-s.Count, 1024-s.Count)...) {
			next, ok := postModel(s, n)
			checkPost(t, s, n, next, ok)
			next, ok = serveModel(s, n)
			checkServe(t, s, n, next, ok)
		}
	}
}
