package class_test

import (
	"math"
	"math/rand/v2"
	"testing"

	"platen/api"
	"platen/class"
)

// row is a class by hand: its units, how many slots an extent has, its bytes by pages' sizes.
type row struct {
	units, slots int
	bytes        map[int]int
}

var rows = []row{
	{1, 64, map[int]int{1024: 64, 2048: 128, 4096: 256, 8192: 512, 16384: 1024}},
	{2, 32, map[int]int{1024: 128, 2048: 256, 4096: 512, 8192: 1024, 16384: 2048}},
	{4, 16, map[int]int{1024: 256, 2048: 512, 4096: 1024, 8192: 2048, 16384: 4096}},
	{8, 8, map[int]int{1024: 512, 2048: 1024, 4096: 2048, 8192: 4096, 16384: 8192}},
	{16, 4, map[int]int{1024: 1024, 2048: 2048, 4096: 4096, 8192: 8192, 16384: 16384}},
	{17, 3, map[int]int{1024: 1088, 2048: 2176, 4096: 4352, 8192: 8704, 16384: 17408}},
}

var pages = []int{1024, 2048, 4096, 8192, 16384}

// noPages are no page's size.
func noPages() []int {
	l := []int{
		math.MinInt, -1, 0, 1, 2, 15, 16, 17, 64, 256, 512, 1000, 1023, 1025, 1536, 3072, 10000,
		16383, 16385, 32768, 65536, 1 << 20, 1 << 32, 1 << 62, math.MaxInt,
	}
	for _, n := range pages {
		l = append(l, -n, n-1, n+1, n-16, n+16, n+n/2, 1<<32+n, math.MinInt+n)
	}
	return l
}

// noClasses are none.
var noClasses = []int{math.MinInt, -1 << 32, -256, -6, -2, -1, 6, 7, 8, 16, 17, 64, 255, 256, 1 << 32, 1<<32 + 1, math.MaxInt}

// found is the least class with room for n bytes, by the rows; whether there is one.
func found(n, page int) (int, bool) {
	for i, r := range rows {
		if n >= 0 && n <= r.bytes[page] {
			return i, true
		}
	}
	return 0, false
}

// What is held.

func isClass(t *testing.T, what string, n, log, page, got, want int, is, wantIs bool) {
	t.Helper()
	if got != want || is != wantIs {
		t.Errorf("%s of %d, %d for %d: %d, %v, not %d, %v", what, n, log, page, got, is, want, wantIs)
	}
}

func isFit(t *testing.T, n, page, want int, wantIs bool) {
	t.Helper()
	got, is := class.Fit(n, page)
	isClass(t, "Fit", n, 0, page, got, want, is, wantIs)
}

func isSpare(t *testing.T, n, log, page, want int, wantIs bool) {
	t.Helper()
	got, is := class.Spare(n, log, page)
	isClass(t, "Spare", n, log, page, got, want, is, wantIs)
}

// P20.1

func TestUnitsAndSlots(t *testing.T) {
	if len(rows) != api.Classes {
		t.Fatal("classes:", api.Classes)
	}
	for i, r := range rows {
		if n := class.Units(i); n != r.units {
			t.Errorf("units of %d: %d, not %d", i, n, r.units)
		}
		if n := class.Slots(i); n != r.slots {
			t.Errorf("slots of %d: %d, not %d", i, n, r.slots)
		}
	}
	for _, i := range noClasses {
		if n := class.Units(i); n != 0 {
			t.Errorf("units of %d: %d", i, n)
		}
		if n := class.Slots(i); n != 0 {
			t.Errorf("slots of %d: %d", i, n)
		}
	}
}

func TestSlotsHaveRoom(t *testing.T) {
	for i := range rows {
		all := class.Slots(i) * class.Units(i)
		if all > api.Extent || all+class.Units(i) <= api.Extent {
			t.Errorf("%d slots of %d: %d units", class.Slots(i), i, all)
		}
	}
}

func TestSize(t *testing.T) {
	for i, r := range rows {
		for _, page := range pages {
			if n := class.Size(i, page); n != r.bytes[page] {
				t.Errorf("size of %d for %d: %d, not %d", i, page, n, r.bytes[page])
			}
		}
		for _, page := range noPages() {
			if n := class.Size(i, page); n != 0 {
				t.Errorf("size of %d for %d: %d", i, page, n)
			}
		}
	}
	for _, i := range noClasses {
		for _, page := range append(noPages(), pages...) {
			if n := class.Size(i, page); n != 0 {
				t.Errorf("size of %d for %d: %d", i, page, n)
			}
		}
	}
}

// P20.2

func TestExamples(t *testing.T) {
	if n := class.Size(5, 16384); n != 17408 {
		t.Error("size:", n)
	}
	isFit(t, 1025, 16384, 1, true)
	if n := class.Slots(5); n != 3 {
		t.Error("slots:", n)
	}
}

func TestFitByHand(t *testing.T) {
	isFit(t, 0, 1024, 0, true)
	isFit(t, 1, 1024, 0, true)
	isFit(t, 64, 1024, 0, true)
	isFit(t, 65, 1024, 1, true)
	isFit(t, 128, 1024, 1, true)
	isFit(t, 129, 1024, 2, true)
	isFit(t, 256, 1024, 2, true)
	isFit(t, 257, 1024, 3, true)
	isFit(t, 512, 1024, 3, true)
	isFit(t, 513, 1024, 4, true)
	isFit(t, 1024, 1024, 4, true)
	isFit(t, 1025, 1024, 5, true)
	isFit(t, 1044, 1024, 5, true) // a plain image: a page behind its head
	isFit(t, 1088, 1024, 5, true)
	isFit(t, 1089, 1024, 0, false)
	isFit(t, 1089, 2048, 4, true)
	isFit(t, 17408, 16384, 5, true)
	isFit(t, 17409, 16384, 0, false)
	isFit(t, -1, 1024, 0, false)
}

func TestFitAtEachEdge(t *testing.T) {
	for _, page := range pages {
		isFit(t, 0, page, 0, true)
		for i, r := range rows {
			isFit(t, r.bytes[page]-1, page, i, true)
			isFit(t, r.bytes[page], page, i, true)
			if i+1 < len(rows) {
				isFit(t, r.bytes[page]+1, page, i+1, true)
			} else {
				isFit(t, r.bytes[page]+1, page, 0, false)
			}
		}
		for _, n := range []int{math.MinInt, math.MinInt + 1, -1 << 32, -17408, -page, -64, -2, -1} {
			isFit(t, n, page, 0, false)
		}
		for _, n := range []int{2 * page, 65536, 1 << 24, 1 << 32, 1<<32 + 1, math.MaxInt - 1, math.MaxInt} {
			isFit(t, n, page, 0, false)
		}
	}
}

func TestFitOfEachNumber(t *testing.T) {
	for _, page := range pages {
		for n := -20; n <= 2*page; n++ {
			want, is := found(n, page)
			isFit(t, n, page, want, is)
		}
	}
}

func TestNoPages(t *testing.T) {
	for _, page := range noPages() {
		for _, n := range []int{math.MinInt, -1, 0, 1, 64, 1024, 17408, 17409, math.MaxInt} {
			isFit(t, n, page, 0, false)
			for _, log := range []int{math.MinInt, -1, 0, 1, 64, math.MaxInt} {
				isSpare(t, n, log, page, 0, false)
			}
		}
	}
}

func TestSpareByHand(t *testing.T) {
	isSpare(t, 0, 0, 1024, 0, true)
	isSpare(t, 64, 0, 1024, 0, true)
	isSpare(t, 60, 4, 1024, 0, true)
	isSpare(t, 60, 5, 1024, 1, true)
	isSpare(t, 0, 64, 1024, 0, true)
	isSpare(t, 0, 65, 1024, 1, true)
	isSpare(t, 64, 64, 1024, 1, true)
	isSpare(t, 64, 65, 1024, 2, true)
	isSpare(t, 1024, 0, 1024, 4, true)
	isSpare(t, 1024, 64, 1024, 5, true)
	isSpare(t, 1024, 65, 1024, 0, false)
	isSpare(t, 65, 1024, 1024, 0, false)
	// Below 0 a log is 0: it makes no room.
	isSpare(t, 64, -1, 1024, 0, true)
	isSpare(t, 65, -1, 1024, 1, true)
	isSpare(t, 1089, -1, 1024, 0, false)
	isSpare(t, 1089, math.MinInt, 1024, 0, false)
	isSpare(t, -1, 0, 1024, 0, false)
	// Nor does a log make right an n below 0.
	isSpare(t, -1, 1, 1024, 0, false)
	isSpare(t, -1, 64, 1024, 0, false)
}

// TestSpareIsNoFit holds that n alone is not asked for where n and log have no room together.
func TestSpareIsNoFit(t *testing.T) {
	for _, page := range pages {
		last := rows[len(rows)-1].bytes[page]
		for _, n := range []int{0, 1, page / 16, page, last} {
			want, _ := found(n, page)
			isFit(t, n, page, want, true)
			isSpare(t, n, last-n, page, 5, true)
			isSpare(t, n, last-n+1, page, 0, false)
			isSpare(t, n, last+1, page, 0, false)
			isSpare(t, n, math.MaxInt, page, 0, false)
		}
	}
}

func TestSpareAtEachEdge(t *testing.T) {
	for _, page := range pages {
		for i, r := range rows {
			// As many bytes as this class has left, and one more.
			for _, n := range []int{0, 1, 20, r.bytes[page] / 2, r.bytes[page] - 1, r.bytes[page]} {
				left := r.bytes[page] - n
				isSpare(t, n, left, page, i, true)
				if i+1 < len(rows) {
					isSpare(t, n, left+1, page, i+1, true)
				} else {
					isSpare(t, n, left+1, page, 0, false)
				}
				least, _ := found(n, page)
				for _, log := range []int{0, -1, -64, -r.bytes[page], math.MinInt + 1, math.MinInt} {
					isSpare(t, n, log, page, least, true)
				}
			}
		}
	}
}

func TestSpareBeyondInts(t *testing.T) {
	great := []int{1 << 31, 1 << 32, 1 << 62, math.MaxInt - 17408, math.MaxInt - 64, math.MaxInt - 1, math.MaxInt}
	for _, page := range pages {
		for _, n := range great {
			isSpare(t, n, 0, page, 0, false)
			isSpare(t, n, -1, page, 0, false)
			isSpare(t, n, math.MinInt, page, 0, false)
			for _, log := range great {
				isSpare(t, n, log, page, 0, false)
			}
		}
		for _, log := range great {
			for _, n := range []int{0, 1, 64, 1024, page, 17 * page / 16, 17408, 17409, 65535, 65536} {
				isSpare(t, n, log, page, 0, false)
				isSpare(t, log, n, page, 0, false)
			}
			for _, n := range []int{math.MinInt, math.MinInt + 1, -log - 1, -log, -log + 1, -log + 64, -17408, -64, -1} {
				isSpare(t, n, log, page, 0, false)
			}
		}
	}
}

func TestSpareOfEachTwo(t *testing.T) {
	const page = 1024
	for n := -3; n <= 1100; n++ {
		for log := -3; log <= 1100; log++ {
			want, is := 0, false
			if n >= 0 {
				want, is = found(n+max(log, 0), page)
			}
			isSpare(t, n, log, page, want, is)
		}
	}
}

func TestSpareByChance(t *testing.T) {
	r := rand.New(rand.NewPCG(20, 1))
	for range 100000 {
		page := pages[r.IntN(len(pages))]
		n, log := r.IntN(18000)-100, r.IntN(18000)-1000
		want, is := 0, false
		if n >= 0 {
			want, is = found(n+max(log, 0), page)
		}
		isSpare(t, n, log, page, want, is)
	}
}

// P20.3

// TestWhatFitsInGreaterOnes holds that a class has room for n just if it is no less than what Fit tells.
func TestWhatFitsInGreaterOnes(t *testing.T) {
	for _, page := range pages {
		for i := 1; i < api.Classes; i++ {
			if class.Size(i, page) <= class.Size(i-1, page) {
				t.Errorf("for %d class %d is no greater than the one ahead", page, i)
			}
		}
		for n := range 17*page/16 + 1 {
			least, is := class.Fit(n, page)
			if !is {
				t.Fatalf("for %d no room for %d", page, n)
			}
			for i := range api.Classes {
				if (n <= class.Size(i, page)) != (i >= least) {
					t.Errorf("for %d: %d bytes in class %d, where the least one is %d", page, n, i, least)
				}
			}
		}
	}
}

func TestNoClassIsLeftOut(t *testing.T) {
	for _, page := range pages {
		for _, spare := range []bool{false, true} {
			next := 0
			for n := range 17*page/16 + 1 {
				got, is := class.Fit(n, page)
				if spare {
					got, is = class.Spare(n/2, n-n/2, page)
				}
				switch {
				case !is || got < next-1 || got > next:
					t.Fatalf("for %d: of %d: %d, %v, behind %d", page, n, got, is, next-1)
				case got == next:
					next++
				}
			}
			if next != api.Classes {
				t.Errorf("for %d: classes that are told: %d", page, next)
			}
		}
	}
}

// R6

func TestTheSameAgain(t *testing.T) {
	for range 3 {
		TestExamples(t)
		TestFitByHand(t)
		TestSpareByHand(t)
	}
}
