package pack_test

import (
	"math"
	"math/rand/v2"
	"slices"
	"testing"

	"platen/api"
	"platen/canon"
	"platen/pack"
)

const (
	maxBits    = 15
	maxSymbols = 320
	maxCount   = 1 << 30
)

func chance() *rand.Rand {
	return rand.New(rand.NewPCG(6, 1990))
}

// times is a list of the count n times.
func times(n, count int) []int {
	return slices.Repeat([]int{count}, n)
}

func join(lists ...[]int) []int {
	return slices.Concat(lists...)
}

// fibonacci are the first n of Fibonacci's numbers: 1, 1, 2, 3, ..
func fibonacci(n int) []int {
	l := make([]int, n)
	a, b := 1, 1
	for i := range l {
		l[i] = a
		a, b = b, a+b
	}
	return l
}

// powers are n powers of two, from 1 on.
func powers(n int) []int {
	l := make([]int, n)
	for i := range l {
		l[i] = 1 << i
	}
	return l
}

// sizes are so many of one length each: a length, how often, and so on.
func sizes(pairs ...int) []uint8 {
	var l []uint8
	for i := 0; i < len(pairs); i += 2 {
		l = append(l, slices.Repeat([]uint8{uint8(pairs[i])}, pairs[i+1])...)
	}
	return l
}

func turned[T any](l []T) []T {
	l = slices.Clone(l)
	slices.Reverse(l)
	return l
}

func TestNeedsByHand(t *testing.T) {
	cases := []struct{ n, want int }{
		{math.MinInt, 0}, {math.MinInt + 1, 0}, {-1 << 31, 0}, {-320, 0}, {-2, 0}, {-1, 0},
		{0, 0}, {1, 1}, {2, 1}, {3, 2}, {4, 2}, {5, 3}, {6, 3}, {7, 3}, {8, 3}, {9, 4}, {15, 4}, {16, 4}, {17, 5},
		{255, 8}, {256, 8}, {257, 9}, {maxSymbols, 9}, {maxSymbols + 1, 9}, {1<<15 - 1, 15}, {1 << 15, 15}, {1<<15 + 1, 16},
		{1<<31 - 1, 31}, {1 << 31, 31}, {1<<31 + 1, 32}, {1<<32 - 1, 32}, {1 << 32, 32}, {1<<32 + 1, 33},
		{1 << 62, 62}, {1<<62 + 1, 63}, {math.MaxInt - 1, 63}, {math.MaxInt, 63},
	}
	for _, c := range cases {
		if got := pack.Needs(c.n); got != c.want {
			t.Errorf("Needs(%d): %d, not %d", c.n, got, c.want)
		}
	}
}

// TestNeedsOfPowers: a power of two is just as many as codes of one length can be; one more asks for a bit more.
func TestNeedsOfPowers(t *testing.T) {
	for size := 1; size <= 62; size++ {
		if got := pack.Needs(1 << size); got != size {
			t.Errorf("Needs(2^%d): %d", size, got)
		}
		if got := pack.Needs(1<<size + 1); got != size+1 {
			t.Errorf("Needs(2^%d + 1): %d", size, got)
		}
	}
}

// TestNeedsIsLeast: codes of that length can be so many, and shorter ones can't.
func TestNeedsIsLeast(t *testing.T) {
	for n := 2; n < 70000; n++ {
		got := pack.Needs(n)
		if got < 1 || math.Pow(2, float64(got)) < float64(n) || got > 1 && math.Pow(2, float64(got-1)) >= float64(n) {
			t.Fatalf("Needs(%d): %d", n, got)
		}
	}
}

// modelThing is a thing of the chapter's words: its weight, and the symbols of its leaves, as often as they are in it.
type modelThing struct {
	weight int
	syms   []int
}

// modelRow is the row of a level: leaves stand ahead of packages, and each in their order, where a stable sort finds them so.
func modelRow(leaves []modelThing, level int) []modelThing {
	row := slices.Clone(leaves)
	if level > 1 {
		ahead := modelRow(leaves, level-1)
		for ; len(ahead) >= 2; ahead = ahead[2:] {
			row = append(row, modelThing{
				weight: ahead[0].weight + ahead[1].weight,
				syms:   slices.Concat(ahead[0].syms, ahead[1].syms),
			})
		}
	}
	slices.SortStableFunc(row, func(a, b modelThing) int { return a.weight - b.weight })
	return row
}

// modelLens are the lengths in the chapter's words; counts and limit must be such that there are any.
func modelLens(counts []int, limit int) []uint8 {
	var leaves []modelThing
	for sym, n := range counts {
		if n > 0 {
			leaves = append(leaves, modelThing{n, []int{sym}})
		}
	}
	lens := make([]uint8, len(counts))
	if len(leaves) == 1 {
		lens[leaves[0].syms[0]] = 1
	}
	if len(leaves) < 2 {
		return lens
	}
	for _, thing := range modelRow(leaves, limit)[:2*len(leaves)-2] {
		for _, sym := range thing.syms {
			lens[sym]++
		}
	}
	return lens
}

// counting are the counts above 0.
func counting(counts []int) []int {
	return slices.DeleteFunc(slices.Clone(counts), func(n int) bool { return n <= 0 })
}

// leastLimit is the chapter's Needs of how many count, but 1 at least, as a limit is.
func leastLimit(counts []int) int {
	limit := 1
	for 1<<limit < len(counting(counts)) {
		limit++
	}
	return limit
}

// shortCounts are all lists of up to four counts from 0 to 5.
func shortCounts() [][]int {
	lists, ends := [][]int{{}}, 0
	for range 4 {
		begun := lists[ends:]
		ends = len(lists)
		for _, l := range begun {
			for n := range 6 {
				lists = append(lists, join(l, []int{n}))
			}
		}
	}
	return lists
}

// chanceCounts are n counts: all above 0 or some of them 0, of a few numbers, so that many are the same, or of many.
func chanceCounts(r *rand.Rand, n int) []int {
	counts := make([]int, n)
	kind, most, zeros := r.IntN(4), 1+r.IntN(30), r.IntN(3)
	for i := range counts {
		switch kind {
		case 0:
			counts[i] = 1 + r.IntN(most)
		case 1:
			counts[i] = 1 << r.IntN(most)
		case 2:
			counts[i] = 1 + r.IntN(1<<most)
		case 3:
			counts[i] = fibonacci(most + 1)[r.IntN(most+1)]
		}
		if zeros == 2 && r.IntN(3) == 0 {
			counts[i] = 0
		}
	}
	return counts
}

// edgeCounts are those at the edges that the chapter names.
func edgeCounts() [][]int {
	lists := [][]int{
		nil, {}, {0}, {7}, times(maxSymbols, 0), {0, 5}, {5, 0}, {maxCount}, {maxCount, maxCount}, {1, maxCount}, {1, 1}, {1, 0, 1},
		join(times(100, 0), []int{9}, times(maxSymbols-101, 0)), {1, 1, 2, 4}, {4, 2, 1, 1}, {1, 1, 2, 2}, {2, 2, 1, 1},
		times(maxSymbols, 1), times(maxSymbols, maxCount), times(256, 3), times(257, 3), powers(31), turned(powers(31)),
		join(times(maxSymbols-1, 1), []int{maxCount}), join(times(160, 1), times(160, 2)), join(times(160, 0), times(160, 1)),
	}
	for n := range 41 {
		lists = append(lists, times(n, 1), fibonacci(n), turned(fibonacci(n)), join(times(n, 0), times(n, 1), times(n, 2)))
	}
	for i, l := range lists {
		lists[i] = slices.DeleteFunc(l, func(n int) bool { return n > maxCount })
	}
	return lists
}

// manyCounts are short ones, those at the edges, and some by chance.
func manyCounts() [][]int {
	lists := append(shortCounts(), edgeCounts()...)
	r := chance()
	for i := range 250 {
		lists = append(lists, chanceCounts(r, r.IntN([]int{12, 40, maxSymbols + 1}[i%3])))
	}
	return lists
}

// each goes through many counts, each with all limits that it may have, or some of them, where there are many symbols.
func each(yield func(counts []int, limit int) bool) {
	for _, counts := range manyCounts() {
		least := leastLimit(counts)
		for limit := least; limit <= maxBits; limit++ {
			if len(counts) > 60 && limit > least+1 && limit%4 < 3 {
				continue
			}
			if !yield(counts, limit) {
				return
			}
		}
	}
}

func lensOf(t *testing.T, counts []int, limit int) []uint8 {
	t.Helper()
	lens, e := pack.Lens(counts, limit)
	if e != api.OK || len(lens) != len(counts) {
		t.Fatalf("Lens(%d, %d): %d lengths, %d", counts, limit, len(lens), e)
	}
	return lens
}

type byHand struct {
	what   string
	counts []int
	limit  int
	want   []uint8
}

func handCases() []byHand {
	return []byHand{
		{"the first example", []int{1, 1, 2, 4}, maxBits, []uint8{3, 3, 2, 1}},
		{"the first example, by 3", []int{1, 1, 2, 4}, 3, []uint8{3, 3, 2, 1}},
		{"the second example", []int{1, 1, 2, 4}, 2, []uint8{2, 2, 2, 2}},
		{"the third example", []int{0, 5}, 1, []uint8{0, 1}},
		{"the first example, turned", []int{4, 2, 1, 1}, maxBits, []uint8{1, 2, 3, 3}},

		{"two", []int{1, 9}, 1, []uint8{1, 1}},
		{"two by 2", []int{1, 9}, 2, []uint8{1, 1}},
		{"two by MaxBits", []int{maxCount, 1}, maxBits, []uint8{1, 1}},
		{"three", []int{1, 2, 3}, 2, []uint8{2, 2, 1}},
		{"three that fall", []int{3, 2, 1}, maxBits, []uint8{1, 2, 2}},
		{"between others", []int{0, 3, 0, 0, 2, 1, 0}, maxBits, []uint8{0, 1, 0, 0, 2, 2, 0}},

		// Of the same count the later ones have the shorter codes: a row has the leaves of lower symbols ahead.
		{"three alike", []int{7, 7, 7}, maxBits, []uint8{2, 2, 1}},
		{"three alike, by 2", []int{7, 7, 7}, 2, []uint8{2, 2, 1}},
		{"two alike behind", []int{1, 2, 2}, 2, []uint8{2, 2, 1}},
		{"five alike", times(5, 1), maxBits, sizes(3, 2, 2, 3)},
		{"six alike", times(6, 3), maxBits, sizes(3, 4, 2, 2)},
		{"seven alike", times(7, 1), 3, sizes(3, 6, 2, 1)},
		{"alike and between others", []int{0, 2, 2, 0, 2, 0}, 4, []uint8{0, 2, 2, 0, 1, 0}},

		// 1 and 1 are a package of 2: were it ahead of the leaves of 2, the lengths were 3, 3, 2, 1, which weigh as much.
		{"a package that weighs as leaves do", []int{1, 1, 2, 2}, maxBits, []uint8{2, 2, 2, 2}},
		{"a package that weighs as leaves do, turned", []int{2, 2, 1, 1}, 3, []uint8{2, 2, 2, 2}},
		{"a package that weighs as one leaf does", []int{2, 1, 1}, 3, []uint8{1, 2, 2}},

		{"Fibonacci's by 3", fibonacci(6), 3, []uint8{3, 3, 3, 3, 2, 2}},
		{"Fibonacci's by 4", fibonacci(6), 4, []uint8{4, 4, 3, 2, 2, 2}},
		{"Fibonacci's by 5", fibonacci(6), 5, []uint8{5, 5, 4, 3, 2, 1}},
		{"Fibonacci's by MaxBits", fibonacci(6), maxBits, []uint8{5, 5, 4, 3, 2, 1}},
		{"Fibonacci's as many as are not bound", fibonacci(16), maxBits, []uint8{15, 15, 14, 13, 12, 11, 10, 9, 8, 7, 6, 5, 4, 3, 2, 1}},

		{"256 by 8", times(256, 9), 8, sizes(8, 256)},
		{"257 by 9", times(257, 9), 9, sizes(9, 2, 8, 255)},
		{"MaxSymbols by 9", times(maxSymbols, maxCount), 9, sizes(9, 128, 8, 192)},
		{"MaxSymbols by MaxBits", times(maxSymbols, maxCount), maxBits, sizes(9, 128, 8, 192)},
	}
}

func TestLensByHand(t *testing.T) {
	for _, c := range handCases() {
		if got, e := pack.Lens(c.counts, c.limit); e != api.OK || !slices.Equal(got, c.want) {
			t.Errorf("Lens of %s: %d, %d, not %d", c.what, got, e, c.want)
		}
		if got := modelLens(c.counts, c.limit); !slices.Equal(got, c.want) {
			t.Errorf("the words say of %s: %d, not %d", c.what, got, c.want)
		}
	}
}

// TestLensOfNone: where none counts there is nothing to tell, by any limit that may be.
func TestLensOfNone(t *testing.T) {
	for _, counts := range [][]int{nil, {}, {0}, {0, 0, 0}, times(maxSymbols, 0)} {
		for limit := 1; limit <= maxBits; limit++ {
			if got := lensOf(t, counts, limit); slices.Max(append(got, 0)) != 0 {
				t.Errorf("Lens of %d that don't count, %d: %d", len(counts), limit, got)
			}
		}
	}
}

func TestLensOfOne(t *testing.T) {
	for _, counts := range [][]int{{1}, {5, 0}, {0, maxCount}, join(times(100, 0), []int{1}, times(maxSymbols-101, 0)), join(times(maxSymbols-1, 0), []int{3})} {
		for limit := 1; limit <= maxBits; limit++ {
			got := lensOf(t, counts, limit)
			for sym, n := range counts {
				if want := uint8(min(n, 1)); got[sym] != want {
					t.Errorf("Lens of one among %d, %d: symbol %d has %d", len(counts), limit, sym, got[sym])
				}
			}
		}
	}
}

// TestLensOfAsManyAsCanBe: by a limit 2 to the power of it may count, all of that length; one more is refused.
func TestLensOfAsManyAsCanBe(t *testing.T) {
	r := chance()
	for limit := 1; limit <= 8; limit++ {
		counts := make([]int, 1<<limit)
		for sym := range counts {
			counts[sym] = 1 + r.IntN(maxCount)
		}
		spread := slices.Insert(slices.Clone(counts), 1, times(maxSymbols-len(counts), 0)...)
		want := slices.Insert(sizes(limit, len(counts)), 1, sizes(0, maxSymbols-len(counts))...)
		if got := lensOf(t, spread, limit); !slices.Equal(got, want) {
			t.Errorf("Lens of 2^%d, %d: %d", limit, limit, got)
		}
		lensOf(t, append(counts, 1), limit+1)
		refused(t, "one more than can be", append(counts, 1), limit)
		spread[1] = 1
		refused(t, "one more than can be, among others", spread, limit)
		lensOf(t, spread, limit+1)
	}
}

func refused(t *testing.T, what string, counts []int, limit int) {
	t.Helper()
	if got, e := pack.Lens(counts, limit); e != api.ErrArg || len(got) != 0 {
		t.Errorf("Lens of %s, %d: %d lengths, %d", what, limit, len(got), e)
	}
}

func TestLensByLimitsThatAreNone(t *testing.T) {
	for _, counts := range [][]int{nil, {}, {0, 0}, {1}, {0, 1, 0}, {1, 1}, {1, 2, 3}, times(maxSymbols, 1), {-1}, {maxCount + 1}, times(maxSymbols+1, 1)} {
		for _, limit := range []int{0, -1, -9, -15, math.MinInt, math.MinInt32, maxBits + 1, 31, 63, 64, 255, 256, 256 + 9, 1<<16 + 9, 1<<32 + 9, math.MaxInt32, math.MaxInt} {
			refused(t, "a limit that is none", counts, limit)
		}
	}
}

func TestLensByLimitsThatAre(t *testing.T) {
	for limit := 2; limit <= maxBits; limit++ {
		if got := lensOf(t, []int{1, 2, 3}, limit); !slices.Equal(got, []uint8{2, 2, 1}) {
			t.Errorf("Lens by %d: %d", limit, got)
		}
	}
}

func TestLensOfCountsThatAreNone(t *testing.T) {
	for _, n := range []int{-1, -2, -maxCount, math.MinInt, maxCount + 1, 1 << 31, 1<<32 + 1, math.MaxInt} {
		for _, counts := range [][]int{{n}, {n, 1}, {1, n}, {0, 0, n}, {1, n, 1}, join(times(maxSymbols-1, 0), []int{n}), join(times(maxSymbols-1, 1), []int{n})} {
			for _, limit := range []int{math.MinInt, -1, 0, 1, 2, 9, maxBits, maxBits + 1, math.MaxInt} {
				refused(t, "a count that is none", counts, limit)
			}
		}
	}
}

func TestLensOfTheGreatestCount(t *testing.T) {
	for _, c := range []byHand{
		{"one", []int{maxCount}, 1, []uint8{1}},
		{"two", []int{maxCount, maxCount}, 1, []uint8{1, 1}},
		{"one less beside", []int{maxCount, maxCount - 1, maxCount}, 2, []uint8{2, 2, 1}},
		{"a package that weighs less", []int{maxCount, 1, maxCount, 0, maxCount - 2}, 3, []uint8{2, 3, 1, 0, 3}},
		{"a package that weighs as much", []int{maxCount, 1, maxCount, 0, maxCount - 1}, 3, []uint8{2, 2, 2, 0, 2}},
		// In the row of level 5 there is a package with the last leaf four times: with a weight of 32 bits it would stand ahead of that leaf.
		{"a package that weighs more than 2^32", join(times(15, 1), []int{maxCount}), 5, sizes(5, 14, 4, 1, 1, 1)},
	} {
		if got := lensOf(t, c.counts, c.limit); !slices.Equal(got, c.want) {
			t.Errorf("Lens of %s: %d, not %d", c.what, got, c.want)
		}
	}
}

func TestLensOfMaxSymbols(t *testing.T) {
	for _, n := range []int{0, 1, maxCount} {
		lensOf(t, times(maxSymbols, n), 9)
		lensOf(t, times(maxSymbols, n), maxBits)
		for _, more := range []int{1, 2, maxSymbols, 100000} {
			for _, limit := range []int{0, 1, 9, maxBits, maxBits + 1} {
				refused(t, "more than MaxSymbols", times(maxSymbols+more, n), limit)
			}
		}
	}
	refused(t, "one that counts behind MaxSymbols", join(times(maxSymbols, 0), []int{1}), 9)
	refused(t, "one that counts ahead of MaxSymbols", join([]int{1}, times(maxSymbols, 0)), 9)
	refused(t, "MaxSymbols by 8", times(maxSymbols, 1), 8)
}

// TestLensByLimitsBelowNeeds: the limit is held against those that count, not against all.
func TestLensByLimitsBelowNeeds(t *testing.T) {
	for n := 1; n <= maxSymbols; n++ {
		counts := join(times(n, 1), times(maxSymbols-n, 0))
		for limit := 1; limit <= maxBits; limit++ {
			if 1<<limit < n {
				refused(t, "more than can be", counts, limit)
			} else if limit <= 9 {
				lensOf(t, counts, limit)
			}
		}
	}
}

func TestLens(t *testing.T) {
	for counts, limit := range each {
		if got, want := lensOf(t, counts, limit), modelLens(counts, limit); !slices.Equal(got, want) {
			t.Fatalf("Lens(%d, %d): %d, not %d", counts, limit, got, want)
		}
	}
}

// TestOfOneCount: counts that are all the same: the first ones are a bit longer, as few as can be.
func TestOfOneCount(t *testing.T) {
	for n := 2; n <= maxSymbols; n++ {
		size := leastLimit(times(n, 1))
		longer := 2*n - 1<<size
		want := sizes(size, longer, size-1, n-longer)
		for _, limit := range []int{size, size + 1, maxBits} {
			if got := lensOf(t, times(n, 1+n*7), limit); !slices.Equal(got, want) {
				t.Errorf("Lens of %d alike, %d: %d, not %d", n, limit, got, want)
			}
		}
	}
}

// TestPackagesInTheirOrder: of packages that weigh the same the first ones are in, so the first symbols have the longer codes.
func TestPackagesInTheirOrder(t *testing.T) {
	for _, c := range []byHand{
		{"of leaves", []int{1, 1, 1, 1, 1, 1}, maxBits, []uint8{3, 3, 3, 3, 2, 2}},
		{"of unlike leaves", []int{1, 3, 2, 2, 4, 4, 4}, 3, []uint8{3, 3, 3, 3, 3, 3, 2}},
	} {
		if got, want := lensOf(t, c.counts, c.limit), modelLens(c.counts, c.limit); !slices.Equal(got, c.want) || !slices.Equal(want, c.want) {
			t.Errorf("Lens of packages %s: %d, by the words %d, not %d", c.what, got, want, c.want)
		}
	}
}

// TestSymbolsThatDontCount: they have 0, and the others have what they have without them.
func TestSymbolsThatDontCount(t *testing.T) {
	for counts, limit := range each {
		lens := lensOf(t, counts, limit)
		var some []uint8
		for sym, size := range lens {
			if (size == 0) != (counts[sym] == 0) {
				t.Fatalf("Lens(%d, %d): symbol %d has %d", counts, limit, sym, size)
			}
			if size > 0 {
				some = append(some, size)
			}
		}
		if alone := lensOf(t, counting(counts), limit); !slices.Equal(some, alone) {
			t.Fatalf("Lens(%d, %d): %d, of those that count alone %d", counts, limit, some, alone)
		}
	}
}

// TestNoneAboveTheLimit: nor are there codes of two symbols or more that are not whole.
func TestNoneAboveTheLimit(t *testing.T) {
	for counts, limit := range each {
		lens := lensOf(t, counts, limit)
		if slices.Max(append(slices.Clone(lens), 0)) > uint8(limit) {
			t.Fatalf("Lens(%d, %d): %d", counts, limit, lens)
		}
		want := api.LensWhole
		if n := len(counting(counts)); n < 2 {
			want = []uint8{api.LensNone, api.LensOne}[n]
		}
		if got := canon.Kind(lens); got != want {
			t.Fatalf("Lens(%d, %d): %d are of kind %d, not %d", counts, limit, lens, got, want)
		}
	}
}

func TestWhoCountsMoreHasNoLongerCode(t *testing.T) {
	for counts, limit := range each {
		lens := lensOf(t, counts, limit)
		if len(counts) > 60 && limit%2 > 0 {
			continue
		}
		for a, n := range counts {
			for b, m := range counts {
				if m > 0 && n > m && lens[a] > lens[b] {
					t.Fatalf("Lens(%d, %d): symbol %d has %d, symbol %d has %d", counts, limit, a, lens[a], b, lens[b])
				}
			}
		}
	}
}

// wholeLens are all lists of n lengths up to limit that are whole: room is what of all weight, 2 to the power of limit, is left.
func wholeLens(n, limit, room int) [][]uint8 {
	if n == 0 && room == 0 {
		return [][]uint8{{}}
	}
	var lists [][]uint8
	for size := 1; n > 0 && size <= limit; size++ {
		if weight := 1 << (limit - size); weight <= room {
			for _, l := range wholeLens(n-1, limit, room-weight) {
				lists = append(lists, append([]uint8{uint8(size)}, l...))
			}
		}
	}
	return lists
}

// TestNoneWeighLess: of all lengths that are whole, and not above the limit.
func TestNoneWeighLess(t *testing.T) {
	r := chance()
	for n := 2; n <= 6; n++ {
		for limit := leastLimit(times(n, 1)); limit <= n; limit++ {
			all := wholeLens(n, limit, 1<<limit)
			for range 400 {
				counts := counting(chanceCounts(r, n))
				if len(counts) < n {
					continue
				}
				lens := lensOf(t, counts, limit)
				if !slices.ContainsFunc(all, func(l []uint8) bool { return slices.Equal(l, lens) }) {
					t.Fatalf("Lens(%d, %d): %d are none of all", counts, limit, lens)
				}
				for _, l := range all {
					if canon.Weigh(l, counts) < canon.Weigh(lens, counts) {
						t.Fatalf("Lens(%d, %d): %d, but %d weigh less", counts, limit, lens, l)
					}
				}
			}
		}
	}
}

// leastWeight finds the least weight level by level: of the places that are open some are codes of those that count most, and each other one opens two.
func leastWeight(counts []int, limit int) int {
	counts = turned(slices.Sorted(slices.Values(counting(counts))))
	type state struct{ size, open, done int }
	known := map[state]int{}
	var least func(s state) int
	least = func(s state) int {
		left := len(counts) - s.done
		if left == 0 && s.open == 0 {
			return 0
		}
		if s.size > limit || s.open > left || s.open == 0 {
			return math.MaxInt / 2
		}
		if n, is := known[s]; is {
			return n
		}
		best := math.MaxInt / 2
		weight := 0
		for codes := range s.open + 1 {
			best = min(best, weight+least(state{s.size + 1, 2 * (s.open - codes), s.done + codes}))
			if codes < left {
				weight += s.size * counts[s.done+codes]
			}
		}
		known[s] = best
		return best
	}
	return least(state{1, 2, 0})
}

// TestNoneWeighLessOfMore: as TestNoneWeighLess, of more symbols, whose lengths are too many to be gone through.
func TestNoneWeighLessOfMore(t *testing.T) {
	for counts, limit := range each {
		if len(counting(counts)) < 2 || len(counts) > 60 {
			continue
		}
		got, want := canon.Weigh(lensOf(t, counts, limit), counts), leastWeight(counts, limit)
		if got != want {
			t.Fatalf("Lens(%d, %d) weigh %d, not %d", counts, limit, got, want)
		}
	}
}

// huffman is the least weight without a limit, and the least length of its longest code: the two that weigh least, and are least long, are put together till one is left.
func huffman(counts []int) (weight, longest int) {
	type tree struct{ count, high int }
	var trees []tree
	for _, n := range counting(counts) {
		trees = append(trees, tree{n, 0})
	}
	for len(trees) > 1 {
		slices.SortFunc(trees, func(a, b tree) int {
			if a.count != b.count {
				return a.count - b.count
			}
			return a.high - b.high
		})
		both := tree{trees[0].count + trees[1].count, 1 + max(trees[0].high, trees[1].high)}
		weight += both.count
		trees = append(trees[2:], both)
	}
	return weight, trees[0].high
}

// TestHuffman: a limit that does not bind is none.
func TestHuffman(t *testing.T) {
	free, bound := 0, 0
	for counts, limit := range each {
		if len(counting(counts)) < 2 {
			continue
		}
		want, longest := huffman(counts)
		got := canon.Weigh(lensOf(t, counts, limit), counts)
		if got < want || longest <= limit && got > want {
			t.Fatalf("Lens(%d, %d) weigh %d, without a limit %d, up to %d", counts, limit, got, want, longest)
		}
		if longest <= limit {
			free++
		} else if got > want {
			bound++
		}
	}
	if free < 1000 || bound < 1000 {
		t.Errorf("%d limits don't bind, %d do", free, bound)
	}
}

// TestFibonacci: of so many symbols the longest code has a bit less than they are, where no limit binds.
func TestFibonacci(t *testing.T) {
	for n := 2; n <= 40; n++ {
		for limit := leastLimit(times(n, 1)); limit <= maxBits; limit++ {
			lens := lensOf(t, fibonacci(n), limit)
			if got, want := canon.Weigh(lens, fibonacci(n)), leastWeight(fibonacci(n), limit); got != want {
				t.Errorf("%d by %d: %d weigh %d, not %d", n, limit, lens, got, want)
			}
			if n-1 <= limit && (lens[0] != uint8(n-1) || lens[n-1] != 1) {
				t.Errorf("%d by %d: %d", n, limit, lens)
			}
			if n-1 > limit && slices.Max(lens) > uint8(limit) {
				t.Errorf("%d by %d: %d", n, limit, lens)
			}
		}
	}
}

// TestArgumentsStay: neither counts nor what lies behind them are changed.
func TestArgumentsStay(t *testing.T) {
	lists := append(edgeCounts(), []int{3, -1, 2}, times(maxSymbols+1, 4))
	for _, counts := range lists {
		roomy := append(slices.Clone(counts), times(50, -77)...)
		for limit := 0; limit <= maxBits+1; limit += 3 {
			pack.Lens(roomy[:len(counts)], limit)
			if !slices.Equal(roomy, append(slices.Clone(counts), times(50, -77)...)) {
				t.Fatalf("Lens(%d, %d): the counts are others", counts, limit)
			}
		}
	}
}

// TestAnswersLieApart: a list that was answered may be changed, and no other answer is another one.
func TestAnswersLieApart(t *testing.T) {
	for _, counts := range edgeCounts() {
		handed := slices.Clone(counts)
		first, second := lensOf(t, handed, maxBits), lensOf(t, handed, maxBits)
		kept := slices.Clone(second)
		clear(handed)
		for sym := range first {
			first[sym] = 77
		}
		if !slices.Equal(second, kept) || !slices.Equal(lensOf(t, counts, maxBits), kept) {
			t.Errorf("Lens(%d): an answer is another one", counts)
		}
	}
}

// TestAlikeAgain: an answer hangs on nothing but the arguments.
func TestAlikeAgain(t *testing.T) {
	for counts, limit := range each {
		first := lensOf(t, counts, limit)
		pack.Lens(times(9, 1), 4)
		pack.Lens([]int{-1}, 99)
		again := lensOf(t, slices.Clone(counts), limit)
		if !slices.Equal(first, again) {
			t.Fatalf("Lens(%d, %d): %d, then %d", counts, limit, first, again)
		}
	}
}
