package canon_test

import (
	"cmp"
	"math"
	"math/big"
	"math/rand/v2"
	"slices"
	"strings"
	"testing"

	"platen/api"
	"platen/canon"
)

const (
	maxBits    = 15
	maxSymbols = 320
)

var kindNames = map[uint8]string{
	api.LensNone: "none", api.LensOne: "one", api.LensWhole: "whole",
	api.LensLess: "less", api.LensOver: "over", api.LensBad: "bad",
}

func chance() *rand.Rand {
	return rand.New(rand.NewPCG(5, 1951))
}

// times is a list of the length n times.
func times(n int, size uint8) []uint8 {
	return slices.Repeat([]uint8{size}, n)
}

func join(lists ...[]uint8) []uint8 {
	return slices.Concat(lists...)
}

// stairs are the lengths 1, 2, .. to MaxBits: another one of MaxBits, and they are whole.
func stairs() []uint8 {
	var l []uint8
	for size := range maxBits {
		l = append(l, uint8(size+1))
	}
	return l
}

// kindOf is the chapter's words in other numbers: what a length weighs is a part of what all may weigh.
func kindOf(lens []uint8) uint8 {
	if len(lens) > maxSymbols || slices.ContainsFunc(lens, func(size uint8) bool { return size > maxBits }) {
		return api.LensBad
	}
	weight := new(big.Rat)
	var coded []uint8
	for _, size := range lens {
		if size > 0 {
			coded = append(coded, size)
			weight.Add(weight, big.NewRat(1, int64(math.Pow(2, float64(size)))))
		}
	}
	held := weight.Cmp(big.NewRat(1, 1))
	switch {
	case len(coded) == 0:
		return api.LensNone
	case held > 0:
		return api.LensOver
	case held == 0:
		return api.LensWhole
	case slices.Equal(coded, []uint8{1}):
		return api.LensOne
	}
	return api.LensLess
}

// numeral has a code's bits, the highest one first, as 0s and 1s.
func numeral(t *testing.T, c api.Code) string {
	t.Helper()
	n := new(big.Int).SetUint64(uint64(c.Bits)).Text(2)
	if c.Bits == 0 {
		n = ""
	}
	if len(n) > int(c.Size) {
		t.Fatalf("a code of %d bits: %s", c.Size, n)
	}
	return strings.Repeat("0", int(c.Size)-len(n)) + n
}

func numerals(t *testing.T, codes []api.Code) []string {
	t.Helper()
	var l []string
	for _, c := range codes {
		l = append(l, numeral(t, c))
	}
	return l
}

// oneMore adds one to a numeral: a row of 1s at its end turns to 0s, and the 0 ahead of them to 1.
func oneMore(n string) string {
	at := strings.LastIndex(n, "0")
	return n[:at] + "1" + strings.Repeat("0", len(n)-at-1)
}

// numeralsOf is the chapter's words, in numerals: lens must be such that there is a next code for each.
func numeralsOf(lens []uint8) []string {
	codes := make([]string, len(lens))
	var syms []int
	for sym, size := range lens {
		if size > 0 {
			syms = append(syms, sym)
		}
	}
	slices.SortFunc(syms, func(a, b int) int {
		return cmp.Or(cmp.Compare(lens[a], lens[b]), cmp.Compare(a, b))
	})
	ahead := ""
	for i, sym := range syms {
		if i > 0 {
			ahead = oneMore(ahead)
		}
		ahead += strings.Repeat("0", int(lens[sym])-len(ahead))
		codes[sym] = ahead
	}
	return codes
}

// wholeLens are some n lengths (from 2 on) that are whole: a code is made two of one bit more, till they are n.
func wholeLens(r *rand.Rand, n int) []uint8 {
	l := []uint8{1, 1}
	for len(l) < n {
		if i := r.IntN(len(l)); l[i] < maxBits {
			l[i]++
			l = append(l, l[i])
		}
	}
	return shuffled(r, l)
}

func shuffled(r *rand.Rand, l []uint8) []uint8 {
	r.Shuffle(len(l), func(i, j int) { l[i], l[j] = l[j], l[i] })
	return l
}

// chanceLens are of each kind: whole ones, with symbols between that have no code, and such as lack a code, have one more, or are bad.
func chanceLens() [][]uint8 {
	r := chance()
	var lists [][]uint8
	for i := range 400 {
		coded := 2 + r.IntN(1+i%(maxSymbols-1))
		l := shuffled(r, append(wholeLens(r, coded), times(r.IntN(maxSymbols-coded+1), 0)...))
		at := r.IntN(len(l))
		lacks := slices.Clone(l)
		lacks[at] = 0
		more := slices.Insert(slices.Clone(l), at, uint8(1+r.IntN(maxBits)))
		bad := slices.Clone(l)
		bad[at] = uint8(maxBits + 1 + r.IntN(255-maxBits))
		any := make([]uint8, r.IntN(maxSymbols+1))
		for at := range any {
			any[at] = uint8(r.IntN(maxBits + 1))
		}
		lists = append(lists, l, lacks, more, bad, any)
	}
	return lists
}

// shortLens are all lists of up to four lengths from 0 to 5.
func shortLens() [][]uint8 {
	lists, ends := [][]uint8{{}}, 0
	for range 4 {
		begun := lists[ends:]
		ends = len(lists)
		for _, l := range begun {
			for size := range uint8(6) {
				lists = append(lists, join(l, []uint8{size}))
			}
		}
	}
	return lists
}

// kindCase is lengths, and what they are by the chapter's words.
type kindCase struct {
	what string
	lens []uint8
	want uint8
}

func kindCases() []kindCase {
	return []kindCase{
		{"nil", nil, api.LensNone},
		{"empty", []uint8{}, api.LensNone},
		{"a 0", []uint8{0}, api.LensNone},
		{"some 0s", times(7, 0), api.LensNone},
		{"MaxSymbols 0s", times(maxSymbols, 0), api.LensNone},
		{"one 0 more", times(maxSymbols+1, 0), api.LensBad},

		{"a 1", []uint8{1}, api.LensOne},
		{"a 1 behind 0s", []uint8{0, 0, 1}, api.LensOne},
		{"a 1 ahead of 0s", []uint8{1, 0, 0}, api.LensOne},
		{"a 1 among MaxSymbols", join(times(100, 0), times(1, 1), times(maxSymbols-101, 0)), api.LensOne},
		{"a 1 as the last of MaxSymbols", join(times(maxSymbols-1, 0), times(1, 1)), api.LensOne},
		{"a 1 among one more", join(times(maxSymbols, 0), times(1, 1)), api.LensBad},
		{"a 2", []uint8{2}, api.LensLess},
		{"a 2 among 0s", []uint8{0, 2, 0}, api.LensLess},
		{"a MaxBits", []uint8{maxBits}, api.LensLess},
		{"a 1 and a MaxBits", []uint8{1, 0, maxBits}, api.LensLess},
		{"a 1 and a 2", []uint8{2, 1}, api.LensLess},

		{"two 1s", []uint8{1, 1}, api.LensWhole},
		{"two 1s among 0s", []uint8{0, 1, 0, 1, 0}, api.LensWhole},
		{"three 1s", []uint8{1, 1, 1}, api.LensOver},
		{"two 1s and a MaxBits", []uint8{1, maxBits, 1}, api.LensOver},
		{"MaxSymbols 1s", times(maxSymbols, 1), api.LensOver},
		{"one 1 more", times(maxSymbols+1, 1), api.LensBad},

		{"the first example", []uint8{2, 1, 3, 3}, api.LensWhole},
		{"two 2s", []uint8{2, 2}, api.LensLess},
		{"three 2s", []uint8{2, 2, 2}, api.LensLess},
		{"four 2s", []uint8{2, 2, 2, 2}, api.LensWhole},
		{"five 2s", []uint8{2, 2, 2, 2, 2}, api.LensOver},

		{"one below whole", stairs(), api.LensLess},
		{"just whole", join(stairs(), times(1, maxBits)), api.LensWhole},
		{"one above whole", join(stairs(), times(2, maxBits)), api.LensOver},
		{"MaxSymbols of 9", times(maxSymbols, 9), api.LensLess},
		{"MaxSymbols of 8", times(maxSymbols, 8), api.LensOver},
		{"MaxSymbols of MaxBits", times(maxSymbols, maxBits), api.LensLess},
		{"MaxSymbols, whole", join(times(192, 8), times(128, 9)), api.LensWhole},
		{"MaxSymbols, one below", join(times(192, 8), times(127, 9), times(1, 10)), api.LensLess},
		{"MaxSymbols, one above", join(times(192, 8), times(127, 9), times(1, 8)), api.LensOver},
		{"whole, and 0s up to MaxSymbols", join(times(256, 8), times(64, 0)), api.LensWhole},
		{"whole, and one 0 more", join(times(256, 8), times(65, 0)), api.LensBad},

		{"above MaxBits", []uint8{maxBits + 1}, api.LensBad},
		{"above MaxBits among 0s", []uint8{0, maxBits + 1, 0}, api.LensBad},
		{"above MaxBits beside a whole", []uint8{1, 1, maxBits + 1}, api.LensBad},
		{"above MaxBits, and over", []uint8{1, 1, 1, maxBits + 1}, api.LensBad},
		{"above MaxBits, ahead of over", []uint8{255, 1, 1, 1}, api.LensBad},
		{"above MaxBits as the last of MaxSymbols", join(times(maxSymbols-1, 9), times(1, 16)), api.LensBad},
		{"above MaxBits, and one symbol more", times(maxSymbols+1, 200), api.LensBad},
		{"many", times(100000, 0), api.LensBad},
	}
}

func TestKindByHand(t *testing.T) {
	for _, c := range kindCases() {
		if got := canon.Kind(c.lens); got != c.want {
			t.Errorf("Kind of %s: %s, not %s", c.what, kindNames[got], kindNames[c.want])
		}
	}
}

func TestKindAboveMaxBits(t *testing.T) {
	for size := maxBits + 1; size <= 255; size++ {
		for _, l := range [][]uint8{{uint8(size)}, {1, uint8(size)}, {uint8(size), 1, 1, 1}, {0, uint8(size), 0}} {
			if got := canon.Kind(l); got != api.LensBad {
				t.Errorf("Kind(%d): %s", l, kindNames[got])
			}
			refused(t, "a bad length", l, api.ErrArg)
		}
	}
}

// TestKindOfOneLength: so many of one length alone are one, less, whole, over, or bad.
func TestKindOfOneLength(t *testing.T) {
	for size := range uint8(maxBits + 2) {
		for n := range maxSymbols + 2 {
			l := times(n, size)
			if got, want := canon.Kind(l), kindOf(l); got != want {
				t.Errorf("Kind of %d times %d: %s, not %s", n, size, kindNames[got], kindNames[want])
			}
		}
	}
}

func TestKind(t *testing.T) {
	for _, l := range append(shortLens(), chanceLens()...) {
		if got, want := canon.Kind(l), kindOf(l); got != want {
			t.Errorf("Kind(%d): %s, not %s", l, kindNames[got], kindNames[want])
		}
	}
}

// TestKindsAreMet: chance makes lengths of each kind but those that have cases of their own.
func TestKindsAreMet(t *testing.T) {
	met := map[uint8]int{}
	for _, l := range chanceLens() {
		met[kindOf(l)]++
	}
	for _, kind := range []uint8{api.LensWhole, api.LensLess, api.LensOver, api.LensBad} {
		if met[kind] < 100 {
			t.Errorf("%s: %d", kindNames[kind], met[kind])
		}
	}
}

func refused(t *testing.T, what string, lens []uint8, want api.Errno) {
	t.Helper()
	codes, e := canon.Codes(lens)
	if e != want || len(codes) != 0 {
		t.Errorf("Codes of %s: %d codes, %d, not %d", what, len(codes), e, want)
	}
}

func TestCodesRefused(t *testing.T) {
	for _, c := range kindCases() {
		switch c.want {
		case api.LensBad:
			refused(t, c.what, c.lens, api.ErrArg)
		case api.LensOver:
			refused(t, c.what, c.lens, api.ErrForm)
		}
	}
}

func coded(t *testing.T, lens []uint8) []api.Code {
	t.Helper()
	codes, e := canon.Codes(lens)
	if e != api.OK || len(codes) != len(lens) {
		t.Fatalf("Codes(%d): %d codes, %d", lens, len(codes), e)
	}
	return codes
}

func TestCodesByHand(t *testing.T) {
	cases := []struct {
		lens []uint8
		want []api.Code
	}{
		{nil, nil},
		{[]uint8{}, nil},
		{[]uint8{0}, []api.Code{{}}},
		{[]uint8{0, 0, 0}, []api.Code{{}, {}, {}}},
		{[]uint8{1}, []api.Code{{Bits: 0, Size: 1}}},
		{[]uint8{0, 1, 0}, []api.Code{{}, {Bits: 0, Size: 1}, {}}},
		{[]uint8{2}, []api.Code{{Bits: 0, Size: 2}}},
		{[]uint8{maxBits}, []api.Code{{Bits: 0, Size: maxBits}}},
		{[]uint8{1, 1}, []api.Code{{Bits: 0, Size: 1}, {Bits: 1, Size: 1}}},
		{[]uint8{2, 2}, []api.Code{{Bits: 0, Size: 2}, {Bits: 1, Size: 2}}},
		{[]uint8{2, 1, 3, 3}, []api.Code{{Bits: 2, Size: 2}, {Bits: 0, Size: 1}, {Bits: 6, Size: 3}, {Bits: 7, Size: 3}}},
		{[]uint8{2, 0, 1, 0, 3, 0, 3}, []api.Code{{Bits: 2, Size: 2}, {}, {Bits: 0, Size: 1}, {}, {Bits: 6, Size: 3}, {}, {Bits: 7, Size: 3}}},
		{[]uint8{maxBits, 1}, []api.Code{{Bits: 1 << 14, Size: maxBits}, {Bits: 0, Size: 1}}},
		{[]uint8{5, 2}, []api.Code{{Bits: 8, Size: 5}, {Bits: 0, Size: 2}}},
		{[]uint8{3, 3, 3, 3, 3, 2, 4, 4}, []api.Code{
			{Bits: 2, Size: 3}, {Bits: 3, Size: 3}, {Bits: 4, Size: 3}, {Bits: 5, Size: 3}, {Bits: 6, Size: 3},
			{Bits: 0, Size: 2}, {Bits: 14, Size: 4}, {Bits: 15, Size: 4}}},
	}
	for _, c := range cases {
		if got, e := canon.Codes(c.lens); e != api.OK || !slices.Equal(got, c.want) {
			t.Errorf("Codes(%d): %v, %d, not %v", c.lens, got, e, c.want)
		}
	}
}

// TestCodesOfStairs: a length each, up to MaxBits: rows of 1s, and a 0 behind; at last 1s alone.
func TestCodesOfStairs(t *testing.T) {
	codes := coded(t, join(stairs(), times(1, maxBits)))
	for i, got := range codes[:maxBits] {
		if want := strings.Repeat("1", i) + "0"; numeral(t, got) != want {
			t.Errorf("length %d: %s, not %s", i+1, numeral(t, got), want)
		}
	}
	if got := codes[maxBits]; got != (api.Code{Bits: 1<<maxBits - 1, Size: maxBits}) {
		t.Errorf("at last: %v", got)
	}
}

// TestCodesOfRFC1951: its fixed literals and lengths.
func TestCodesOfRFC1951(t *testing.T) {
	codes := coded(t, join(times(144, 8), times(112, 9), times(24, 7), times(8, 8)))
	for sym, want := range map[int]api.Code{
		0: {Bits: 0x30, Size: 8}, 143: {Bits: 0xBF, Size: 8},
		144: {Bits: 0x190, Size: 9}, 255: {Bits: 0x1FF, Size: 9},
		256: {Bits: 0, Size: 7}, 279: {Bits: 0x17, Size: 7},
		280: {Bits: 0xC0, Size: 8}, 287: {Bits: 0xC7, Size: 8},
	} {
		if codes[sym] != want {
			t.Errorf("symbol %d: %v, not %v", sym, codes[sym], want)
		}
	}
}

// TestCodesOfOneLength: they are the numbers from 0 on.
func TestCodesOfOneLength(t *testing.T) {
	for size := uint8(1); size <= maxBits; size++ {
		codes := coded(t, times(min(maxSymbols, 1<<size), size))
		for sym, got := range codes {
			if want := (api.Code{Bits: uint32(sym), Size: size}); got != want {
				t.Errorf("symbol %d of length %d: %v", sym, size, got)
			}
		}
	}
}

// held are lists of all kinds but those that are refused.
func held() [][]uint8 {
	var lists [][]uint8
	for _, c := range kindCases() {
		lists = append(lists, c.lens)
	}
	lists = append(lists, shortLens()...)
	lists = append(lists, chanceLens()...)
	return slices.DeleteFunc(lists, func(l []uint8) bool {
		kind := kindOf(l)
		return kind == api.LensBad || kind == api.LensOver
	})
}

func TestCodes(t *testing.T) {
	for _, l := range held() {
		codes := coded(t, l)
		got, want := numerals(t, codes), numeralsOf(l)
		if !slices.Equal(got, want) {
			t.Fatalf("Codes(%d): %s, not %s", l, got, want)
		}
		for sym, c := range codes {
			if l[sym] == 0 && c != (api.Code{}) {
				t.Fatalf("Codes(%d): symbol %d has %v", l, sym, c)
			}
		}
	}
}

func TestCodesOfBadAndOver(t *testing.T) {
	for _, l := range append(shortLens(), chanceLens()...) {
		switch kindOf(l) {
		case api.LensBad:
			refused(t, "bad lengths", l, api.ErrArg)
		case api.LensOver:
			refused(t, "too many", l, api.ErrForm)
		}
	}
}

func TestLensByHand(t *testing.T) {
	cases := []struct {
		codes []api.Code
		want  []uint8
	}{
		{nil, nil},
		{[]api.Code{}, nil},
		{[]api.Code{{}}, []uint8{0}},
		{[]api.Code{{Bits: 2, Size: 2}, {Bits: 0, Size: 1}, {}, {Bits: 6, Size: 3}}, []uint8{2, 1, 0, 3}},
		{[]api.Code{{Bits: math.MaxUint32, Size: 0}, {Bits: 9, Size: 1}, {Bits: 0, Size: 255}}, []uint8{0, 1, 255}},
		{[]api.Code{{Size: 1}, {Size: 1}, {Size: 1}, {Size: 16}}, []uint8{1, 1, 1, 16}},
	}
	for _, c := range cases {
		if got := canon.Lens(c.codes); !slices.Equal(got, c.want) {
			t.Errorf("Lens(%v): %d, not %d", c.codes, got, c.want)
		}
	}
}

func TestLensOfMany(t *testing.T) {
	codes := make([]api.Code, 10*maxSymbols)
	for sym := range codes {
		codes[sym] = api.Code{Bits: uint32(sym), Size: uint8(sym * 7)}
	}
	got := canon.Lens(codes)
	if len(got) != len(codes) {
		t.Fatalf("%d lengths", len(got))
	}
	for sym, size := range got {
		if size != codes[sym].Size {
			t.Errorf("symbol %d: %d", sym, size)
		}
	}
}

func TestLensOfCodes(t *testing.T) {
	for _, l := range held() {
		if got := canon.Lens(coded(t, l)); !slices.Equal(got, l) {
			t.Errorf("Lens of Codes(%d): %d", l, got)
		}
	}
}

func TestWeighByHand(t *testing.T) {
	cases := []struct {
		what   string
		lens   []uint8
		counts []int
		want   int
	}{
		{"nothing", nil, nil, 0},
		{"empty lists", []uint8{}, []int{}, 0},
		{"no counts", []uint8{1, 2, 3}, nil, 0},
		{"no lengths", nil, []int{1, 2, 3}, 0},
		{"one", []uint8{3}, []int{5}, 15},
		{"some", []uint8{3, 3, 2, 1}, []int{1, 1, 2, 4}, 14},
		{"others", []uint8{1, 2, 4, 8}, []int{1000, 100, 10, 1}, 1248},
		{"fewer counts", []uint8{3, 3, 2, 1}, []int{1, 1}, 6},
		{"more counts", []uint8{3, 3}, []int{1, 1, 2, 4}, 6},
		{"counts that are 0", []uint8{3, 2, 1}, []int{0, 5, 0}, 10},
		{"all of them 0", []uint8{3, 2, 1}, []int{0, 0, 0}, 0},
		{"a count below 0", []uint8{3, 2, 1}, []int{4, -5, 6}, 18},
		{"counts below 0", []uint8{3, 2}, []int{-1, math.MinInt}, 0},
		{"lengths that are 0", []uint8{0, 2, 0}, []int{7, 7, math.MaxInt}, 14},
		{"none but 0", []uint8{0, 0}, []int{1, 2}, 0},
		{"MaxBits", []uint8{maxBits, maxBits}, []int{1 << 30, 1}, 15<<30 + 15},
		{"a bad length", []uint8{255, 16, 1}, []int{2, 3, 4}, 562},
		{"the greatest", []uint8{1, 7}, []int{math.MaxInt, 0}, math.MaxInt},
		{"the greatest of two", []uint8{1, 2}, []int{1, math.MaxInt / 2}, math.MaxInt},
		{"the greatest behind one below 0", []uint8{15, 1}, []int{math.MinInt, math.MaxInt}, math.MaxInt},
		{"a great one", []uint8{maxBits}, []int{math.MaxInt / maxBits}, math.MaxInt / maxBits * maxBits},
		{"over is no error", times(4, 1), []int{1, 2, 3, 4}, 10},
	}
	for _, c := range cases {
		if got := canon.Weigh(c.lens, c.counts); got != c.want {
			t.Errorf("Weigh of %s: %d, not %d", c.what, got, c.want)
		}
	}
}

// weighed is the promise's words in numbers that are never too great.
func weighed(lens []uint8, counts []int) *big.Int {
	all := new(big.Int)
	for sym, n := range counts {
		if sym < len(lens) && n > 0 {
			all.Add(all, new(big.Int).Mul(big.NewInt(int64(n)), big.NewInt(int64(lens[sym]))))
		}
	}
	return all
}

func TestWeigh(t *testing.T) {
	r := chance()
	for range 3000 {
		lens := make([]uint8, r.IntN(2*maxSymbols))
		for sym := range lens {
			lens[sym] = uint8(r.IntN(1 + []int{1, 15, 255}[r.IntN(3)]))
		}
		counts := make([]int, r.IntN(2*maxSymbols))
		for sym := range counts {
			counts[sym] = r.IntN(1<<r.IntN(45)+1) - r.IntN(1<<r.IntN(45)+1)
		}
		want := weighed(lens, counts)
		if got := canon.Weigh(lens, counts); !want.IsInt64() || int64(got) != want.Int64() {
			t.Fatalf("Weigh of %d lengths, %d counts: %d, not %s", len(lens), len(counts), got, want)
		}
	}
}

// TestWeighTooGreat: what no number holds is no reason not to end.
func TestWeighTooGreat(t *testing.T) {
	lens, counts := times(1000, 255), slices.Repeat([]int{math.MaxInt}, 1000)
	if canon.Weigh(lens, counts) != canon.Weigh(slices.Clone(lens), slices.Clone(counts)) {
		t.Error("the same call answers otherwise")
	}
}

func TestWeighOfMany(t *testing.T) {
	if got := canon.Weigh(times(100000, 2), slices.Repeat([]int{3}, 100001)); got != 600000 {
		t.Error(got)
	}
}

// TestNoneBeginsAnother: sorted, a row that begins another one stands just ahead of one that it begins.
func TestNoneBeginsAnother(t *testing.T) {
	for _, l := range held() {
		rows := slices.DeleteFunc(numerals(t, coded(t, l)), func(s string) bool { return s == "" })
		slices.Sort(rows)
		for i := 1; i < len(rows); i++ {
			if strings.HasPrefix(rows[i], rows[i-1]) {
				t.Fatalf("Codes(%d): %s begins %s", l, rows[i-1], rows[i])
			}
		}
	}
}

// begun tells of each row of MaxBits bits how many codes begin it.
func begun(t *testing.T, codes []api.Code) []int {
	rows := make([]int, 1<<maxBits)
	for _, s := range numerals(t, codes) {
		if s == "" {
			continue
		}
		from, _ := new(big.Int).SetString(s+strings.Repeat("0", maxBits-len(s)), 2)
		to, _ := new(big.Int).SetString(s+strings.Repeat("1", maxBits-len(s)), 2)
		for row := from.Int64(); row <= to.Int64(); row++ {
			rows[row]++
		}
	}
	return rows
}

// TestRowsAreBegun: of lengths that are whole each row by just one code; of others none by two, and some by none.
func TestRowsAreBegun(t *testing.T) {
	for i, l := range held() {
		if len(l) < 5 && i%5 > 0 {
			continue
		}
		rows := begun(t, coded(t, l))
		least, most := slices.Min(rows), slices.Max(rows)
		if most > 1 || (least == 1) != (kindOf(l) == api.LensWhole) {
			t.Fatalf("Codes(%d): rows are begun by %d to %d codes", l, least, most)
		}
	}
}

func TestCodesRiseWithSymbols(t *testing.T) {
	for _, l := range held() {
		codes := coded(t, l)
		last := map[uint8]api.Code{}
		for sym, c := range codes {
			if c.Size != l[sym] {
				t.Fatalf("Codes(%d): symbol %d has %v", l, sym, c)
			}
			if ahead := last[c.Size]; c.Size > 0 && ahead.Size > 0 && c.Bits != ahead.Bits+1 {
				t.Fatalf("Codes(%d): symbol %d has %v behind %v", l, sym, c, ahead)
			}
			last[c.Size] = c
		}
	}
}

// TestArgumentsStay: a call changes none of its lists.
func TestArgumentsStay(t *testing.T) {
	for _, c := range kindCases() {
		lens := slices.Clone(c.lens)
		counts := slices.Repeat([]int{-3, 4, 0}, len(lens))
		canon.Kind(lens)
		codes, _ := canon.Codes(lens)
		kept := slices.Clone(codes)
		canon.Lens(codes)
		canon.Weigh(lens, counts)
		if !slices.Equal(lens, c.lens) || !slices.Equal(codes, kept) || !slices.Equal(counts, slices.Repeat([]int{-3, 4, 0}, len(lens))) {
			t.Errorf("%s: a list is another one", c.what)
		}
	}
}

// TestAnswersLieApart: a list that was answered may be changed, and one that was handed in, and no other answer is another one.
func TestAnswersLieApart(t *testing.T) {
	for _, c := range kindCases() {
		lens := slices.Clone(c.lens)
		codes, e := canon.Codes(lens)
		again, _ := canon.Codes(lens)
		kept := slices.Clone(again)
		sizes, sizesAgain := canon.Lens(codes), canon.Lens(codes)
		want := slices.Clone(sizesAgain)
		for sym := range codes {
			codes[sym], sizes[sym] = api.Code{Bits: 77, Size: 77}, 77
		}
		for sym := range lens {
			lens[sym] = 77
		}
		if !slices.Equal(again, kept) || !slices.Equal(sizesAgain, want) {
			t.Errorf("%s: an answer is another one", c.what)
		}
		if late, lateErr := canon.Codes(c.lens); lateErr != e || !slices.Equal(late, kept) {
			t.Errorf("%s: a later answer is another one", c.what)
		}
	}
}

// TestAlikeAgain: an answer hangs on nothing but the arguments: neither on calls ahead, nor on room behind a list.
func TestAlikeAgain(t *testing.T) {
	for _, l := range append(shortLens(), chanceLens()...) {
		roomy := append(make([]uint8, 0, len(l)+50), l...)
		first, e := canon.Codes(l)
		canon.Codes(times(9, 4))
		canon.Codes(times(9, 1))
		again, e2 := canon.Codes(roomy)
		if e != e2 || !slices.Equal(first, again) || canon.Kind(l) != canon.Kind(roomy) || !slices.Equal(canon.Lens(first), canon.Lens(again)) {
			t.Fatalf("lengths %d: the same calls answer otherwise", l)
		}
	}
}
