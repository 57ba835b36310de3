package huff_test

import (
	"cmp"
	"math"
	"math/rand/v2"
	"slices"
	"strings"
	"testing"

	"platen/api"
	"platen/bitr"
	"platen/bitw"
	"platen/canon"
	"platen/huff"
)

const (
	maxBits    = 15
	maxSymbols = 320
)

func chance() *rand.Rand {
	return rand.New(rand.NewPCG(7, 1952))
}

// times is a list of the length n times.
func times(n int, size uint8) []uint8 {
	return slices.Repeat([]uint8{size}, n)
}

func join(lists ...[]uint8) []uint8 {
	return slices.Concat(lists...)
}

func turned[T any](l []T) []T {
	l = slices.Clone(l)
	slices.Reverse(l)
	return l
}

// stairs are the lengths 1, 2, .. to MaxBits: another one of MaxBits, and they are whole.
func stairs() []uint8 {
	var l []uint8
	for size := range maxBits {
		l = append(l, uint8(size+1))
	}
	return l
}

func wholeStairs() []uint8 {
	return join(stairs(), times(1, maxBits))
}

// mixed are whole lengths, of which the codes of 3 to 5 bits begin with unlike rows of first bits.
func mixed() []uint8 {
	return []uint8{2, 3, 3, 3, 4, 4, 3, 4, 5, 5}
}

// lensCase is lengths, and New's error of them with a first that may be.
type lensCase struct {
	what string
	lens []uint8
	want api.Errno
}

// lensCases are of each kind.
func lensCases() []lensCase {
	return []lensCase{
		{"nil", nil, api.OK},
		{"empty", []uint8{}, api.OK},
		{"a 0", []uint8{0}, api.OK},
		{"some 0s", times(7, 0), api.OK},
		{"MaxSymbols 0s", times(maxSymbols, 0), api.OK},

		{"a 1", []uint8{1}, api.OK},
		{"a 1 behind 0s", []uint8{0, 0, 1}, api.OK},
		{"a 1 ahead of 0s", []uint8{1, 0, 0}, api.OK},
		{"a 1 as the last of MaxSymbols", join(times(maxSymbols-1, 0), times(1, 1)), api.OK},

		{"two 1s", []uint8{1, 1}, api.OK},
		{"two 1s among 0s", []uint8{0, 1, 0, 1, 0}, api.OK},
		{"the example", []uint8{2, 1, 3, 3}, api.OK},
		{"the example among 0s", []uint8{0, 2, 0, 0, 1, 3, 0, 3, 0}, api.OK},
		{"four 2s", times(4, 2), api.OK},
		{"256 8s", times(256, 8), api.OK},
		{"mixed", mixed(), api.OK},
		{"mixed, turned", turned(mixed()), api.OK},
		{"stairs", wholeStairs(), api.OK},
		{"stairs, turned", turned(wholeStairs()), api.OK},
		{"two stairs", join([]uint8{2, 2}, stairs()[2:], times(1, maxBits), times(1, 2)), api.OK},
		{"MaxSymbols, whole", join(times(192, 8), times(128, 9)), api.OK},
		{"MaxSymbols, up to MaxBits", join(stairs()[:6], times(62, 12), times(4, 14), times(7, maxBits), times(1, maxBits), times(maxSymbols-80, 0)), api.OK},
		{"RFC 1951's literals and lengths", join(times(144, 8), times(112, 9), times(24, 7), times(8, 8)), api.OK},
		{"RFC 1951's distances", times(32, 5), api.OK},

		{"a 2", []uint8{2}, api.ErrForm},
		{"a 2 among 0s", []uint8{0, 2, 0}, api.ErrForm},
		{"a MaxBits", []uint8{maxBits}, api.ErrForm},
		{"a 1 and a 2", []uint8{1, 2}, api.ErrForm},
		{"a 1 and a MaxBits", []uint8{1, maxBits}, api.ErrForm},
		{"two 2s", []uint8{2, 2}, api.ErrForm},
		{"30 5s", times(30, 5), api.ErrForm},
		{"stairs, one wanting", stairs(), api.ErrForm},
		{"MaxSymbols of MaxBits", times(maxSymbols, maxBits), api.ErrForm},

		{"three 1s", []uint8{1, 1, 1}, api.ErrForm},
		{"five 2s", times(5, 2), api.ErrForm},
		{"stairs, one too many", join(wholeStairs(), times(1, maxBits)), api.ErrForm},
		{"MaxSymbols 1s", times(maxSymbols, 1), api.ErrForm},

		{"above MaxBits", []uint8{maxBits + 1}, api.ErrArg},
		{"far above MaxBits", []uint8{255}, api.ErrArg},
		{"above MaxBits beside a whole", []uint8{1, 1, maxBits + 1}, api.ErrArg},
		{"above MaxBits beside too many", []uint8{1, 1, 1, maxBits + 1}, api.ErrArg},
		{"above MaxBits beside too few", []uint8{maxBits + 1, 2, 2}, api.ErrArg},
		{"above MaxBits as the last of MaxSymbols", join(times(maxSymbols-1, 0), times(1, 16)), api.ErrArg},
		{"one 0 above MaxSymbols", times(maxSymbols+1, 0), api.ErrArg},
		{"a whole above MaxSymbols", join(times(256, 8), times(65, 0)), api.ErrArg},
		{"a 1 above MaxSymbols", join(times(maxSymbols, 0), times(1, 1)), api.ErrArg},
		{"many", times(100000, 1), api.ErrArg},
	}
}

// wholeLens are some n lengths (from 2 on) that are whole: a code is made two of one bit more, till they are n.
func wholeLens(r *rand.Rand, n int) []uint8 {
	l := []uint8{1, 1}
	for len(l) < n {
		// Often the last one, so that some codes are long.
		i := len(l) - 1
		if r.IntN(3) > 0 {
			i = r.IntN(len(l))
		}
		if l[i] < maxBits {
			l[i]++
			l = append(l, l[i])
		} else {
			l[0], l[i] = l[i], l[0]
		}
	}
	return shuffled(r, l)
}

func shuffled(r *rand.Rand, l []uint8) []uint8 {
	r.Shuffle(len(l), func(i, j int) { l[i], l[j] = l[j], l[i] })
	return l
}

// chanceLens are whole lengths, many with symbols between that have no code.
func chanceLens(n int) [][]uint8 {
	r := chance()
	var lists [][]uint8
	for i := range n {
		coded := 2 + r.IntN(1+(i*37)%(maxSymbols-1))
		l := wholeLens(r, coded)
		if i%3 > 0 {
			l = shuffled(r, append(l, times(r.IntN(maxSymbols-coded+1), 0)...))
		}
		lists = append(lists, l)
	}
	return lists
}

// shortLens are all lists of up to five lengths from 0 to 4.
func shortLens() [][]uint8 {
	lists, ends := [][]uint8{{}}, 0
	for range 5 {
		begun := lists[ends:]
		ends = len(lists)
		for _, l := range begun {
			for size := range uint8(5) {
				lists = append(lists, join(l, []uint8{size}))
			}
		}
	}
	return lists
}

// readable are the lists of which there is a table.
func readable(lists [][]uint8) [][]uint8 {
	return slices.DeleteFunc(lists, func(l []uint8) bool {
		kind := canon.Kind(l)
		return kind != api.LensWhole && kind != api.LensOne && kind != api.LensNone
	})
}

// byHand are the cases' lists of which there is a table.
func byHand() [][]uint8 {
	var lists [][]uint8
	for _, c := range lensCases() {
		if c.want == api.OK {
			lists = append(lists, c.lens)
		}
	}
	return lists
}

// held are lists of all sorts of which there is a table.
func held() [][]uint8 {
	return slices.Concat(byHand(), readable(shortLens()), chanceLens(60))
}

// oneMore adds one to a numeral: a row of 1s at its end turns to 0s, and the 0 ahead of them to 1.
func oneMore(n string) string {
	at := strings.LastIndex(n, "0")
	return n[:at] + "1" + strings.Repeat("0", len(n)-at-1)
}

// spelt are the codes of layer 5's words, each with its first bit first; lens must be such that there is a next code for each.
func spelt(lens []uint8) []string {
	codes := make([]string, len(lens))
	var syms []int
	for sym, size := range lens {
		if size > 0 {
			syms = append(syms, sym)
		}
	}
	slices.SortFunc(syms, func(a, b int) int {
		return cmp.Or(cmp.Compare(lens[a], lens[b]), cmp.Compare(a, b))
	})
	ahead := ""
	for i, sym := range syms {
		if i > 0 {
			ahead = oneMore(ahead)
		}
		ahead += strings.Repeat("0", int(lens[sym])-len(ahead))
		codes[sym] = ahead
	}
	return codes
}

// numeral has the bits of n below size, the lowest one first, as 0s and 1s.
func numeral(n uint64, size int) string {
	var b strings.Builder
	for range size {
		b.WriteByte('0' + byte(n%2))
		n /= 2
	}
	return b.String()
}

// number has the numeral's first bit lowest.
func number(bits string) uint64 {
	sum, counts := uint64(0), uint64(1)
	for _, bit := range bits {
		if bit == '1' {
			sum += counts
		}
		counts *= 2
	}
	return sum
}

func numeralText(s string) string {
	var b strings.Builder
	for i := range len(s) {
		b.WriteString(numeral(uint64(s[i]), 8))
	}
	return b.String()
}

// textOf is the bytes of a numeral, which are whole.
func textOf(bits string) string {
	var b strings.Builder
	for ; len(bits) >= 8; bits = bits[8:] {
		b.WriteByte(byte(number(bits[:8])))
	}
	return b.String()
}

// found is what a look answers.
type found struct {
	sym  int
	size int
	e    api.Errno
}

// model is the chapter's words in numerals: whose code one is, and what codes begin with.
type model struct {
	lens  []uint8
	codes []string
	syms  map[string]int
	begun map[string]bool
}

func newModel(lens []uint8) *model {
	m := &model{lens: lens, codes: spelt(lens), syms: map[string]int{}, begun: map[string]bool{}}
	for sym, code := range m.codes {
		if code == "" {
			continue
		}
		m.syms[code] = sym
		for i := range len(code) + 1 {
			m.begun[code[:i]] = true
		}
	}
	return m
}

// says is what bits say, one by one.
func (m *model) says(bits string) found {
	for i := range len(bits) + 1 {
		if sym, is := m.syms[bits[:i]]; is {
			return found{sym, i, api.OK}
		}
	}
	if m.begun[bits] {
		return found{0, 0, api.ErrEnd}
	}
	return found{0, 0, api.ErrForm}
}

func (m *model) cells(first int) int {
	longest := map[string]int{}
	for _, code := range m.codes {
		if len(code) > first {
			longest[code[:first]] = max(longest[code[:first]], len(code))
		}
	}
	n := math.Pow(2, float64(first))
	for _, size := range longest {
		n += math.Pow(2, float64(size-first))
	}
	return int(n)
}

func table(t *testing.T, lens []uint8, first int) *huff.Table {
	t.Helper()
	table, e := huff.New(lens, first)
	if e != api.OK || table == nil {
		t.Fatalf("New(%d, %d): error %d", lens, first, e)
	}
	return table
}

// tables are all that there are of the lengths: the one by first 1 stands first.
func tables(t *testing.T, lens []uint8) []*huff.Table {
	t.Helper()
	var l []*huff.Table
	for first := 1; first <= maxBits; first++ {
		l = append(l, table(t, lens, first))
	}
	return l
}

func looks(t *testing.T, what string, x *huff.Table, bits uint64, have int, want found) {
	t.Helper()
	if sym, size, e := x.Look(bits, have); (found{sym, size, e}) != want {
		t.Fatalf("%s: Look(%b, %d): %v, not %v", what, bits, have, found{sym, size, e}, want)
	}
}

// next asks of the reader, which is to stand at a place, and of its text's bits: where it stands then hangs on what the model says.
func next(t *testing.T, x *huff.Table, m *model, r *bitr.Reader, bits string, at int) found {
	t.Helper()
	want := m.says(bits[at:])
	sym, e := x.Next(r)
	if sym != want.sym || e != want.e {
		t.Fatalf("lengths %d: Next at %d of %s: %d, %d, not %v", m.lens, at, bits, sym, e, want)
	}
	if r.At() != at+want.size || r.Left() != len(bits)-at-want.size {
		t.Fatalf("lengths %d: behind Next at %d of %s: At %d, Left %d", m.lens, at, bits, r.At(), r.Left())
	}
	return want
}

func refused(t *testing.T, what string, lens []uint8, first int, want api.Errno) {
	t.Helper()
	if x, e := huff.New(lens, first); x != nil || e != want {
		t.Errorf("New of %s, %d: a table is %t, error %d, not %d", what, first, x != nil, e, want)
	}
}

// badFirsts are none.
var badFirsts = []int{math.MinInt, math.MinInt + 1, -1 << 32, -64, -15, -1, 0, 16, 17, 31, 32, 63, 64, 65, 320, 1 << 16, 1<<32 + 1, math.MaxInt - 1, math.MaxInt}

func TestExamples(t *testing.T) {
	for first := 1; first <= maxBits; first++ {
		x := table(t, []uint8{2, 1, 3, 3}, first)
		looks(t, "the example", x, 3, 2, found{0, 0, api.ErrEnd})
		looks(t, "the example", x, 3, 3, found{2, 3, api.OK})
		looks(t, "the example", x, 0, 1, found{1, 1, api.OK})
	}
}

func TestNew(t *testing.T) {
	for _, c := range lensCases() {
		for first := 1; first <= maxBits; first++ {
			if c.want == api.OK {
				table(t, c.lens, first)
			} else {
				refused(t, c.what, c.lens, first, c.want)
			}
		}
	}
}

// TestNewOfBadFirst: ErrArg, whatever the lengths are, even such as would be ErrForm.
func TestNewOfBadFirst(t *testing.T) {
	for _, c := range lensCases() {
		for _, first := range badFirsts {
			refused(t, c.what, c.lens, first, api.ErrArg)
		}
	}
}

func TestNewOfShortLens(t *testing.T) {
	want := map[uint8]api.Errno{api.LensOver: api.ErrForm, api.LensLess: api.ErrForm, api.LensBad: api.ErrArg}
	for i, l := range append(shortLens(), chanceLens(30)...) {
		bad := append(slices.Clone(l), 16)
		lacks := slices.Clone(l)
		if len(l) > 0 {
			lacks[i%len(l)] = 0
		}
		for _, x := range [][]uint8{l, bad, lacks, append(slices.Clone(l), 1), append(slices.Clone(l), 15)} {
			if e := want[canon.Kind(x)]; e != api.OK {
				refused(t, "lengths", x, 1+i%maxBits, e)
			} else {
				table(t, x, 1+i%maxBits)
			}
		}
	}
}

func TestCellsByHand(t *testing.T) {
	cases := []struct {
		what  string
		lens  []uint8
		first int
		want  int
	}{
		{"nil", nil, 1, 2},
		{"nil", nil, 9, 512},
		{"nil", nil, maxBits, 32768},
		{"empty", []uint8{}, 4, 16},
		{"MaxSymbols 0s", times(maxSymbols, 0), 3, 8},
		{"a 1", []uint8{1}, 1, 2},
		{"a 1 behind 0s", []uint8{0, 0, 1}, 1, 2},
		{"a 1", []uint8{1}, 5, 32},
		{"a 1", []uint8{1}, maxBits, 32768},
		{"two 1s", []uint8{1, 1}, 1, 2},
		{"two 1s", []uint8{1, 1}, 2, 4},
		{"the example", []uint8{2, 1, 3, 3}, 1, 2 + 4},
		{"the example", []uint8{2, 1, 3, 3}, 2, 4 + 2},
		{"the example", []uint8{2, 1, 3, 3}, 3, 8},
		{"the example", []uint8{2, 1, 3, 3}, 4, 16},
		{"four 2s", times(4, 2), 1, 2 + 2 + 2},
		{"mixed", mixed(), 1, 2 + 4 + 16},
		{"mixed", mixed(), 2, 4 + 2 + 2 + 8},
		{"mixed", mixed(), 3, 8 + 2 + 4},
		{"mixed", mixed(), 4, 16 + 2},
		{"mixed", mixed(), 5, 32},
		{"mixed", mixed(), maxBits, 32768},
		{"stairs", wholeStairs(), 1, 2 + 16384},
		{"stairs", wholeStairs(), 7, 128 + 256},
		{"stairs", wholeStairs(), 14, 16384 + 2},
		{"stairs", wholeStairs(), maxBits, 32768},
		{"MaxSymbols, whole", join(times(192, 8), times(128, 9)), 1, 2 + 128 + 256},
		{"MaxSymbols, whole", join(times(192, 8), times(128, 9)), 7, 128 + 96*2 + 32*4},
		{"MaxSymbols, whole", join(times(192, 8), times(128, 9)), 8, 256 + 64*2},
		{"MaxSymbols, whole", join(times(192, 8), times(128, 9)), 9, 512},
		{"RFC 1951's distances", times(32, 5), 4, 16 + 16*2},
	}
	for _, c := range cases {
		if got := table(t, c.lens, c.first).Cells(); got != c.want {
			t.Errorf("Cells of %s, %d: %d, not %d", c.what, c.first, got, c.want)
		}
	}
}

func TestCells(t *testing.T) {
	for _, l := range held() {
		m := newModel(l)
		for i, x := range tables(t, l) {
			if got, want := x.Cells(), m.cells(i+1); got != want {
				t.Fatalf("Cells of %d, %d: %d, not %d", l, i+1, got, want)
			}
		}
	}
}

func TestLookByHand(t *testing.T) {
	end, form := found{0, 0, api.ErrEnd}, found{0, 0, api.ErrForm}
	cases := []struct {
		what string
		lens []uint8
		bits uint64
		have int
		want found
	}{
		{"the example", []uint8{2, 1, 3, 3}, 0, 0, end},
		{"the example", []uint8{2, 1, 3, 3}, 1, 0, end},
		{"the example", []uint8{2, 1, 3, 3}, 1, 1, end},
		{"the example", []uint8{2, 1, 3, 3}, 1, 2, found{0, 2, api.OK}},
		{"the example", []uint8{2, 1, 3, 3}, 3, 1, end},
		{"the example", []uint8{2, 1, 3, 3}, 7, 2, end},
		{"the example", []uint8{2, 1, 3, 3}, 7, 3, found{3, 3, api.OK}},
		{"the example", []uint8{2, 1, 3, 3}, 11, 4, found{2, 3, api.OK}},
		{"the example", []uint8{2, 1, 3, 3}, math.MaxUint64, 64, found{3, 3, api.OK}},
		{"the example", []uint8{2, 1, 3, 3}, math.MaxUint64 - 1, 64, found{1, 1, api.OK}},
		{"the example", []uint8{2, 1, 3, 3}, math.MaxUint64 - 4, math.MaxInt, found{2, 3, api.OK}},
		{"mixed", mixed(), 0, 1, end},
		{"mixed", mixed(), 0, 2, found{0, 2, api.OK}},
		{"mixed", mixed(), 2, 3, found{1, 3, api.OK}},
		{"mixed", mixed(), 2, 2, end},
		{"mixed", mixed(), 6, 3, found{2, 3, api.OK}},
		{"mixed", mixed(), 3, 3, end},
		{"mixed", mixed(), 3, 4, found{4, 4, api.OK}},
		{"mixed", mixed(), 15, 4, end},
		{"mixed", mixed(), 15, 5, found{8, 5, api.OK}},
		{"mixed", mixed(), 31, 5, found{9, 5, api.OK}},
		{"a 1", []uint8{1}, 0, 0, end},
		{"a 1", []uint8{1}, 1, 0, end},
		{"a 1", []uint8{1}, 0, 1, found{0, 1, api.OK}},
		{"a 1", []uint8{1}, 1, 1, form},
		{"a 1", []uint8{1}, 3, 2, form},
		{"a 1", []uint8{1}, 2, 2, found{0, 1, api.OK}},
		{"a 1", []uint8{1}, 1, 64, form},
		{"a 1 behind 0s", []uint8{0, 0, 1}, 0, 9, found{2, 1, api.OK}},
		{"a 1 behind 0s", []uint8{0, 0, 1}, 1, 9, form},
		{"nil", nil, 0, 0, form},
		{"nil", nil, 0, 1, form},
		{"nil", nil, 1, 1, form},
		{"nil", nil, math.MaxUint64, 64, form},
		{"some 0s", times(7, 0), 0, 0, form},
		{"some 0s", times(7, 0), 5, 15, form},
		{"stairs", wholeStairs(), 1<<14 - 1, 14, end},
		{"stairs", wholeStairs(), 1<<14 - 1, 15, found{14, 15, api.OK}},
		{"stairs", wholeStairs(), 1<<15 - 1, 14, end},
		{"stairs", wholeStairs(), 1<<15 - 1, 15, found{15, 15, api.OK}},
		{"stairs", wholeStairs(), 1<<16 - 1, 16, found{15, 15, api.OK}},
		{"stairs", wholeStairs(), 1<<13 - 1, 13, end},
		{"stairs", wholeStairs(), 1<<13 - 1, 14, found{13, 14, api.OK}},
	}
	for _, c := range cases {
		for _, x := range tables(t, c.lens) {
			looks(t, c.what, x, c.bits, c.have, c.want)
		}
	}
}

// belowNought are no numbers of bits.
var belowNought = []int{math.MinInt, math.MinInt + 1, -1 << 32, -64, -63, -15, -8, -1}

func TestLookBelowNought(t *testing.T) {
	for _, l := range byHand() {
		for _, x := range tables(t, l) {
			for _, have := range belowNought {
				for _, bits := range []uint64{0, 1, math.MaxUint64} {
					looks(t, "below 0", x, bits, have, found{0, 0, api.ErrArg})
				}
			}
		}
	}
}

// TestLookAtAll: all rows of up to six bits, of all short lists, whatever first is.
func TestLookAtAll(t *testing.T) {
	for _, l := range append(readable(shortLens()), mixed(), turned(mixed())) {
		m := newModel(l)
		for _, x := range tables(t, l) {
			for have := range 7 {
				for bits := range uint64(1) << have {
					looks(t, "a short list", x, bits, have, m.says(numeral(bits, have)))
				}
			}
		}
	}
}

// TestLookAtAllLong: all rows of up to MaxBits bits, of a list with codes of all lengths.
func TestLookAtAllLong(t *testing.T) {
	l := chanceLens(60)[41]
	for _, l := range [][]uint8{l, wholeStairs()} {
		m := newModel(l)
		for _, first := range []int{1, 6, 9, 14, maxBits} {
			x := table(t, l, first)
			for have := range maxBits + 1 {
				for bits := range uint64(1) << have {
					looks(t, "a long list", x, bits, have, m.says(numeral(bits, have)))
				}
			}
		}
	}
}

// haves are numbers of bits, at the edges and beyond.
var haves = []int{0, 1, 2, 5, 8, 9, 13, 14, 15, 16, 17, 31, 32, 33, 56, 57, 63, 64, 65, 100, 1 << 20, 1 << 32, math.MaxInt - 1, math.MaxInt}

// TestLookHave: bits beyond those that are had count for nothing, be they 0 or 1.
func TestLookHave(t *testing.T) {
	r := chance()
	for _, l := range append(byHand(), chanceLens(20)...) {
		m := newModel(l)
		for _, x := range tables(t, l) {
			for _, have := range haves {
				row := numeral(r.Uint64(), min(have, 64))
				want := m.says(row[:min(len(row), maxBits)])
				rest := 64 - len(row)
				for _, beyond := range []string{strings.Repeat("0", rest), strings.Repeat("1", rest), numeral(r.Uint64(), rest)} {
					looks(t, "bits beyond", x, number(row+beyond), have, want)
				}
			}
		}
	}
}

// TestLookAtCodes: each code whole, one bit short, and with further bits behind.
func TestLookAtCodes(t *testing.T) {
	for _, l := range append(byHand(), chanceLens(40)...) {
		m := newModel(l)
		for _, x := range tables(t, l) {
			for sym, code := range m.codes {
				n := len(code)
				if n == 0 {
					continue
				}
				whole := found{sym, n, api.OK}
				ones := strings.Repeat("1", 64-n)
				looks(t, "a code", x, number(code), n, whole)
				looks(t, "a code, 1s beyond", x, number(code+ones), n, whole)
				looks(t, "a code, a 0 behind", x, number(code), n+1, whole)
				looks(t, "a code, a 1 behind", x, number(code+"1"), n+1, whole)
				looks(t, "a code, 0s behind", x, number(code), 64, whole)
				looks(t, "a code, 1s behind", x, number(code+ones), 64, whole)
				looks(t, "one bit short", x, number(code[:n-1]), n-1, found{0, 0, api.ErrEnd})
				looks(t, "one bit short, beyond", x, number(code), n-1, found{0, 0, api.ErrEnd})
				looks(t, "no bits", x, number(code), 0, found{0, 0, api.ErrEnd})
			}
		}
	}
}

func TestNextByHand(t *testing.T) {
	for first := 1; first <= maxBits; first++ {
		x := table(t, []uint8{2, 1, 3, 3}, first)
		// Codes 110, 0, 10, 111, 0, 10, 111, and a bit 1.
		r := bitr.New(textOf("1100101110101111"))
		for _, want := range []struct{ sym, at int }{{2, 3}, {1, 4}, {0, 6}, {3, 9}, {1, 10}, {0, 12}, {3, 15}} {
			if sym, e := x.Next(r); sym != want.sym || e != api.OK || r.At() != want.at {
				t.Fatalf("Next: %d, %d, At %d, not %v", sym, e, r.At(), want)
			}
		}
		for range 2 {
			if sym, e := x.Next(r); sym != 0 || e != api.ErrEnd || r.At() != 15 || r.Left() != 1 {
				t.Fatalf("Next at the end: %d, %d, At %d", sym, e, r.At())
			}
		}
		if n, e := r.Bits(1); n != 1 || e != api.OK {
			t.Fatalf("the bit that is left: %d, %d", n, e)
		}
		for range 2 {
			if sym, e := x.Next(r); sym != 0 || e != api.ErrEnd || r.At() != 16 {
				t.Fatalf("Next behind all: %d, %d, At %d", sym, e, r.At())
			}
		}
	}
}

// TestNextOfOneAndNone: where no code begins so it is ErrForm, and the reader stays.
func TestNextOfOneAndNone(t *testing.T) {
	cases := []struct {
		lens []uint8
		bits string
		want []found
	}{
		{[]uint8{0, 1}, "", []found{{0, 0, api.ErrEnd}}},
		{[]uint8{0, 1}, "10000000", []found{{0, 0, api.ErrForm}, {0, 0, api.ErrForm}}},
		{[]uint8{0, 1}, "00100000", []found{{1, 1, api.OK}, {1, 1, api.OK}, {0, 0, api.ErrForm}, {0, 0, api.ErrForm}}},
		{[]uint8{1}, "00000000", append(slices.Repeat([]found{{0, 1, api.OK}}, 8), found{0, 0, api.ErrEnd})},
		{nil, "", []found{{0, 0, api.ErrForm}}},
		{[]uint8{0, 0}, "00000000", []found{{0, 0, api.ErrForm}, {0, 0, api.ErrForm}}},
		{[]uint8{0}, "1111111111111111", []found{{0, 0, api.ErrForm}}},
	}
	for _, c := range cases {
		for _, x := range tables(t, c.lens) {
			r, at := bitr.New(textOf(c.bits)), 0
			for _, want := range c.want {
				sym, e := x.Next(r)
				at += want.size
				if sym != want.sym || e != want.e || r.At() != at {
					t.Fatalf("Next of %d in %s: %d, %d, At %d, not %v", c.lens, c.bits, sym, e, r.At(), want)
				}
			}
		}
	}
}

// TestNextAtAllPlaces: at each bit of texts of some bytes, with more bits left than a code has, or just as many, or fewer.
func TestNextAtAllPlaces(t *testing.T) {
	r := chance()
	for _, l := range append(byHand(), chanceLens(30)...) {
		m := newModel(l)
		for first, x := range tables(t, l) {
			if first%4 != len(l)%4 {
				continue
			}
			for n := range 5 {
				text := make([]byte, n)
				for i := range text {
					text[i] = byte(r.Uint32()) | byte(-r.IntN(2))
				}
				bits := numeralText(string(text))
				for at := range len(bits) + 1 {
					reader := bitr.New(string(text))
					reader.Skip(at)
					next(t, x, m, reader, bits, at)
				}
			}
		}
	}
}

// TestNextAtTheEnd: the text ends with each code, and with each code one bit short, behind so many bits as bring that about.
func TestNextAtTheEnd(t *testing.T) {
	for _, l := range append(byHand(), chanceLens(30)...) {
		m := newModel(l)
		for first := 1; first <= maxBits; first += 3 {
			x := table(t, l, first)
			for sym, code := range m.codes {
				if code == "" || sym%7 != 0 && len(code) < maxBits {
					continue
				}
				for _, want := range []found{{sym, len(code), api.OK}, {0, 0, api.ErrEnd}} {
					end := code
					if want.e != api.OK {
						end = code[:len(code)-1]
					}
					at := (16 - len(end)) % 8
					bits := strings.Repeat("1", at) + end
					r := bitr.New(textOf(bits))
					r.Skip(at)
					if got := next(t, x, m, r, bits, at); got != want {
						t.Fatalf("the model: %v, not %v", got, want)
					}
				}
			}
		}
	}
}

// TestNextReadsOn: symbol by symbol through texts by chance, up to an error, which comes again and again.
func TestNextReadsOn(t *testing.T) {
	r := chance()
	for _, l := range held() {
		m := newModel(l)
		x := table(t, l, 1+r.IntN(maxBits))
		text := make([]byte, r.IntN(60))
		for i := range text {
			text[i] = byte(r.Uint32())
		}
		bits := numeralText(string(text))
		reader, at := bitr.New(string(text)), 0
		for {
			got := next(t, x, m, reader, bits, at)
			if got.e != api.OK {
				break
			}
			at += got.size
		}
		next(t, x, m, reader, bits, at)
	}
}

func TestNilTable(t *testing.T) {
	var none *huff.Table
	for _, x := range []*huff.Table{none, new(huff.Table), {}} {
		for _, have := range append(belowNought, haves...) {
			looks(t, "no table", x, 5, have, found{0, 0, api.ErrNil})
		}
		if got := x.Cells(); got != 0 {
			t.Errorf("Cells of no table: %d", got)
		}
		r := bitr.New("ab")
		r.Skip(3)
		for _, reader := range []*bitr.Reader{r, bitr.New(""), nil, new(bitr.Reader)} {
			if sym, e := x.Next(reader); sym != 0 || e != api.ErrNil {
				t.Errorf("Next of no table: %d, %d", sym, e)
			}
		}
		if r.At() != 3 || r.Left() != 13 {
			t.Errorf("behind Next of no table: At %d", r.At())
		}
	}
}

// TestNoReader: ErrNil ahead of what the table says of no bits.
func TestNoReader(t *testing.T) {
	for _, l := range byHand() {
		for _, x := range tables(t, l) {
			for _, r := range []*bitr.Reader{nil, new(bitr.Reader)} {
				if sym, e := x.Next(r); sym != 0 || e != api.ErrNil {
					t.Fatalf("Next of no reader, by %d: %d, %d", l, sym, e)
				}
			}
		}
	}
}

func TestWritesRefused(t *testing.T) {
	refused := 0
	for _, c := range lensCases() {
		want := map[uint8]api.Errno{api.LensBad: api.ErrArg, api.LensOver: api.ErrForm}[canon.Kind(c.lens)]
		codes, e := huff.Writes(c.lens)
		if e != want || e != api.OK && len(codes) > 0 || e == api.OK && len(codes) != len(c.lens) {
			t.Errorf("Writes of %s: %d codes, error %d, not %d", c.what, len(codes), e, want)
		}
		if e != api.OK {
			refused++
		}
	}
	if refused != 14 {
		t.Errorf("%d are refused", refused)
	}
}

func TestWritesByHand(t *testing.T) {
	cases := []struct {
		lens []uint8
		want []api.Code
	}{
		{nil, nil},
		{[]uint8{}, nil},
		{[]uint8{0}, []api.Code{{}}},
		{[]uint8{0, 0, 0}, []api.Code{{}, {}, {}}},
		{[]uint8{1}, []api.Code{{Bits: 0, Size: 1}}},
		{[]uint8{0, 1, 0}, []api.Code{{}, {Bits: 0, Size: 1}, {}}},
		{[]uint8{1, 1}, []api.Code{{Bits: 0, Size: 1}, {Bits: 1, Size: 1}}},
		{[]uint8{2, 2}, []api.Code{{Bits: 0, Size: 2}, {Bits: 2, Size: 2}}},
		{[]uint8{3, 3, 3}, []api.Code{{Bits: 0, Size: 3}, {Bits: 4, Size: 3}, {Bits: 2, Size: 3}}},
		{[]uint8{2, 1, 3, 3}, []api.Code{{Bits: 1, Size: 2}, {Bits: 0, Size: 1}, {Bits: 3, Size: 3}, {Bits: 7, Size: 3}}},
		{[]uint8{2, 0, 1, 0, 3, 0, 3}, []api.Code{{Bits: 1, Size: 2}, {}, {Bits: 0, Size: 1}, {}, {Bits: 3, Size: 3}, {}, {Bits: 7, Size: 3}}},
		{[]uint8{maxBits, 1}, []api.Code{{Bits: 1, Size: maxBits}, {Bits: 0, Size: 1}}},
		{[]uint8{maxBits}, []api.Code{{Bits: 0, Size: maxBits}}},
		{mixed(), []api.Code{
			{Bits: 0, Size: 2}, {Bits: 2, Size: 3}, {Bits: 6, Size: 3}, {Bits: 1, Size: 3}, {Bits: 3, Size: 4},
			{Bits: 11, Size: 4}, {Bits: 5, Size: 3}, {Bits: 7, Size: 4}, {Bits: 15, Size: 5}, {Bits: 31, Size: 5}}},
	}
	for _, c := range cases {
		if got, e := huff.Writes(c.lens); e != api.OK || !slices.Equal(got, c.want) {
			t.Errorf("Writes(%d): %v, %d, not %v", c.lens, got, e, c.want)
		}
	}
}

// writable are lists that Writes doesn't refuse: also such as lack codes.
func writable() [][]uint8 {
	lists := slices.Concat(byHand(), shortLens(), chanceLens(60))
	for i, l := range chanceLens(60) {
		l[i%len(l)] = 0
		lists = append(lists, l)
	}
	lists = append(lists, times(30, 5), times(maxSymbols, 15), stairs(), []uint8{0, 7, 0})
	return slices.DeleteFunc(lists, func(l []uint8) bool { return canon.Kind(l) == api.LensOver })
}

// TestWrites: each code has its first bit lowest, and no bit beyond; a symbol without one has a zero code.
func TestWrites(t *testing.T) {
	for _, l := range writable() {
		codes, e := huff.Writes(l)
		if e != api.OK || len(codes) != len(l) {
			t.Fatalf("Writes(%d): %d codes, %d", l, len(codes), e)
		}
		for sym, want := range spelt(l) {
			if got := codes[sym]; got != (api.Code{Bits: uint32(number(want)), Size: l[sym]}) {
				t.Fatalf("Writes(%d): symbol %d has %v, not %s", l, sym, got, want)
			}
		}
	}
}

// TestWritesAsLayer2: the writer's bits are the codes', one behind the other.
func TestWritesAsLayer2(t *testing.T) {
	for _, l := range writable() {
		codes, _ := huff.Writes(l)
		w := bitw.New(1000)
		for _, c := range codes {
			if e := w.Code(c); e != api.OK {
				t.Fatalf("Code(%v): %d", c, e)
			}
		}
		want := strings.Join(spelt(l), "")
		if got := numeralText(w.Text()); w.Len() != len(want) || got[:w.Len()] != want {
			t.Fatalf("lengths %d: %s, not %s", l, got, want)
		}
	}
}

// coded are the symbols that have codes.
func coded(lens []uint8) []int {
	var syms []int
	for sym, size := range lens {
		if size > 0 {
			syms = append(syms, sym)
		}
	}
	return syms
}

// message is symbols by chance, of those that have codes: each of them at least once.
func message(r *rand.Rand, lens []uint8) []int {
	syms := coded(lens)
	l := slices.Clone(syms)
	for range r.IntN(50) {
		if len(syms) > 0 {
			l = append(l, syms[r.IntN(len(syms))])
		}
	}
	r.Shuffle(len(l), func(i, j int) { l[i], l[j] = l[j], l[i] })
	return l
}

// TestWrittenIsRead: whatever first is, from whichever bit of a byte on, with other bits behind or with none.
func TestWrittenIsRead(t *testing.T) {
	r := chance()
	for i, l := range held() {
		codes, _ := huff.Writes(l)
		syms := message(r, l)
		w := bitw.New(2000)
		w.Bits(uint64(1)<<(i%9)-1, i%9)
		for _, sym := range syms {
			w.Code(codes[sym])
		}
		end := w.Len()
		text := w.Text()
		if i%2 > 0 {
			w.Bytes("\xFFab")
			text = w.Text()
		}
		for _, x := range tables(t, l) {
			reader := bitr.New(text)
			reader.Skip(i % 9)
			for _, want := range syms {
				if sym, e := x.Next(reader); sym != want || e != api.OK {
					t.Fatalf("lengths %d: %d, %d is read, not %d", l, sym, e, want)
				}
			}
			if reader.At() != end {
				t.Fatalf("lengths %d: read up to %d, not %d", l, reader.At(), end)
			}
		}
	}
}

// TestFirstsAreAlike: tables of the same lengths answer alike.
func TestFirstsAreAlike(t *testing.T) {
	r := chance()
	for _, l := range held() {
		all := tables(t, l)
		for range 60 {
			bits, have := r.Uint64()|-uint64(r.IntN(2)), r.IntN(70)
			if r.IntN(2) == 0 {
				have = r.IntN(maxBits + 2)
			}
			sym, size, e := all[0].Look(bits, have)
			for i, x := range all {
				looks(t, "first "+numeral(uint64(i+1), 4), x, bits, have, found{sym, size, e})
			}
		}
	}
}

// bitByBit reads with no table: a bit more, till these are a symbol's code of layer 5 (the highest bit first).
func bitByBit(codes []api.Code, r *bitr.Reader) (int, bool) {
	var c api.Code
	for range maxBits {
		n, e := r.Bits(1)
		if e != api.OK {
			return 0, false
		}
		c = api.Code{Bits: c.Bits*2 + uint32(n), Size: c.Size + 1}
		if sym := slices.Index(codes, c); sym >= 0 {
			return sym, true
		}
	}
	return 0, false
}

// TestAsCodesDo: a table reads what codes, bit by bit, do, of any bytes.
func TestAsCodesDo(t *testing.T) {
	r := chance()
	for _, l := range held() {
		codes, _ := canon.Codes(l)
		text := make([]byte, 30)
		for i := range text {
			text[i] = byte(r.Uint32())
		}
		for first := 1; first <= maxBits; first += 1 + r.IntN(5) {
			x := table(t, l, first)
			a, b := bitr.New(string(text)), bitr.New(string(text))
			for {
				want, is := bitByBit(codes, a)
				got, e := x.Next(b)
				if got != want || (e == api.OK) != is || is && a.At() != b.At() {
					t.Fatalf("lengths %d, first %d: %d, %d at %d, not %d", l, first, got, e, b.At(), want)
				}
				if !is {
					break
				}
			}
		}
	}
}

// TestAllLengthsAreMet: chance makes codes of each length, and lists of many symbols.
func TestAllLengthsAreMet(t *testing.T) {
	var met [maxBits + 1]int
	most := 0
	for _, l := range chanceLens(60) {
		for _, size := range l {
			met[size]++
		}
		most = max(most, len(l))
		if canon.Kind(l) != api.LensWhole {
			t.Fatalf("lengths %d: no whole ones", l)
		}
	}
	if slices.Min(met[:]) < 10 || most < 300 {
		t.Errorf("met: %d, %d symbols at most", met, most)
	}
}

// TestArgumentsStay: no call changes the lengths.
func TestArgumentsStay(t *testing.T) {
	for _, c := range lensCases() {
		lens := slices.Clone(c.lens)
		huff.New(lens, 4)
		huff.New(lens, 0)
		huff.Writes(lens)
		if !slices.Equal(lens, c.lens) {
			t.Errorf("%s: the lengths are other ones", c.what)
		}
	}
}

// TestTableKeepsNoLengths: they may be changed behind.
func TestTableKeepsNoLengths(t *testing.T) {
	for _, l := range byHand() {
		m := newModel(l)
		for first := 1; first <= maxBits; first++ {
			lens := slices.Clone(l)
			x := table(t, lens, first)
			for sym := range lens {
				lens[sym] = uint8(77 + sym)
			}
			for bits := range uint64(1) << 8 {
				looks(t, "changed lengths", x, bits*129, maxBits, m.says(numeral(bits*129, maxBits)))
			}
			if x.Cells() != m.cells(first) {
				t.Errorf("lengths %d: %d cells", l, x.Cells())
			}
		}
	}
}

// TestAnswersLieApart: the codes that are answered may be changed, and neither other ones nor tables are.
func TestAnswersLieApart(t *testing.T) {
	for _, l := range byHand() {
		m := newModel(l)
		x := table(t, l, 5)
		codes, _ := huff.Writes(l)
		again, _ := huff.Writes(l)
		kept := slices.Clone(again)
		y := table(t, l, 5)
		for sym := range codes {
			codes[sym] = api.Code{Bits: 77, Size: 77}
		}
		late, e := huff.Writes(l)
		if e != api.OK || !slices.Equal(again, kept) || !slices.Equal(late, kept) {
			t.Errorf("lengths %d: an answer is another one", l)
		}
		for bits := range uint64(1) << 8 {
			want := m.says(numeral(bits*129, maxBits))
			looks(t, "a table ahead", x, bits*129, maxBits, want)
			looks(t, "a table behind", y, bits*129, maxBits, want)
		}
	}
}

// TestTablesLieApart: a table that is made, or read by, leaves another one as it was; one table reads two texts in turns.
func TestTablesLieApart(t *testing.T) {
	a, b := table(t, []uint8{2, 1, 3, 3}, 2), table(t, []uint8{1, 2, 3, 3}, 2)
	// Of r codes 10, 110, 111 by a; of s codes 10, 111 by b, and behind each one 0, 10 by a.
	r, s := bitr.New(textOf("10110111")), bitr.New(textOf("10011110"))
	for _, want := range []struct{ x, y, z int }{{0, 1, 1}, {2, 3, 0}} {
		x, _ := a.Next(r)
		y, _ := b.Next(s)
		z, _ := a.Next(s)
		if x != want.x || y != want.y || z != want.z {
			t.Errorf("%d, %d, %d, not %v", x, y, z, want)
		}
	}
}

// TestAlikeAgain: an answer hangs on nothing but the arguments: neither on calls ahead, nor on room behind a list.
func TestAlikeAgain(t *testing.T) {
	for _, c := range lensCases() {
		roomy := append(make([]uint8, 0, len(c.lens)+50), c.lens...)
		for _, first := range []int{1, 7, maxBits} {
			x, e := huff.New(c.lens, first)
			y, e2 := huff.New(roomy, first)
			if e != e2 || x.Cells() != y.Cells() {
				t.Fatalf("%s: the same calls answer otherwise", c.what)
			}
			for bits := range uint64(300) {
				for range 2 {
					sym, size, e := x.Look(bits*109, maxBits)
					looks(t, c.what, y, bits*109, maxBits, found{sym, size, e})
				}
			}
		}
		first, e := huff.Writes(c.lens)
		again, e2 := huff.Writes(roomy)
		if e != e2 || !slices.Equal(first, again) {
			t.Fatalf("%s: the same codes are other ones", c.what)
		}
	}
}
