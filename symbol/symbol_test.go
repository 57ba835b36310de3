package symbol_test

import (
	"math"
	"testing"

	"platen/symbol"
)

// entry is a symbol, by how many bits it is told more, and its least and greatest number.
type entry struct {
	sym, bits, least, most int
}

// side is lengths, or distances: the calls, and RFC 1951's table of them.
type side struct {
	what     string
	symbolOf func(n int) (sym int, extra uint32, bits int, is bool)
	numberOf func(sym int, extra uint32) (int, bool)
	bitsOf   func(sym int) (int, bool)
	table    []entry
}

func lengths() side {
	return side{"lengths", symbol.Length, symbol.LengthOf, symbol.LengthBits, []entry{
		{257, 0, 3, 3}, {258, 0, 4, 4}, {259, 0, 5, 5}, {260, 0, 6, 6},
		{261, 0, 7, 7}, {262, 0, 8, 8}, {263, 0, 9, 9}, {264, 0, 10, 10},
		{265, 1, 11, 12}, {266, 1, 13, 14}, {267, 1, 15, 16}, {268, 1, 17, 18},
		{269, 2, 19, 22}, {270, 2, 23, 26}, {271, 2, 27, 30}, {272, 2, 31, 34},
		{273, 3, 35, 42}, {274, 3, 43, 50}, {275, 3, 51, 58}, {276, 3, 59, 66},
		{277, 4, 67, 82}, {278, 4, 83, 98}, {279, 4, 99, 114}, {280, 4, 115, 130},
		{281, 5, 131, 162}, {282, 5, 163, 194}, {283, 5, 195, 226}, {284, 5, 227, 257},
		{285, 0, 258, 258},
	}}
}

func distances() side {
	return side{"distances", symbol.Dist, symbol.DistOf, symbol.DistBits, []entry{
		{0, 0, 1, 1}, {1, 0, 2, 2}, {2, 0, 3, 3}, {3, 0, 4, 4},
		{4, 1, 5, 6}, {5, 1, 7, 8},
		{6, 2, 9, 12}, {7, 2, 13, 16},
		{8, 3, 17, 24}, {9, 3, 25, 32},
		{10, 4, 33, 48}, {11, 4, 49, 64},
		{12, 5, 65, 96}, {13, 5, 97, 128},
		{14, 6, 129, 192}, {15, 6, 193, 256},
		{16, 7, 257, 384}, {17, 7, 385, 512},
		{18, 8, 513, 768}, {19, 8, 769, 1024},
		{20, 9, 1025, 1536}, {21, 9, 1537, 2048},
		{22, 10, 2049, 3072}, {23, 10, 3073, 4096},
		{24, 11, 4097, 6144}, {25, 11, 6145, 8192},
		{26, 12, 8193, 12288}, {27, 12, 12289, 16384},
		{28, 13, 16385, 24576}, {29, 13, 24577, 32768},
	}}
}

func sides() []side {
	return []side{lengths(), distances()}
}

func (s side) first() int { return s.table[0].sym }
func (s side) last() int  { return s.table[len(s.table)-1].sym }
func (s side) least() int { return s.table[0].least }
func (s side) most() int  { return s.table[len(s.table)-1].most }

// isSymbol holds n against each number: the zeros too, where it is none.
func (s side) isSymbol(t *testing.T, n, wantSym int, wantExtra uint32, wantBits int, want bool) {
	t.Helper()
	sym, extra, bits, is := s.symbolOf(n)
	if sym != wantSym || extra != wantExtra || bits != wantBits || is != want {
		t.Errorf("%s: of %d: %d, %d, %d, %v, not %d, %d, %d, %v", s.what, n, sym, extra, bits, is, wantSym, wantExtra, wantBits, want)
	}
}

func (s side) isNumber(t *testing.T, sym int, extra uint32, want int, wantIs bool) {
	t.Helper()
	if n, is := s.numberOf(sym, extra); n != want || is != wantIs {
		t.Errorf("%s: symbol %d, %d besides: %d, %v, not %d, %v", s.what, sym, extra, n, is, want, wantIs)
	}
}

func (s side) isBits(t *testing.T, sym, want int, wantIs bool) {
	t.Helper()
	if bits, is := s.bitsOf(sym); bits != want || is != wantIs {
		t.Errorf("%s: bits of symbol %d: %d, %v, not %d, %v", s.what, sym, bits, is, want, wantIs)
	}
}

// walk is the chapter's words: one symbol behind the other, of which so many have no bit, then so many each one more.
func walk(first, last, plain, group, least int) []entry {
	var l []entry
	bits := 0
	for sym := first; sym <= last; sym++ {
		if behind := sym - first - plain; behind >= 0 && behind%group == 0 {
			bits++
		}
		size := 1
		for range bits {
			size *= 2
		}
		l = append(l, entry{sym, bits, least, least + size - 1})
		least += size
	}
	return l
}

// The table is RFC 1951's: this holds it against the chapter's words.
func TestTablesAreAsTheWordsSay(t *testing.T) {
	l := walk(257, 284, 8, 4, 3)
	l[len(l)-1].most = 257
	l = append(l, entry{285, 0, 258, 258})
	for i, want := range l {
		if got := lengths().table[i]; got != want {
			t.Errorf("lengths: %v, not %v", got, want)
		}
	}
	d := walk(0, 29, 4, 2, 1)
	for i, want := range d {
		if got := distances().table[i]; got != want {
			t.Errorf("distances: %v, not %v", got, want)
		}
	}
	if len(l) != len(lengths().table) || len(d) != len(distances().table) {
		t.Errorf("%d symbols of lengths, %d of distances, not %d, %d", len(lengths().table), len(distances().table), len(l), len(d))
	}
}

func TestExamples(t *testing.T) {
	lengths().isSymbol(t, 13, 266, 0, 1, true)
	distances().isSymbol(t, 6, 4, 1, 1, true)
	lengths().isNumber(t, 284, 31, 0, false)
}

func TestLengthByHand(t *testing.T) {
	s := lengths()
	s.isSymbol(t, 3, 257, 0, 0, true)
	s.isSymbol(t, 10, 264, 0, 0, true)
	s.isSymbol(t, 11, 265, 0, 1, true)
	s.isSymbol(t, 12, 265, 1, 1, true)
	s.isSymbol(t, 14, 266, 1, 1, true)
	s.isSymbol(t, 100, 279, 1, 4, true)
	s.isSymbol(t, 227, 284, 0, 5, true)
	s.isSymbol(t, 256, 284, 29, 5, true)
	s.isSymbol(t, 257, 284, 30, 5, true)
	s.isSymbol(t, 258, 285, 0, 0, true)
	s.isSymbol(t, 2, 0, 0, 0, false)
	s.isSymbol(t, 259, 0, 0, 0, false)
}

func TestDistByHand(t *testing.T) {
	s := distances()
	s.isSymbol(t, 1, 0, 0, 0, true)
	s.isSymbol(t, 4, 3, 0, 0, true)
	s.isSymbol(t, 5, 4, 0, 1, true)
	s.isSymbol(t, 7, 5, 0, 1, true)
	s.isSymbol(t, 1000, 19, 231, 8, true)
	s.isSymbol(t, 32768, 29, 8191, 13, true)
	s.isSymbol(t, 0, 0, 0, 0, false)
	s.isSymbol(t, 32769, 0, 0, 0, false)
}

func TestEachNumber(t *testing.T) {
	for _, s := range sides() {
		for _, e := range s.table {
			for n := e.least; n <= e.most; n++ {
				s.isSymbol(t, n, e.sym, uint32(n-e.least), e.bits, true)
			}
		}
	}
}

func TestWhatIsNoNumber(t *testing.T) {
	for _, s := range sides() {
		for n := -40000; n < s.least(); n++ {
			s.isSymbol(t, n, 0, 0, 0, false)
		}
		for n := s.most() + 1; n <= 140000; n++ {
			s.isSymbol(t, n, 0, 0, 0, false)
		}
		for _, n := range far() {
			s.isSymbol(t, n, 0, 0, 0, false)
			s.isSymbol(t, n+s.least(), 0, 0, 0, false)
		}
	}
}

// far are numbers that would be others if they were cut to fewer bits, and the ends of what an int holds.
func far() []int {
	l := []int{math.MinInt, math.MinInt + 1, math.MinInt + 257, math.MaxInt - 300, math.MaxInt - 258, math.MaxInt - 3}
	for bit := 18; bit < 63; bit++ {
		l = append(l, 1<<bit, 1<<bit+13, 1<<bit+265, -1<<bit, -1<<bit+13, -1<<bit+265)
	}
	return l
}

func TestTheGreatestInt(t *testing.T) {
	for _, s := range sides() {
		s.isSymbol(t, math.MaxInt, 0, 0, 0, false)
		s.isBits(t, math.MaxInt, 0, false)
		s.isNumber(t, math.MaxInt, 0, 0, false)
		s.isNumber(t, math.MaxInt, 1, 0, false)
		s.isNumber(t, math.MaxInt, math.MaxUint32, 0, false)
	}
}

func TestBitsOfEachSymbol(t *testing.T) {
	for _, s := range sides() {
		for _, e := range s.table {
			s.isBits(t, e.sym, e.bits, true)
		}
	}
}

func TestBitsByHand(t *testing.T) {
	s := lengths()
	s.isBits(t, 256, 0, false)
	s.isBits(t, 257, 0, true)
	s.isBits(t, 264, 0, true)
	s.isBits(t, 265, 1, true)
	s.isBits(t, 284, 5, true)
	s.isBits(t, 285, 0, true)
	s.isBits(t, 286, 0, false)
	s.isBits(t, 0, 0, false)
	s = distances()
	s.isBits(t, -1, 0, false)
	s.isBits(t, 0, 0, true)
	s.isBits(t, 3, 0, true)
	s.isBits(t, 4, 1, true)
	s.isBits(t, 29, 13, true)
	s.isBits(t, 30, 0, false)
	s.isBits(t, 257, 0, false)
}

func TestWhatIsNoSymbol(t *testing.T) {
	for _, s := range sides() {
		for sym := -1000; sym <= 1000; sym++ {
			if sym < s.first() || sym > s.last() {
				s.isNoSymbol(t, sym)
			}
		}
		for _, sym := range far() {
			s.isNoSymbol(t, sym)
			s.isNoSymbol(t, sym+s.first())
		}
	}
}

func (s side) isNoSymbol(t *testing.T, sym int) {
	t.Helper()
	s.isBits(t, sym, 0, false)
	for _, extra := range []uint32{0, 1, 2, 30, 31, 32, 8191, 8192, 1 << 31, math.MaxUint32} {
		s.isNumber(t, sym, extra, 0, false)
	}
}

func TestNumbersOfEachSymbol(t *testing.T) {
	for _, s := range sides() {
		for _, e := range s.table {
			held := uint32(1) << e.bits
			for extra := range held {
				n := e.least + int(extra)
				if n > e.most {
					s.isNumber(t, e.sym, extra, 0, false)
					continue
				}
				s.isNumber(t, e.sym, extra, n, true)
			}
			s.isNumber(t, e.sym, held, 0, false)
			s.isNumber(t, e.sym, held+1, 0, false)
			for bit := e.bits; bit < 32; bit++ {
				high := uint32(1) << bit
				s.isNumber(t, e.sym, high, 0, false)
				s.isNumber(t, e.sym, high|(held-1), 0, false)
			}
			s.isNumber(t, e.sym, math.MaxUint32, 0, false)
		}
	}
}

func TestNumbersByHand(t *testing.T) {
	s := lengths()
	s.isNumber(t, 257, 0, 3, true)
	s.isNumber(t, 257, 1, 0, false)
	s.isNumber(t, 265, 0, 11, true)
	s.isNumber(t, 265, 1, 12, true)
	s.isNumber(t, 265, 2, 0, false)
	s.isNumber(t, 283, 31, 226, true)
	s.isNumber(t, 283, 32, 0, false)
	s.isNumber(t, 284, 29, 256, true)
	s.isNumber(t, 284, 30, 257, true)
	s.isNumber(t, 284, 31, 0, false)
	s.isNumber(t, 284, 32, 0, false)
	s.isNumber(t, 285, 0, 258, true)
	s.isNumber(t, 285, 1, 0, false)
	s.isNumber(t, 285, math.MaxUint32, 0, false)
	s.isNumber(t, 256, 0, 0, false)
	s.isNumber(t, 286, 0, 0, false)
	s = distances()
	s.isNumber(t, 0, 0, 1, true)
	s.isNumber(t, 0, 1, 0, false)
	s.isNumber(t, 3, 0, 4, true)
	s.isNumber(t, 4, 0, 5, true)
	s.isNumber(t, 4, 1, 6, true)
	s.isNumber(t, 4, 2, 0, false)
	s.isNumber(t, 29, 0, 24577, true)
	s.isNumber(t, 29, 8191, 32768, true)
	s.isNumber(t, 29, 8192, 0, false)
	s.isNumber(t, -1, 0, 0, false)
	s.isNumber(t, 30, 0, 0, false)
}

// P11.2, to: what a number becomes is that number, and of its own symbol's bits.
func TestThereAndBack(t *testing.T) {
	for _, s := range sides() {
		for n := s.least(); n <= s.most(); n++ {
			sym, extra, bits, is := s.symbolOf(n)
			if back, isBack := s.numberOf(sym, extra); !is || !isBack || back != n {
				t.Errorf("%s: %d is %d, %d, which is %d", s.what, n, sym, extra, back)
			}
			if has, isSym := s.bitsOf(sym); !isSym || has != bits {
				t.Errorf("%s: %d is symbol %d by %d bits, which has %d", s.what, n, sym, bits, has)
			}
		}
	}
}

// P11.2, fro: of all symbols and numbers besides just one is a number, and that is what it becomes.
func TestEachNumberIsOneSymbol(t *testing.T) {
	for _, s := range sides() {
		times := map[int]int{}
		for sym := s.first() - 5; sym <= s.last()+5; sym++ {
			for extra := range uint32(1 << 15) {
				n, is := s.numberOf(sym, extra)
				if !is {
					continue
				}
				times[n]++
				if has, e, _, _ := s.symbolOf(n); has != sym || e != extra {
					t.Errorf("%s: %d, %d is %d, which is %d, %d", s.what, sym, extra, n, has, e)
				}
			}
		}
		for n := s.least(); n <= s.most(); n++ {
			if times[n] != 1 {
				t.Errorf("%s: %d is %d symbols", s.what, n, times[n])
			}
		}
		if len(times) != s.most()-s.least()+1 {
			t.Errorf("%s: there are %d, not %d", s.what, len(times), s.most()-s.least()+1)
		}
	}
}

// P11.2: a greater number has no lower symbol, and of one symbol a greater number besides.
func TestSymbolsRise(t *testing.T) {
	for _, s := range sides() {
		seen := map[int]bool{}
		last, lastExtra := s.first(), -1
		for n := s.least(); n <= s.most(); n++ {
			sym, extra, _, _ := s.symbolOf(n)
			if sym < last || sym == last && int(extra) != lastExtra+1 || sym > last && extra != 0 {
				t.Errorf("%s: %d is %d, %d, behind %d, %d", s.what, n, sym, extra, last, lastExtra)
			}
			last, lastExtra = sym, int(extra)
			seen[sym] = true
		}
		if len(seen) != len(s.table) {
			t.Errorf("%s: %d symbols are there, not %d", s.what, len(seen), len(s.table))
		}
	}
}
