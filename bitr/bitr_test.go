package bitr_test

import (
	"math"
	"math/rand/v2"
	"strings"
	"testing"

	"platen/api"
	"platen/bitr"
	"platen/bitw"
)

// numeral has the bits of n below size, the lowest one first, as 0s and 1s.
func numeral(n uint64, size int) string {
	var b strings.Builder
	for range size {
		b.WriteByte('0' + byte(n%2))
		n /= 2
	}
	return b.String()
}

func numeralText(s string) string {
	var b strings.Builder
	for i := range len(s) {
		b.WriteString(numeral(uint64(s[i]), 8))
	}
	return b.String()
}

// number is the chapter's words in other arithmetic: the first bit counts 1, the next one 2, and so on.
func number(bits string) uint64 {
	sum, counts := uint64(0), uint64(1)
	for _, bit := range bits {
		if bit == '1' {
			sum += counts
		}
		counts *= 2
	}
	return sum
}

// wholeFrom is the place of the next whole byte's first bit.
func wholeFrom(at int) int {
	for at%8 != 0 {
		at++
	}
	return at
}

func stands(t *testing.T, what string, r *bitr.Reader, at, left int) {
	t.Helper()
	if r.At() != at || r.Left() != left {
		t.Fatalf("%s: At %d, Left %d, not %d, %d", what, r.At(), r.Left(), at, left)
	}
}

func bits(t *testing.T, r *bitr.Reader, size int, want uint64, e api.Errno) {
	t.Helper()
	if n, got := r.Bits(size); n != want || got != e {
		t.Fatalf("Bits(%d): %x, error %d, not %x, %d", size, n, got, want, e)
	}
}

func peek(t *testing.T, r *bitr.Reader, size int, want uint64, have int) {
	t.Helper()
	if n, got := r.Peek(size); n != want || got != have {
		t.Fatalf("Peek(%d): %x, %d, not %x, %d", size, n, got, want, have)
	}
}

func skip(t *testing.T, r *bitr.Reader, size int, e api.Errno) {
	t.Helper()
	if got := r.Skip(size); got != e {
		t.Fatalf("Skip(%d): error %d, not %d", size, got, e)
	}
}

func read(t *testing.T, r *bitr.Reader, n int, want string, e api.Errno) {
	t.Helper()
	if s, got := r.Bytes(n); s != want || got != e {
		t.Fatalf("Bytes(%d): %q, error %d, not %q, %d", n, s, got, want, e)
	}
}

// row is a reader beside all bits of its text, and where it should stand.
type row struct {
	r    *bitr.Reader
	text string
	all  string
	at   int
}

func newRow(s string) *row {
	return &row{r: bitr.New(s), text: s, all: numeralText(s)}
}

// rowAt came to the place bit by bit.
func rowAt(t *testing.T, s string, at int) *row {
	t.Helper()
	x := newRow(s)
	for range at {
		x.bits(t, 1)
	}
	return x
}

func (x *row) left() int {
	return len(x.all) - x.at
}

func (x *row) stands(t *testing.T, what string) {
	t.Helper()
	stands(t, what, x.r, x.at, x.left())
}

func (x *row) bits(t *testing.T, size int) {
	t.Helper()
	switch {
	case size < 0 || size > 56:
		bits(t, x.r, size, 0, api.ErrArg)
	case size > x.left():
		bits(t, x.r, size, 0, api.ErrEnd)
	default:
		bits(t, x.r, size, number(x.all[x.at:x.at+size]), api.OK)
		x.at += size
	}
	x.stands(t, "behind Bits")
}

func (x *row) peek(t *testing.T, size int) {
	t.Helper()
	if size < 0 || size > 56 {
		size = 0
	}
	have := min(size, x.left())
	peek(t, x.r, size, number(x.all[x.at:x.at+have]), have)
	x.stands(t, "behind Peek")
}

func (x *row) skip(t *testing.T, size int) {
	t.Helper()
	switch {
	case size < 0:
		skip(t, x.r, size, api.ErrArg)
	case size > x.left():
		skip(t, x.r, size, api.ErrEnd)
	default:
		skip(t, x.r, size, api.OK)
		x.at += size
	}
	x.stands(t, "behind Skip")
}

func (x *row) align(t *testing.T) {
	t.Helper()
	x.r.Align()
	x.at = wholeFrom(x.at)
	x.stands(t, "behind Align")
}

func (x *row) bytes(t *testing.T, n int) {
	t.Helper()
	from := wholeFrom(x.at) / 8
	switch {
	case n < 0:
		read(t, x.r, n, "", api.ErrArg)
	case n > len(x.text)-from:
		read(t, x.r, n, "", api.ErrEnd)
	default:
		read(t, x.r, n, x.text[from:from+n], api.OK)
		x.at = 8 * (from + n)
	}
	x.stands(t, "behind Bytes")
}

var texts = []string{
	"",
	"\x05",
	"\x00",
	"\xFF",
	"\x01\x80",
	"ab\xC3\xA4",
	"\x00\x00\x00\x00\x00\x00\x00\x00\x80",
	"\x01\xFF\x80\x7F\x03\xFE\x10\x99\xC4\x00\x55\xAA",
	strings.Repeat("\xFF", 17),
}

var badSizes = []int{math.MinInt, math.MinInt + 56, -64, -57, -8, -1, 57, 58, 63, 64, 65, 256, 1 << 32, math.MaxInt - 7, math.MaxInt}

var belowNought = []int{math.MinInt, math.MinInt + 1, -1 << 32, -57, -8, -1}

var farAbove = []int{1 << 31, 1 << 32, 1 << 60, 1<<60 + 1, 1 << 61, math.MaxInt/8 - 1, math.MaxInt / 8, math.MaxInt/8 + 1, math.MaxInt - 64, math.MaxInt - 1, math.MaxInt}

// places asks of each place of each text, with a reader that came there bit by bit, and one that skipped there.
func places(t *testing.T, ask func(x func() *row)) {
	t.Helper()
	for _, s := range texts {
		for at := 0; at <= 8*len(s); at++ {
			ask(func() *row { return rowAt(t, s, at) })
			ask(func() *row {
				x := newRow(s)
				x.skip(t, at)
				return x
			})
		}
	}
}

func TestExample(t *testing.T) {
	r := bitr.New("\x05")
	bits(t, r, 1, 1, api.OK)
	peek(t, r, 9, 2, 7)
	bits(t, r, 2, 2, api.OK)
	bits(t, r, 6, 0, api.ErrEnd)
	stands(t, "at last", r, 3, 5)
	bits(t, r, 5, 0, api.OK)
	stands(t, "at the end", r, 8, 0)
}

func TestNew(t *testing.T) {
	for _, s := range texts {
		stands(t, "a new one", bitr.New(s), 0, 8*len(s))
	}
}

func TestEmptyText(t *testing.T) {
	r := bitr.New("")
	for range 2 {
		bits(t, r, 0, 0, api.OK)
		bits(t, r, 1, 0, api.ErrEnd)
		bits(t, r, 56, 0, api.ErrEnd)
		bits(t, r, -1, 0, api.ErrArg)
		bits(t, r, 57, 0, api.ErrArg)
		for _, size := range []int{-1, 0, 1, 8, 56, 57} {
			peek(t, r, size, 0, 0)
		}
		skip(t, r, 0, api.OK)
		skip(t, r, 1, api.ErrEnd)
		skip(t, r, math.MaxInt, api.ErrEnd)
		skip(t, r, -1, api.ErrArg)
		r.Align()
		read(t, r, 0, "", api.OK)
		read(t, r, 1, "", api.ErrEnd)
		read(t, r, math.MaxInt, "", api.ErrEnd)
		read(t, r, -1, "", api.ErrArg)
		stands(t, "nothing", r, 0, 0)
	}
}

func TestBits(t *testing.T) {
	places(t, func(x func() *row) {
		for size := -1; size <= 58; size++ {
			one := x()
			one.bits(t, size)
			one.bits(t, 3)
		}
	})
}

func TestBitsByHand(t *testing.T) {
	cases := []struct {
		s     string
		ahead int
		size  int
		want  uint64
	}{
		{"\x02\x01", 0, 16, 258},
		{"\x02\x01", 1, 8, 129},
		{"\x06", 0, 3, 6},
		{"\x06", 2, 1, 1},
		{"\x80\x01", 7, 2, 3},
		{"\x07\x06\x05\x04\x03\x02\x01", 0, 56, 0x01020304050607},
		{"\x80\xFF\xFF\xFF\xFF\xFF\xFF\x7F", 7, 56, 1<<56 - 1},
		{"\x00\x00\x00\x00\x00\x00\x00\x40", 7, 56, 1 << 55},
		{"\xFF\xFF\xFF\xFF\xFF\xFF\xFF\x80", 7, 56, 1<<49 - 1},
		{"zzzzzzz\xF0\x0F", 60, 8, 0xFF},
	}
	for _, c := range cases {
		r := bitr.New(c.s)
		skip(t, r, c.ahead, api.OK)
		bits(t, r, c.size, c.want, api.OK)
		stands(t, "behind", r, c.ahead+c.size, 8*len(c.s)-c.ahead-c.size)
	}
}

func TestBitsBadSizes(t *testing.T) {
	places(t, func(x func() *row) {
		one := x()
		for _, size := range badSizes {
			bits(t, one.r, size, 0, api.ErrArg)
			one.stands(t, "behind a bad size")
		}
	})
}

func TestBitsToTheEnd(t *testing.T) {
	for _, s := range texts {
		for at := max(0, 8*len(s)-56); at <= 8*len(s); at++ {
			x := newRow(s)
			x.skip(t, at)
			left := x.left()
			for size := left + 1; size <= 56; size++ {
				bits(t, x.r, size, 0, api.ErrEnd)
				x.stands(t, "where some are wanting")
			}
			bits(t, x.r, left, number(x.all[at:]), api.OK)
			stands(t, "at the end", x.r, 8*len(s), 0)
			bits(t, x.r, 1, 0, api.ErrEnd)
			bits(t, x.r, 0, 0, api.OK)
			stands(t, "at the end", x.r, 8*len(s), 0)
		}
	}
}

func TestPeek(t *testing.T) {
	places(t, func(x func() *row) {
		one := x()
		for size := 0; size <= 56; size++ {
			one.peek(t, size)
		}
	})
}

func TestPeekBadSizes(t *testing.T) {
	places(t, func(x func() *row) {
		one := x()
		for _, size := range badSizes {
			peek(t, one.r, size, 0, 0)
			one.stands(t, "behind a bad size")
		}
	})
}

func TestPeekFewer(t *testing.T) {
	r := bitr.New("\xB5\xFF")
	skip(t, r, 12, api.OK)
	peek(t, r, 4, 15, 4)
	peek(t, r, 5, 15, 4)
	peek(t, r, 56, 15, 4)
	skip(t, r, 4, api.OK)
	for _, size := range []int{0, 1, 15, 56} {
		peek(t, r, size, 0, 0)
	}
	stands(t, "at the end", r, 16, 0)
}

func TestSkip(t *testing.T) {
	places(t, func(x func() *row) {
		left := x().left()
		for _, size := range []int{0, 1, 7, 8, 9, 55, 56, 57, 64, 65, left - 1, left, left + 1, left + 8} {
			one := x()
			one.skip(t, size)
			one.bits(t, 5)
		}
	})
}

func TestSkipRefused(t *testing.T) {
	places(t, func(x func() *row) {
		one := x()
		for _, size := range belowNought {
			skip(t, one.r, size, api.ErrArg)
			one.stands(t, "behind a size below 0")
		}
		for _, size := range farAbove {
			skip(t, one.r, size, api.ErrEnd)
			one.stands(t, "where some are wanting")
		}
		one.bits(t, min(one.left(), 9))
	})
}

func TestAlign(t *testing.T) {
	places(t, func(x func() *row) {
		one := x()
		one.align(t)
		one.align(t)
		one.bits(t, min(one.left(), 11))
	})
}

func TestAlignByHand(t *testing.T) {
	r := bitr.New("abc")
	for _, c := range [][2]int{{0, 0}, {1, 8}, {0, 8}, {7, 16}, {8, 24}, {0, 24}} {
		skip(t, r, c[0], api.OK)
		r.Align()
		stands(t, "behind Align", r, c[1], 24-c[1])
	}
}

func TestBytes(t *testing.T) {
	places(t, func(x func() *row) {
		// Behind Align there are at most so many.
		for n := -1; n <= x().left()/8+2; n++ {
			one := x()
			one.bytes(t, n)
			one.bits(t, 3)
		}
	})
}

func TestBytesByHand(t *testing.T) {
	r := bitr.New("abcdef")
	read(t, r, 0, "", api.OK)
	stands(t, "behind none", r, 0, 48)
	read(t, r, 2, "ab", api.OK)
	stands(t, "behind two", r, 16, 32)
	bits(t, r, 1, 1, api.OK)
	read(t, r, 4, "", api.ErrEnd)
	read(t, r, -1, "", api.ErrArg)
	stands(t, "behind what was refused", r, 17, 31)
	read(t, r, 2, "de", api.OK)
	bits(t, r, 3, 6, api.OK)
	read(t, r, 0, "", api.OK)
	stands(t, "at the end", r, 48, 0)
	read(t, r, 1, "", api.ErrEnd)
	read(t, r, 0, "", api.OK)
}

func TestBytesRefused(t *testing.T) {
	places(t, func(x func() *row) {
		one := x()
		for _, n := range belowNought {
			read(t, one.r, n, "", api.ErrArg)
			one.stands(t, "behind a number below 0")
		}
		just := (len(one.all) - wholeFrom(one.at)) / 8
		for _, n := range append([]int{just + 1, just + 2, just + 8}, farAbove...) {
			read(t, one.r, n, "", api.ErrEnd)
			one.stands(t, "where some are wanting")
		}
		one.bytes(t, just)
		stands(t, "at the end", one.r, len(one.all), 0)
	})
}

// refuse asks for every call of a reader that is none.
func refuse(t *testing.T, what string, r *bitr.Reader) {
	t.Helper()
	for _, size := range append([]int{0, 1, 8, 56}, badSizes...) {
		bits(t, r, size, 0, api.ErrNil)
		peek(t, r, size, 0, 0)
		skip(t, r, size, api.ErrNil)
		read(t, r, size, "", api.ErrNil)
	}
	r.Align()
	stands(t, what, r, 0, 0)
}

func TestNoReader(t *testing.T) {
	var value bitr.Reader
	for range 2 {
		refuse(t, "nil", nil)
		refuse(t, "new", new(bitr.Reader))
		refuse(t, "a literal", &bitr.Reader{})
		refuse(t, "a value", &value)
	}
}

func TestReadersLieApart(t *testing.T) {
	a, b := bitr.New("\x05\xFF"), bitr.New("\x05\xFF")
	bits(t, a, 3, 5, api.OK)
	stands(t, "the other one", b, 0, 16)
	read(t, b, 2, "\x05\xFF", api.OK)
	stands(t, "the one", a, 3, 13)
	bits(t, a, 13, 0xFF<<5, api.OK)
}

// TestPeekedIsReadNext: by whatever call, and where there are fewer than were asked for, those that there are.
func TestPeekedIsReadNext(t *testing.T) {
	places(t, func(x func() *row) {
		for size := 0; size <= 56; size += 3 {
			one := x()
			n, have := one.r.Peek(size)
			again, too := one.r.Peek(size)
			if n != again || have != too {
				t.Fatalf("Peek(%d) twice: %x, %d, then %x, %d", size, n, have, again, too)
			}
			bits(t, one.r, have, n, api.OK)
			stands(t, "behind what was peeked", one.r, one.at+have, one.left()-have)
		}
	})
}

// piece is what was written at once: bits, or, of size -1, bytes from a whole byte on.
type piece struct {
	n    uint64
	size int
	s    string
}

func pieces(chance *rand.Rand) []piece {
	var l []piece
	for range chance.IntN(40) {
		if chance.IntN(4) == 0 {
			s := make([]byte, chance.IntN(20))
			for i := range s {
				s[i] = byte(chance.Uint32())
			}
			l = append(l, piece{size: -1, s: string(s)})
			continue
		}
		size := chance.IntN(57)
		l = append(l, piece{n: chance.Uint64() & (1<<size - 1), size: size})
	}
	return l
}

func written(t *testing.T, l []piece) string {
	t.Helper()
	w := bitw.New(1 << 12)
	for _, p := range l {
		e := api.OK
		if p.size < 0 {
			e = w.Bytes(p.s)
		} else {
			e = w.Bits(p.n, p.size)
		}
		if e != api.OK {
			t.Fatalf("a piece is not written: %d", e)
		}
	}
	return w.Text()
}

func TestWrittenIsRead(t *testing.T) {
	chance := rand.New(rand.NewPCG(3, 11))
	for range 400 {
		l := pieces(chance)
		r := bitr.New(written(t, l))
		for _, p := range l {
			if p.size < 0 {
				read(t, r, len(p.s), p.s, api.OK)
				continue
			}
			peek(t, r, p.size, p.n, p.size)
			bits(t, r, p.size, p.n, api.OK)
		}
		r.Align()
		if r.Left() != 0 {
			t.Fatalf("%d bits are left", r.Left())
		}
	}
}

// TestWrittenIsReadInPieces: those that are read need not be those that were written.
func TestWrittenIsReadInPieces(t *testing.T) {
	chance := rand.New(rand.NewPCG(13, 17))
	for range 400 {
		s := written(t, pieces(chance))
		var got strings.Builder
		r := bitr.New(s)
		for r.Left() > 0 {
			size := min(chance.IntN(57), r.Left())
			n, e := r.Bits(size)
			if e != api.OK {
				t.Fatalf("Bits(%d): error %d", size, e)
			}
			got.WriteString(numeral(n, size))
		}
		if got.String() != numeralText(s) {
			t.Fatal("other bits are read than were written")
		}
	}
}

func (x *row) step(t *testing.T, chance *rand.Rand) {
	t.Helper()
	size := chance.IntN(60) - 1
	switch chance.IntN(5) {
	case 0:
		x.bits(t, size)
	case 1:
		x.peek(t, size)
	case 2:
		x.skip(t, size*chance.IntN(3))
	case 3:
		x.align(t)
	case 4:
		x.bytes(t, size/8)
	}
}

// TestRows: whatever calls come behind each other, each answers what stands where the ones ahead left the reader.
func TestRows(t *testing.T) {
	chance := rand.New(rand.NewPCG(19, 23))
	for range 400 {
		s := make([]byte, chance.IntN(120))
		for i := range s {
			s[i] = byte(chance.Uint32())
		}
		x := newRow(string(s))
		for range 60 {
			x.step(t, chance)
		}
	}
}

// TestMany: a long text is read to its end, and not beyond.
func TestMany(t *testing.T) {
	const numbers = 1 << 17
	w := bitw.New(7 * numbers)
	for i := range numbers {
		if e := w.Bits(uint64(i)*0x9E3779B97F4A7C15>>8, 56); e != api.OK {
			t.Fatalf("number %d is not written: %d", i, e)
		}
	}
	r := bitr.New(w.Text())
	for i := range numbers {
		bits(t, r, 56, uint64(i)*0x9E3779B97F4A7C15>>8, api.OK)
	}
	stands(t, "at the end", r, 56*numbers, 0)
	bits(t, r, 1, 0, api.ErrEnd)
	read(t, r, 1, "", api.ErrEnd)
}
