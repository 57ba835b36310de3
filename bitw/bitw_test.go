package bitw_test

import (
	"math"
	"math/rand/v2"
	"strings"
	"testing"

	"platen/api"
	"platen/bitw"
)

// far is room that no test here comes to the end of.
const far = 1 << 20

// numeral has the bits of n below size, the lowest one first, as 0s and 1s.
func numeral(n uint64, size int) string {
	var b strings.Builder
	for range size {
		b.WriteByte('0' + byte(n%2))
		n /= 2
	}
	return b.String()
}

func numeralText(s string) string {
	var b strings.Builder
	for i := range len(s) {
		b.WriteString(numeral(uint64(s[i]), 8))
	}
	return b.String()
}

// filled has 0s behind, till there are whole bytes.
func filled(bits string) string {
	for len(bits)%8 != 0 {
		bits += "0"
	}
	return bits
}

// packed is the chapter's words in other arithmetic: the first bit counts 1, the next one 2, and so on.
func packed(bits string) string {
	bits = filled(bits)
	var b []byte
	for ; bits != ""; bits = bits[8:] {
		sum, counts := 0, 1
		for _, bit := range bits[:8] {
			if bit == '1' {
				sum += counts
			}
			counts *= 2
		}
		b = append(b, byte(sum))
	}
	return string(b)
}

func hold(t *testing.T, what string, w *bitw.Writer, bits string) {
	t.Helper()
	if got := w.Len(); got != len(bits) {
		t.Fatalf("%s: Len %d, not %d", what, got, len(bits))
	}
	if got, want := w.Text(), packed(bits); got != want {
		t.Fatalf("%s: Text %q, not %q", what, got, want)
	}
}

func answer(t *testing.T, what string, got, want api.Errno) {
	t.Helper()
	if got != want {
		t.Fatalf("%s: error %d, not %d", what, got, want)
	}
}

// begun is a writer with so many bits, one by one, and these bits.
func begun(t *testing.T, most, bits int) (*bitw.Writer, string) {
	t.Helper()
	w, have := bitw.New(most), ""
	for i := range bits {
		n := uint64(i*i/3) % 2
		answer(t, "a bit ahead", w.Bits(n, 1), api.OK)
		have += numeral(n, 1)
	}
	return w, have
}

// numbers have no bit from size on; one of them has the highest that may be.
func numbers(size int) []uint64 {
	top := uint64(1)<<size - 1
	return []uint64{0, top, top / 2, top / 3, top - top/3, 0xF1E2D3C4B5A69788 & top}
}

func TestExample(t *testing.T) {
	w := bitw.New(2)
	answer(t, "Bits(1, 1)", w.Bits(1, 1), api.OK)
	answer(t, "Bits(2, 2)", w.Bits(2, 2), api.OK)
	if got := w.Text(); got != "\x05" {
		t.Errorf("Text: %q", got)
	}
	answer(t, "Bytes(a)", w.Bytes("a"), api.OK)
	if got := w.Text(); got != "\x05a" {
		t.Errorf("Text: %q", got)
	}
	answer(t, "Bits(1, 1)", w.Bits(1, 1), api.ErrFull)
	hold(t, "at last", w, "1010000010000110")
}

func TestNewIsEmpty(t *testing.T) {
	for _, most := range []int{math.MinInt, -9, -1, 0, 1, 7, far, math.MaxInt/8 - 1, math.MaxInt/8 + 1, math.MaxInt} {
		hold(t, "a new one", bitw.New(most), "")
	}
}

func TestNewWithoutRoom(t *testing.T) {
	for _, most := range []int{math.MinInt, math.MinInt + 1, -8, -1, 0} {
		w := bitw.New(most)
		answer(t, "no bits", w.Bits(0, 0), api.OK)
		answer(t, "no code", w.Code(api.Code{}), api.OK)
		answer(t, "Align", w.Align(), api.OK)
		answer(t, "no bytes", w.Bytes(""), api.OK)
		for size := 1; size <= 56; size++ {
			answer(t, "bits", w.Bits(1, size), api.ErrFull)
		}
		answer(t, "a code", w.Code(api.Code{Bits: 1, Size: 1}), api.ErrFull)
		answer(t, "a byte", w.Bytes("a"), api.ErrFull)
		hold(t, "without room", w, "")
	}
}

func TestNewWithFarRoom(t *testing.T) {
	for _, most := range []int{far, 1 << 31, 1 << 61, math.MaxInt/8 - 1, math.MaxInt / 8, math.MaxInt/8 + 1, math.MaxInt - 1, math.MaxInt} {
		w := bitw.New(most)
		answer(t, "bits", w.Bits(5, 3), api.OK)
		answer(t, "bytes", w.Bytes("ab"), api.OK)
		answer(t, "bits", w.Bits(1<<55, 56), api.OK)
		hold(t, "far room", w, "10100000"+numeralText("ab")+numeral(1<<55, 56))
	}
}

func TestBits(t *testing.T) {
	for ahead := range 17 {
		for size := 0; size <= 56; size++ {
			for _, n := range numbers(size) {
				w, have := begun(t, far, ahead)
				answer(t, "Bits", w.Bits(n, size), api.OK)
				have += numeral(n, size)
				hold(t, "behind Bits", w, have)
				answer(t, "Bits", w.Bits(1, 1), api.OK)
				hold(t, "behind one more", w, have+"1")
			}
		}
	}
}

func TestBitsByHand(t *testing.T) {
	cases := []struct {
		n    uint64
		size int
		want string
	}{
		{0, 0, ""},
		{0, 1, "\x00"},
		{1, 1, "\x01"},
		{6, 3, "\x06"},
		{6, 8, "\x06"},
		{0x1FF, 9, "\xFF\x01"},
		{258, 16, "\x02\x01"},
		{0x0102030405060708 >> 8, 56, "\x07\x06\x05\x04\x03\x02\x01"},
		{1<<56 - 1, 56, "\xFF\xFF\xFF\xFF\xFF\xFF\xFF"},
	}
	for _, c := range cases {
		w := bitw.New(7)
		answer(t, "Bits", w.Bits(c.n, c.size), api.OK)
		if got := w.Text(); got != c.want || w.Len() != c.size {
			t.Errorf("Bits(%x, %d): %q of %d bits, not %q", c.n, c.size, got, w.Len(), c.want)
		}
	}
}

var badSizes = []int{math.MinInt, math.MinInt + 56, -64, -8, -1, 57, 58, 63, 64, 65, 256, 1 << 32, math.MaxInt - 7, math.MaxInt}

func TestBitsBadSizes(t *testing.T) {
	for _, most := range []int{-1, 0, 2, far} {
		for ahead := range 8 * min(max(most, 0), 2) {
			w, have := begun(t, most, ahead)
			for _, size := range badSizes {
				for _, n := range []uint64{0, 1, 1 << 56, math.MaxUint64} {
					answer(t, "a bad size", w.Bits(n, size), api.ErrArg)
				}
			}
			hold(t, "behind bad sizes", w, have)
		}
	}
}

func TestBitsBadNumbers(t *testing.T) {
	for _, most := range []int{0, 1, far} {
		w, have := begun(t, most, min(most, 1)*5)
		for size := 0; size <= 56; size++ {
			for bit := size; bit < 64; bit++ {
				answer(t, "a bit at size or above", w.Bits(1<<bit, size), api.ErrArg)
				answer(t, "and all below", w.Bits(1<<bit|(1<<bit-1), size), api.ErrArg)
			}
			answer(t, "all bits", w.Bits(math.MaxUint64, size), api.ErrArg)
		}
		hold(t, "behind bad numbers", w, have)
	}
}

func TestBitsRoom(t *testing.T) {
	for most := 0; most <= 9; most++ {
		for ahead := 0; ahead <= 8*most; ahead++ {
			w, have := begun(t, most, ahead)
			left := 8*most - ahead
			for size := left + 1; size <= 56; size++ {
				answer(t, "more than there is room for", w.Bits(0, size), api.ErrFull)
				answer(t, "more than there is room for", w.Bits(uint64(1)<<(size-1), size), api.ErrFull)
			}
			hold(t, "behind what was refused", w, have)
			for left > 0 {
				size := min(left, 56)
				answer(t, "just so many", w.Bits(uint64(1)<<size-1, size), api.OK)
				have += strings.Repeat("1", size)
				left -= size
			}
			answer(t, "one more", w.Bits(0, 1), api.ErrFull)
			answer(t, "none more", w.Bits(0, 0), api.OK)
			hold(t, "full", w, have)
		}
	}
}

// TestBitsBehindRefused: what had no room leaves what is less its room.
func TestBitsBehindRefused(t *testing.T) {
	w := bitw.New(1)
	answer(t, "five", w.Bits(21, 5), api.OK)
	answer(t, "four more", w.Bits(15, 4), api.ErrFull)
	answer(t, "a byte", w.Bytes("a"), api.ErrFull)
	answer(t, "three more", w.Bits(6, 3), api.OK)
	hold(t, "full", w, "10101011")
}

func TestCode(t *testing.T) {
	for ahead := range 9 {
		for size := 0; size <= 32; size++ {
			for _, n := range numbers(size) {
				w, have := begun(t, far, ahead)
				answer(t, "Code", w.Code(api.Code{Bits: uint32(n), Size: uint8(size)}), api.OK)
				hold(t, "behind Code", w, have+numeral(n, size))
			}
		}
	}
	w := bitw.New(7)
	answer(t, "a long code", w.Code(api.Code{Bits: math.MaxUint32, Size: 56}), api.OK)
	hold(t, "behind a long code", w, strings.Repeat("1", 32)+strings.Repeat("0", 24))
}

func TestCodeRefused(t *testing.T) {
	w, have := begun(t, 2, 9)
	for size := 57; size <= 255; size++ {
		answer(t, "a bad size", w.Code(api.Code{Size: uint8(size)}), api.ErrArg)
	}
	for size := range 32 {
		answer(t, "a bit at size", w.Code(api.Code{Bits: 1 << size, Size: uint8(size)}), api.ErrArg)
		answer(t, "all bits", w.Code(api.Code{Bits: math.MaxUint32, Size: uint8(size)}), api.ErrArg)
	}
	for size := 8; size <= 56; size++ {
		answer(t, "no room", w.Code(api.Code{Bits: 1, Size: uint8(size)}), api.ErrFull)
	}
	hold(t, "behind what was refused", w, have)
	answer(t, "just room", w.Code(api.Code{Bits: 127, Size: 7}), api.OK)
	hold(t, "full", w, have+"1111111")
}

func TestAlign(t *testing.T) {
	for ahead := range 26 {
		// There is room for just the bytes that are begun.
		w, have := begun(t, (ahead+7)/8, ahead)
		before := w.Text()
		answer(t, "Align", w.Align(), api.OK)
		have = filled(have)
		hold(t, "behind Align", w, have)
		if got := w.Text(); got != before {
			t.Errorf("Align of %d bits: %q, not %q", ahead, got, before)
		}
		answer(t, "Align again", w.Align(), api.OK)
		hold(t, "behind Align again", w, have)
		answer(t, "a bit more", w.Bits(1, 1), api.ErrFull)
	}
}

func TestBitsBehindAlign(t *testing.T) {
	for ahead := range 17 {
		w, have := begun(t, far, ahead)
		answer(t, "Align", w.Align(), api.OK)
		answer(t, "Bits", w.Bits(0x2B5, 10), api.OK)
		hold(t, "behind Align and Bits", w, filled(have)+numeral(0x2B5, 10))
	}
}

var texts = []string{"", "a", "\x00", "\xFF\x00\x80", "abcdefghi", "ä€", strings.Repeat("\x9C\x01", 300)}

func TestBytesRoom(t *testing.T) {
	for ahead := range 26 {
		for _, s := range texts {
			just := (ahead+7)/8 + len(s)
			w, have := begun(t, just, ahead)
			answer(t, "a byte too much", w.Bytes(s+"x"), api.ErrFull)
			hold(t, "behind what was refused", w, have)
			answer(t, "just so many", w.Bytes(s), api.OK)
			have = filled(have) + numeralText(s)
			hold(t, "behind Bytes", w, have)
			answer(t, "a byte more", w.Bytes("x"), api.ErrFull)
			answer(t, "a bit more", w.Bits(0, 1), api.ErrFull)
			answer(t, "none more", w.Bytes(""), api.OK)
			hold(t, "full", w, have)
		}
	}
}

func TestBytesOneLess(t *testing.T) {
	for ahead := range 26 {
		for _, s := range texts[1:] {
			w, have := begun(t, (ahead+7)/8+len(s)-1, ahead)
			answer(t, "room for one byte less", w.Bytes(s), api.ErrFull)
			hold(t, "behind what was refused", w, have)
			answer(t, "a byte less", w.Bytes(s[1:]), api.OK)
			hold(t, "behind a byte less", w, filled(have)+numeralText(s[1:]))
		}
	}
}

func TestEmptyBytesAlign(t *testing.T) {
	for ahead := range 17 {
		w, have := begun(t, (ahead+7)/8, ahead)
		answer(t, "no bytes", w.Bytes(""), api.OK)
		hold(t, "behind no bytes", w, filled(have))
	}
}

func TestBitsBehindBytes(t *testing.T) {
	for ahead := range 17 {
		for _, s := range texts {
			w, have := begun(t, far, ahead)
			answer(t, "Bytes", w.Bytes(s), api.OK)
			answer(t, "Bits", w.Bits(0x155, 9), api.OK)
			hold(t, "behind Bytes and Bits", w, filled(have)+numeralText(s)+numeral(0x155, 9))
		}
	}
}

// refuse asks for every call of a writer that is none.
func refuse(t *testing.T, what string, w *bitw.Writer) {
	t.Helper()
	answer(t, what+": no bits", w.Bits(0, 0), api.ErrNil)
	answer(t, what+": Bits", w.Bits(1, 1), api.ErrNil)
	for _, size := range badSizes {
		answer(t, what+": a bad size", w.Bits(1, size), api.ErrNil)
	}
	answer(t, what+": a bad number", w.Bits(2, 1), api.ErrNil)
	answer(t, what+": no code", w.Code(api.Code{}), api.ErrNil)
	answer(t, what+": Code", w.Code(api.Code{Bits: 1, Size: 1}), api.ErrNil)
	answer(t, what+": a bad code", w.Code(api.Code{Bits: 2, Size: 99}), api.ErrNil)
	answer(t, what+": Align", w.Align(), api.ErrNil)
	answer(t, what+": no bytes", w.Bytes(""), api.ErrNil)
	answer(t, what+": Bytes", w.Bytes("a"), api.ErrNil)
	hold(t, what, w, "")
}

func TestNoWriter(t *testing.T) {
	var value bitw.Writer
	for range 2 {
		refuse(t, "nil", nil)
		refuse(t, "new", new(bitw.Writer))
		refuse(t, "a literal", &bitw.Writer{})
		refuse(t, "a value", &value)
	}
}

// TestTextStays: what was answered is its own, and bits that wait are still open.
func TestTextStays(t *testing.T) {
	w, have := bitw.New(far), ""
	var answered, wanted []string
	for i := range 200 {
		size := i % 12
		n := uint64(i) * 0x9E3779B97F4A7C15 >> 40 & (1<<size - 1)
		answer(t, "Bits", w.Bits(n, size), api.OK)
		have += numeral(n, size)
		answered, wanted = append(answered, w.Text()), append(wanted, packed(have))
	}
	for i := range answered {
		if answered[i] != wanted[i] {
			t.Fatalf("Text %d: %q, not %q", i, answered[i], wanted[i])
		}
	}
}

func TestWritersLieApart(t *testing.T) {
	a, b := bitw.New(3), bitw.New(3)
	answer(t, "a", a.Bits(0x1FF, 9), api.OK)
	answer(t, "b", b.Bits(1, 4), api.OK)
	answer(t, "a", a.Bytes("x"), api.OK)
	answer(t, "b", b.Bits(9, 4), api.OK)
	hold(t, "a", a, "1111111110000000"+numeralText("x"))
	hold(t, "b", b, "10001001")
}

// written writes bits in pieces of the sizes that next tells.
func written(t *testing.T, bits string, next func() int) *bitw.Writer {
	t.Helper()
	w := bitw.New((len(bits) + 7) / 8)
	for left := bits; left != ""; {
		size := min(next(), len(left))
		n := uint64(0)
		for i := size - 1; i >= 0; i-- {
			n = n*2 + uint64(left[i]-'0')
		}
		answer(t, "a piece", w.Bits(n, size), api.OK)
		left = left[size:]
	}
	return w
}

func TestPiecesAreAtOnce(t *testing.T) {
	chance := rand.New(rand.NewPCG(2, 3))
	for length := range 400 {
		bits := ""
		for range length {
			bits += numeral(chance.Uint64(), 1)
		}
		for size := 1; size <= 56; size += 5 {
			hold(t, "like pieces", written(t, bits, func() int { return size }), bits)
		}
		hold(t, "unlike pieces", written(t, bits, func() int { return chance.IntN(57) }), bits)
	}
}

func TestBytesAreBits(t *testing.T) {
	for ahead := range 9 {
		for _, s := range texts {
			whole, _ := begun(t, far, ahead)
			pieces, _ := begun(t, far, ahead)
			bits, _ := begun(t, far, ahead)
			answer(t, "at once", whole.Bytes(s), api.OK)
			answer(t, "Align", pieces.Align(), api.OK)
			answer(t, "Align", bits.Align(), api.OK)
			for i := range len(s) {
				answer(t, "a byte", pieces.Bytes(s[i:i+1]), api.OK)
				answer(t, "as bits", bits.Bits(uint64(s[i]), 8), api.OK)
			}
			if whole.Text() != pieces.Text() || whole.Text() != bits.Text() || whole.Len() != pieces.Len() || whole.Len() != bits.Len() {
				t.Fatalf("%q behind %d bits: not the same in pieces", s, ahead)
			}
		}
	}
}

// row is a writer beside the bits that it should have.
type row struct {
	w    *bitw.Writer
	most int
	bits string
}

func (r *row) add(t *testing.T, more string, e api.Errno, aligned bool) {
	t.Helper()
	want := api.OK
	all := r.bits
	if aligned {
		all = filled(all)
	}
	if all += more; len(all) > 8*r.most {
		want = api.ErrFull
	} else {
		r.bits = all
	}
	answer(t, "a step", e, want)
	hold(t, "behind a step", r.w, r.bits)
}

func (r *row) step(t *testing.T, chance *rand.Rand) {
	t.Helper()
	size := chance.IntN(57)
	n := chance.Uint64() & (1<<size - 1)
	switch chance.IntN(6) {
	case 0, 1:
		r.add(t, numeral(n, size), r.w.Bits(n, size), false)
	case 2:
		c := api.Code{Bits: uint32(n & (1<<(size%16) - 1)), Size: uint8(size % 16)}
		r.add(t, numeral(uint64(c.Bits), size%16), r.w.Code(c), false)
	case 3:
		r.add(t, "", r.w.Align(), true)
	case 4:
		s := strings.Repeat(string([]byte{byte(n), byte(n >> 8)}), size%4)
		r.add(t, numeralText(s), r.w.Bytes(s), true)
	case 5:
		answer(t, "a bit at size", r.w.Bits(n|1<<size, size), api.ErrArg)
		hold(t, "behind a bad number", r.w, r.bits)
	}
}

// TestRows: whatever calls come behind each other, bits that were written stay, and what is refused writes nothing.
func TestRows(t *testing.T) {
	chance := rand.New(rand.NewPCG(5, 7))
	for range 300 {
		most := chance.IntN(60)
		r := &row{w: bitw.New(most), most: most}
		for range 60 {
			before := r.bits
			r.step(t, chance)
			if !strings.HasPrefix(r.bits, before) {
				t.Fatal("bits ahead are others")
			}
		}
	}
}

// TestMany: far room is full at its end, and not ahead of it.
func TestMany(t *testing.T) {
	w := bitw.New(far)
	for i := range far / 7 {
		answer(t, "Bits", w.Bits(uint64(i), 56), api.OK)
	}
	answer(t, "the last ones", w.Bytes(strings.Repeat("z", far%7)), api.OK)
	answer(t, "one more", w.Bits(0, 1), api.ErrFull)
	s := w.Text()
	if len(s) != far || w.Len() != 8*far {
		t.Fatalf("%d bytes, %d bits", len(s), w.Len())
	}
	for i := range far / 7 {
		for at := range 7 {
			if s[7*i+at] != byte(i>>(8*at)) {
				t.Fatalf("number %d is another one", i)
			}
		}
	}
}
