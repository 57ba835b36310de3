package word_test

import (
	"math"
	"math/big"
	"slices"
	"strings"
	"testing"

	"platen/word"
)

var badSizes = []int{math.MinInt, -8, -1, 0, 9, 16, 64, math.MaxInt}

// numbers are those at and next to each power of two, and some whose bytes all differ.
func numbers() []uint64 {
	l := []uint64{0, 0x0102030405060708, 0xF1E2D3C4B5A69788, 0x8000000000000001, math.MaxUint64}
	for bit := range 64 {
		n := uint64(1) << bit
		l = append(l, n-1, n, n+1)
	}
	return l
}

// bytesOf is the promise's words in other arithmetic: none where n is not below 256 to the power of size.
func bytesOf(n uint64, size int) (string, bool) {
	left, base := new(big.Int).SetUint64(n), big.NewInt(256)
	b := make([]byte, size)
	for i := range b {
		low := new(big.Int)
		left.DivMod(left, base, low)
		b[i] = byte(low.Int64())
	}
	if left.Sign() != 0 {
		return "", false
	}
	return string(b), true
}

func TestPut(t *testing.T) {
	for size := 1; size <= 8; size++ {
		for _, n := range numbers() {
			want, is := bytesOf(n, size)
			if got, ok := word.Put(n, size); got != want || ok != is {
				t.Errorf("Put(%d, %d): %q %v, not %q %v", n, size, got, ok, want, is)
			}
		}
	}
}

func TestPutByHand(t *testing.T) {
	cases := []struct {
		n    uint64
		size int
		want string
		is   bool
	}{
		{258, 2, "\x02\x01", true},
		{0, 1, "\x00", true},
		{0, 3, "\x00\x00\x00", true},
		{255, 1, "\xFF", true},
		{256, 1, "", false},
		{256, 2, "\x00\x01", true},
		{65535, 2, "\xFF\xFF", true},
		{65536, 2, "", false},
		{1<<56 - 1, 7, "\xFF\xFF\xFF\xFF\xFF\xFF\xFF", true},
		{1 << 56, 7, "", false},
		{1 << 56, 8, "\x00\x00\x00\x00\x00\x00\x00\x01", true},
		{0x0102030405060708, 8, "\x08\x07\x06\x05\x04\x03\x02\x01", true},
		{math.MaxUint64, 8, "\xFF\xFF\xFF\xFF\xFF\xFF\xFF\xFF", true},
	}
	for _, c := range cases {
		if got, is := word.Put(c.n, c.size); got != c.want || is != c.is {
			t.Errorf("Put(%d, %d): %q %v, not %q %v", c.n, c.size, got, is, c.want, c.is)
		}
	}
}

func TestPutBadSizes(t *testing.T) {
	for _, size := range badSizes {
		for _, n := range []uint64{0, 1, 255, math.MaxUint64} {
			if got, is := word.Put(n, size); got != "" || is {
				t.Errorf("Put(%d, %d): %q %v", n, size, got, is)
			}
		}
	}
}

func TestGet(t *testing.T) {
	s := "\x01\x00\xFF\x80\x7F\x03\xFE\x10\x99\xC4\x00"
	for size := 1; size <= 8; size++ {
		for at := -9; at <= len(s)+9; at++ {
			want, is := uint64(0), at >= 0 && at+size <= len(s)
			for i := size - 1; is && i >= 0; i-- {
				want = want*256 + uint64(s[at+i])
			}
			if got, ok := word.Get(s, at, size); got != want || ok != is {
				t.Errorf("Get(s, %d, %d): %d %v, not %d %v", at, size, got, ok, want, is)
			}
		}
	}
}

func TestGetByHand(t *testing.T) {
	cases := []struct {
		s        string
		at, size int
		want     uint64
		is       bool
	}{
		{"x\x02\x01", 1, 2, 258, true},
		{"x\x02\x01", 2, 1, 1, true},
		{"x\x02\x01", 2, 2, 0, false},
		{"x\x02\x01", 3, 1, 0, false},
		{"x\x02\x01", -1, 1, 0, false},
		{"x\x02\x01", -1, 4, 0, false},
		{"", 0, 1, 0, false},
		{"abcdefg", 0, 8, 0, false},
		{"\xFF\xFF\xFF\xFF\xFF\xFF\xFF\xFF", 0, 8, math.MaxUint64, true},
		{"\x08\x07\x06\x05\x04\x03\x02\x01", 0, 8, 0x0102030405060708, true},
	}
	for _, c := range cases {
		if got, is := word.Get(c.s, c.at, c.size); got != c.want || is != c.is {
			t.Errorf("Get(%q, %d, %d): %d %v, not %d %v", c.s, c.at, c.size, got, is, c.want, c.is)
		}
	}
}

func TestGetFarPlaces(t *testing.T) {
	s := strings.Repeat("a", 20)
	for _, at := range []int{math.MinInt, math.MinInt + 1, -1 << 32, 1 << 32, math.MaxInt - 8, math.MaxInt} {
		for size := 1; size <= 8; size++ {
			if got, is := word.Get(s, at, size); got != 0 || is {
				t.Errorf("Get(s, %d, %d): %d %v", at, size, got, is)
			}
		}
	}
}

func TestGetBadSizes(t *testing.T) {
	s := strings.Repeat("a", 80)
	for _, size := range badSizes {
		for _, at := range []int{math.MinInt, -1, 0, 1, 40, 80, math.MaxInt} {
			if got, is := word.Get(s, at, size); got != 0 || is {
				t.Errorf("Get(s, %d, %d): %d %v", at, size, got, is)
			}
		}
	}
}

func TestSmall(t *testing.T) {
	sizes := append([]int{1, 2, 3, 4, 5, 6, 7, 8}, badSizes...)
	for _, u := range numbers() {
		for _, n := range []int{int(u), -int(u)} {
			for _, size := range sizes {
				_, is := word.Put(uint64(n), size)
				is = is && n >= 0
				want := uint64(0)
				if is {
					want = uint64(n)
				}
				if got, ok := word.Small(n, size); got != want || ok != is {
					t.Errorf("Small(%d, %d): %d %v, not %d %v", n, size, got, ok, want, is)
				}
			}
		}
	}
}

func TestSmallByHand(t *testing.T) {
	cases := []struct {
		n, size int
		want    uint64
		is      bool
	}{
		{0, 1, 0, true},
		{255, 1, 255, true},
		{256, 1, 0, false},
		{256, 2, 256, true},
		{1<<56 - 1, 7, 1<<56 - 1, true},
		{1 << 56, 7, 0, false},
		{math.MaxInt, 8, math.MaxInt, true},
		{-1, 1, 0, false},
		{-1, 8, 0, false},
		{math.MinInt, 8, 0, false},
		{5, 0, 0, false},
		{5, 9, 0, false},
		{5, -1, 0, false},
	}
	for _, c := range cases {
		if got, is := word.Small(c.n, c.size); got != c.want || is != c.is {
			t.Errorf("Small(%d, %d): %d %v, not %d %v", c.n, c.size, got, is, c.want, c.is)
		}
	}
}

// bitCounts are all that differ, and far ones.
func bitCounts() []int {
	l := []int{math.MinInt, math.MinInt + 1, math.MaxInt - 1, math.MaxInt, 128, 256, 1 << 32}
	for bits := -3; bits <= 67; bits++ {
		l = append(l, bits)
	}
	return l
}

func TestMask(t *testing.T) {
	for _, bits := range bitCounts() {
		got := word.Mask(bits)
		for bit := range 64 {
			if has := got>>bit&1 == 1; has != (bit < bits) {
				t.Errorf("Mask(%d): %x has bit %d: %v", bits, got, bit, has)
			}
		}
	}
}

func TestMaskByHand(t *testing.T) {
	cases := []struct {
		bits int
		want uint64
	}{{-1, 0}, {0, 0}, {1, 1}, {3, 7}, {8, 255}, {63, math.MaxInt64}, {64, math.MaxUint64}, {65, math.MaxUint64}}
	for _, c := range cases {
		if got := word.Mask(c.bits); got != c.want {
			t.Errorf("Mask(%d): %d, not %d", c.bits, got, c.want)
		}
	}
}

func TestTurn(t *testing.T) {
	for _, bits := range bitCounts() {
		counted := max(0, min(bits, 64))
		for _, n := range numbers() {
			got := word.Turn(n, bits)
			for bit := range 64 {
				want := uint64(0)
				if bit < counted {
					want = n >> (counted - 1 - bit) & 1
				}
				if got>>bit&1 != want {
					t.Fatalf("Turn(%x, %d): %x: bit %d is not %d", n, bits, got, bit, want)
				}
			}
		}
	}
}

func TestTurnByHand(t *testing.T) {
	cases := []struct {
		n    uint64
		bits int
		want uint64
	}{
		{6, 4, 6},
		{1, 3, 4},
		{1, 1, 1},
		{1, 0, 0},
		{1, -1, 0},
		{1, 63, 1 << 62},
		{1, 64, 1 << 63},
		{1, 65, 1 << 63},
		{1, math.MaxInt, 1 << 63},
		{0xFF, 4, 0xF},
		{0xF0, 4, 0},
		{0b1011, 4, 0b1101},
		{0b1011, 6, 0b110100},
	}
	for _, c := range cases {
		if got := word.Turn(c.n, c.bits); got != c.want {
			t.Errorf("Turn(%x, %d): %x, not %x", c.n, c.bits, got, c.want)
		}
	}
}

func TestLog(t *testing.T) {
	if got := word.Log(0); got != -1 {
		t.Errorf("Log(0): %d", got)
	}
	if got := word.Log(1024); got != 10 {
		t.Errorf("Log(1024): %d", got)
	}
	for bit := range 64 {
		least := uint64(1) << bit
		for _, n := range []uint64{least, least | least/2, least | 1, 2*least - 1} {
			if got := word.Log(n); got != bit {
				t.Errorf("Log(%d): %d, not %d", n, got, bit)
			}
		}
	}
}

func TestUpSmall(t *testing.T) {
	for n := -5; n <= 130; n++ {
		for to := -5; to <= 130; to++ {
			want := 0
			for n >= 1 && to >= 1 && want < n {
				want += to
			}
			if got := word.Up(n, to); got != want {
				t.Errorf("Up(%d, %d): %d, not %d", n, to, got, want)
			}
		}
	}
}

func TestUpGreat(t *testing.T) {
	const top = 1 << 62
	ends := []int{1, 2, 3, 5, 1000, 1 << 31, top / 3, top/2 - 1, top / 2, top/2 + 1, top - 3, top - 2, top - 1, top, top + 1, top + 2, math.MaxInt - 1, math.MaxInt}
	for _, n := range ends {
		for _, to := range ends {
			b := big.NewInt(int64(to))
			up := new(big.Int).Add(big.NewInt(int64(n)), new(big.Int).Sub(b, big.NewInt(1)))
			up.Mul(up.Div(up, b), b)
			want := 0
			if up.Cmp(big.NewInt(top)) <= 0 {
				want = int(up.Int64())
			}
			if got := word.Up(n, to); got != want {
				t.Errorf("Up(%d, %d): %d, not %d", n, to, got, want)
			}
		}
	}
}

func TestUpByHand(t *testing.T) {
	const top = 1 << 62
	cases := [][3]int{
		{17, 16, 32},
		{16, 16, 16},
		{1, 16, 16},
		{1, 1, 1},
		{0, 16, 0},
		{-1, 16, 0},
		{1, 0, 0},
		{1, -1, 0},
		{math.MinInt, 1, 0},
		{1, math.MinInt, 0},
		{math.MinInt, math.MinInt, 0},
		{top, 1, top},
		{top, 2, top},
		{top, top, top},
		{1, top, top},
		{top - 1, 2, top},
		{top - 1, 3, top - 1},
		{top, 3, 0},
		{top + 1, 1, 0},
		{top + 1, top, 0},
		{1, top + 1, 0},
		{math.MaxInt, 1, 0},
		{math.MaxInt, math.MaxInt, 0},
		{math.MaxInt, math.MaxInt - 1, 0},
	}
	for _, c := range cases {
		if got := word.Up(c[0], c[1]); got != c[2] {
			t.Errorf("Up(%d, %d): %d, not %d", c[0], c[1], got, c[2])
		}
	}
}

func TestPutIsGot(t *testing.T) {
	for size := 1; size <= 8; size++ {
		for _, n := range numbers() {
			s, is := word.Put(n, size)
			if !is {
				continue
			}
			for ahead := range 3 {
				all := strings.Repeat("\xEE", ahead) + s + "\xEE"
				if got, ok := word.Get(all, ahead, size); got != n || !ok {
					t.Errorf("Get of Put(%d, %d): %d %v", n, size, got, ok)
				}
			}
		}
	}
}

func TestGotIsPut(t *testing.T) {
	s := "\x00\x01\xFF\x80\x7F\x03\xFE\x10\x99\xC4\x00"
	for size := 1; size <= 8; size++ {
		for at := 0; at+size <= len(s); at++ {
			n, _ := word.Get(s, at, size)
			if got, is := word.Put(n, size); got != s[at:at+size] || !is {
				t.Errorf("Put of Get(s, %d, %d): %q %v", at, size, got, is)
			}
		}
	}
}

func TestTurnedTwice(t *testing.T) {
	for _, bits := range bitCounts() {
		for _, n := range numbers() {
			if got := word.Turn(word.Turn(n, bits), bits); got != n&word.Mask(bits) {
				t.Errorf("%x, turned twice by %d: %x", n, bits, got)
			}
		}
	}
}

// TestAlikeAgain: an answer hangs on nothing but the arguments.
func TestAlikeAgain(t *testing.T) {
	row := func() []uint64 {
		var l []uint64
		for _, n := range numbers() {
			s, _ := word.Put(n, 8)
			got, _ := word.Get(s, 0, 8)
			small, _ := word.Small(int(n), 8)
			l = append(l, got, small, word.Turn(n, 64), uint64(word.Log(n)), uint64(word.Up(int(n), 7)))
		}
		return l
	}
	if !slices.Equal(row(), row()) {
		t.Error("the same calls answer otherwise")
	}
}
