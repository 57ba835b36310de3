package sums_test

import (
	"hash/adler32"
	"hash/crc32"
	"math"
	"math/big"
	"math/rand/v2"
	"strings"
	"testing"

	"platen/sums"
)

const (
	modulus  = 65521
	greatest = math.MaxUint32
	allOnes  = 1<<32 - 1
)

// zeroes is a text behind which an Adler-32's lower number is 0: 1, and 256 times 255, and 240, are the modulus.
var zeroes = strings.Repeat("\xFF", 256) + "\xF0"

func chance() *rand.Rand {
	return rand.New(rand.NewPCG(4, 1950))
}

func wild(r *rand.Rand, size int) string {
	b := make([]byte, size)
	for i := range b {
		b[i] = byte(r.Uint32())
	}
	return string(b)
}

// texts are the edges, ordinary ones, and some that are no UTF-8.
func texts() []string {
	l := []string{
		"", "a", "ab", "abc", "Wikipedia", "123456789", zeroes,
		"\x00", "\x00\x00", "\x01", "\xFF", "\xFF\xFF", "\x80\xC3\x28\xFE", "\u00e9\u20ac\U0001F600",
		strings.Repeat("\x00", 1000), strings.Repeat("\xFF", 1000),
		strings.Repeat("a page of a store ", 300),
	}
	r := chance()
	for _, size := range []int{3, 4, 5, 31, 255, 256, 257, 5552, 5553, 70000} {
		l = append(l, wild(r, size))
	}
	return l
}

// longTexts are such that both of an Adler-32's numbers pass the modulus many times.
func longTexts() []string {
	r := chance()
	return []string{
		strings.Repeat("\xFF", 1<<20),
		strings.Repeat("\x00", 1<<20),
		strings.Repeat("\x01", 3*modulus),
		wild(r, 1<<20),
	}
}

// halves are numbers that half an Adler-32 may hold: those that should not be there too.
func halves() []uint32 {
	return []uint32{0, 1, 2, 32768, 65519, 65520, 65521, 65522, 65535}
}

func adlers() []uint32 {
	var l []uint32
	for _, low := range halves() {
		for _, high := range halves() {
			l = append(l, high*65536+low)
		}
	}
	return l
}

// adlerOf is the chapter's words in closed form: each byte counts once in a, and in b as often as there are bytes from it on.
func adlerOf(sum uint32, s string) uint32 {
	a, b := uint64(sum%65536), uint64(sum/65536)
	n := uint64(len(s))
	b += n * a
	for i := range len(s) {
		a += uint64(s[i])
		b += (n - uint64(i)) * uint64(s[i])
	}
	return uint32(b%modulus*65536 + a%modulus)
}

// joined is the promise's words in numbers that are never too great.
func joined(first, next uint32, n uint64) uint32 {
	number := func(u uint32) *big.Int { return big.NewInt(int64(u)) }
	less := new(big.Int).Sub(number(first%65536%modulus), big.NewInt(1))
	a := new(big.Int).Add(less, number(next%65536%modulus))
	b := new(big.Int).Mul(new(big.Int).SetUint64(n), less)
	b.Add(b, number(first/65536%modulus)).Add(b, number(next/65536%modulus))
	m := big.NewInt(modulus)
	return uint32(b.Mod(b, m).Int64()*65536 + a.Mod(a, m).Int64())
}

func TestAdlerByHand(t *testing.T) {
	cases := []struct {
		s    string
		want uint32
	}{
		{"Wikipedia", 300286872},
		{"", 1},
		{"\x00", 1*65536 + 1},
		{"\x00\x00\x00", 3*65536 + 1},
		{"\x01", 2*65536 + 2},
		{"\xFF", 256*65536 + 256},
		{"\xFF\xFF", 767*65536 + 511},
		{"a", 98*65536 + 98},
		{"ab", 294*65536 + 196},
		{strings.Repeat("\x00", modulus-1), 65520*65536 + 1},
		{strings.Repeat("\x00", modulus), 1},
		{strings.Repeat("\x00", modulus+1), 1*65536 + 1},
		{strings.Repeat("\x01", modulus-2), 65520*65536 + 65520},
		{strings.Repeat("\x01", modulus-1), 65520 * 65536},
		{strings.Repeat("\x01", modulus), 1},
	}
	for _, c := range cases {
		if got := sums.Adler(c.s); got != c.want {
			t.Errorf("Adler of %d bytes: %d, not %d", len(c.s), got, c.want)
		}
	}
}

func TestAdler(t *testing.T) {
	for _, s := range append(texts(), longTexts()...) {
		got := sums.Adler(s)
		if want := adlerOf(1, s); got != want {
			t.Errorf("Adler of %d bytes: %d, not %d", len(s), got, want)
		}
		if want := adler32.Checksum([]byte(s)); got != want {
			t.Errorf("Adler of %d bytes: %d, the library's is %d", len(s), got, want)
		}
	}
}

func TestAdlerOfEachByte(t *testing.T) {
	for b := range 256 {
		want := uint32(b+1)*65536 + uint32(b+1)
		if got := sums.Adler(string([]byte{byte(b)})); got != want {
			t.Errorf("Adler of byte %d: %d, not %d", b, got, want)
		}
	}
}

func TestAdlerMoreByHand(t *testing.T) {
	cases := []struct {
		a    uint32
		s    string
		want uint32
	}{
		{0, "", 0},
		{1, "", 1},
		{65520*65536 + 65520, "", 65520*65536 + 65520},
		{65521*65536 + 65521, "", 0},
		{65535*65536 + 65535, "", 14*65536 + 14},
		{65535, "", 14},
		{65535 * 65536, "", 14 * 65536},
		{0, "\x00", 0},
		{0, "\x01", 1*65536 + 1},
		{65520, "\x01", 0},
		{65520, "\x02", 1*65536 + 1},
		{65520*65536 + 1, "\x00", 1},
		{65520*65536 + 65520, "\x00", 65519*65536 + 65520},
		{65535*65536 + 65521, "\xFF", 269*65536 + 255},
		{greatest, "\xFF", 283*65536 + 269},
	}
	for _, c := range cases {
		if got := sums.AdlerMore(c.a, c.s); got != c.want {
			t.Errorf("AdlerMore(%d, %q): %d, not %d", c.a, c.s, got, c.want)
		}
	}
}

func TestAdlerMore(t *testing.T) {
	for _, a := range adlers() {
		for _, s := range texts() {
			if got, want := sums.AdlerMore(a, s), adlerOf(a, s); got != want {
				t.Errorf("AdlerMore(%d, %d bytes): %d, not %d", a, len(s), got, want)
			}
		}
	}
	for _, a := range []uint32{0, 1, modulus, greatest} {
		for _, s := range longTexts() {
			if got, want := sums.AdlerMore(a, s), adlerOf(a, s); got != want {
				t.Errorf("AdlerMore(%d, %d bytes): %d, not %d", a, len(s), got, want)
			}
		}
	}
}

func TestAdlerJoinByHand(t *testing.T) {
	cases := []struct {
		a, b uint32
		n    uint64
		want uint32
	}{
		{sums.Adler("a"), sums.Adler("b"), 1, sums.Adler("ab")},
		{1, 1, 0, 1},
		{0, 0, 0, 65520},
		{0, 0, 1, 65520*65536 + 65520},
		{0, 1, 1, 65520 * 65536},
		{0, 1, 65520, 1 * 65536},
		{0, 1, 65521, 0},
		{0, 1, 65522, 65520 * 65536},
		{1, 0, math.MaxUint64, 0},
		{2, 1, 65520, 65520*65536 + 2},
		{2, 1, 65521, 2},
		{2, 1, 65522, 1*65536 + 2},
		// 2 to the power of 16 is 15 more than the modulus: the greatest n is, but for multiples of it, 15 to the power of 4, less 1.
		{2, 1, math.MaxUint64, (15*15*15*15-1)*65536 + 2},
		{65521, 1, 0, 0},
		{1, 65521, 0, 0},
		{65521 * 65536, 65521*65536 + 1, 0, 0},
		{65535*65536 + 65535, 65535*65536 + 65535, 0, 28*65536 + 27},
		{65535*65536 + 65535, 65535*65536 + 65535, 2, 54*65536 + 27},
		{65520*65536 + 65520, 65520*65536 + 65520, 65520, 65518},
	}
	for _, c := range cases {
		if got := sums.AdlerJoin(c.a, c.b, c.n); got != c.want {
			t.Errorf("AdlerJoin(%d, %d, %d): %d, not %d", c.a, c.b, c.n, got, c.want)
		}
	}
}

func TestAdlerJoin(t *testing.T) {
	sizes := []uint64{
		0, 1, 2, 255, 65519, 65520, 65521, 65522, 65535, 65536, 2*modulus - 1, 2 * modulus, 2*modulus + 1,
		1<<32 - 1, 1 << 32, 1<<63 - 1, 1 << 63, math.MaxUint64 - 1, math.MaxUint64,
	}
	for _, a := range adlers() {
		for _, b := range adlers() {
			for _, n := range sizes {
				if got, want := sums.AdlerJoin(a, b, n), joined(a, b, n); got != want {
					t.Fatalf("AdlerJoin(%d, %d, %d): %d, not %d", a, b, n, got, want)
				}
			}
		}
	}
}

func TestAdlerJoinByChance(t *testing.T) {
	r := chance()
	for range 20000 {
		a, b, n := r.Uint32(), r.Uint32(), r.Uint64()>>r.IntN(64)
		if got, want := sums.AdlerJoin(a, b, n), joined(a, b, n); got != want {
			t.Fatalf("AdlerJoin(%d, %d, %d): %d, not %d", a, b, n, got, want)
		}
	}
}

func TestTableByHand(t *testing.T) {
	table := sums.Table()
	cases := []struct {
		at   int
		want uint32
	}{
		{0, 0}, {1, 0x77073096}, {2, 0xEE0E612C}, {3, 0x990951BA}, {4, 0x076DC419},
		{127, 0xC0BA6CAD}, {128, 0xEDB88320}, {255, 0x2D02EF8D},
	}
	for _, c := range cases {
		if table[c.at] != c.want {
			t.Errorf("Table()[%d]: %x, not %x", c.at, table[c.at], c.want)
		}
	}
}

// stepped is what a number becomes by one of the chapter's steps.
func stepped(n uint32) uint32 {
	if n%2 == 1 {
		return n/2 ^ 0xEDB88320
	}
	return n / 2
}

func TestTable(t *testing.T) {
	table := sums.Table()
	for i, got := range table {
		want := uint32(i)
		for range 8 {
			want = stepped(want)
		}
		if got != want {
			t.Errorf("Table()[%d]: %x, not %x", i, got, want)
		}
		if library := crc32.IEEETable[i]; got != library {
			t.Errorf("Table()[%d]: %x, the library's is %x", i, got, library)
		}
	}
}

func TestTableIsNew(t *testing.T) {
	table := sums.Table()
	clear(table[:])
	if sums.CRC("123456789") != 0xCBF43926 || sums.Table() != [256]uint32(*crc32.IEEETable) {
		t.Error("a table that was changed is in use")
	}
}

// divided is a CRC-32 the long way: what is left of the text's bits, the lowest of each byte first, and 32 bits 0 behind, the first 32 of all turned over, by the polynomial.
func divided(s string) uint32 {
	bits := make([]uint32, 8*len(s)+32)
	for i := range 8 * len(s) {
		bits[i] = uint32(s[i/8]) >> (i % 8) & 1
	}
	for i := range 32 {
		bits[i] ^= 1
	}
	for i := range 8 * len(s) {
		if bits[i] == 0 {
			continue
		}
		for j := range 32 {
			bits[i+1+j] ^= 0x04C11DB7 >> (31 - j) & 1
		}
	}
	var left uint32
	for i, bit := range bits[8*len(s):] {
		left |= bit << i
	}
	return allOnes - left
}

func TestCRCByHand(t *testing.T) {
	cases := []struct {
		s    string
		want uint32
	}{
		{"123456789", 0xCBF43926},
		{"", 0},
		{"\x00", 0xD202EF8D},
		{"\xFF", 0xFF000000},
		{"\x00\x00\x00\x00", 0x2144DF1C},
		{"\xFF\xFF\xFF\xFF", 0xFFFFFFFF},
		{"a", 0xE8B7BE43},
		{"abc", 0x352441C2},
		{"The quick brown fox jumps over the lazy dog", 0x414FA339},
	}
	for _, c := range cases {
		if got := sums.CRC(c.s); got != c.want {
			t.Errorf("CRC(%q): %x, not %x", c.s, got, c.want)
		}
	}
}

func TestCRC(t *testing.T) {
	for _, s := range append(texts(), longTexts()...) {
		got := sums.CRC(s)
		if want := crc32.ChecksumIEEE([]byte(s)); got != want {
			t.Errorf("CRC of %d bytes: %x, the library's is %x", len(s), got, want)
		}
		if want := divided(s); len(s) < 10000 && got != want {
			t.Errorf("CRC of %d bytes: %x, not %x", len(s), got, want)
		}
	}
}

func TestCRCOfEachByte(t *testing.T) {
	for b := range 256 {
		s := string([]byte{byte(b)})
		if got, want := sums.CRC(s), divided(s); got != want {
			t.Errorf("CRC of byte %d: %x, not %x", b, got, want)
		}
	}
}

// tables are such as no text's sum needs, and those of other polynomials.
func tables() [][256]uint32 {
	var none, all, same, high, chosen [256]uint32
	r := chance()
	for i := range none {
		all[i], same[i], high[i], chosen[i] = allOnes, uint32(i), uint32(i)<<24, r.Uint32()
	}
	castagnoli, koopman := crc32.MakeTable(crc32.Castagnoli), crc32.MakeTable(crc32.Koopman)
	return [][256]uint32{sums.Table(), none, all, same, high, chosen, [256]uint32(*castagnoli), [256]uint32(*koopman)}
}

func crcs() []uint32 {
	return []uint32{0, 1, 255, 256, 0x7FFFFFFF, 0x80000000, 0xCBF43926, 0xEDB88320, 0xFFFFFF00, greatest - 1, greatest}
}

// crcOf is the promise's words by division.
func crcOf(table [256]uint32, c uint32, s string) uint32 {
	c = allOnes - c
	for i := range len(s) {
		at := c%256 ^ uint32(s[i])
		c = table[at] ^ (c-c%256)/256
	}
	return allOnes - c
}

func TestCRCMoreByHand(t *testing.T) {
	var none [256]uint32
	none[0xFF^'a'] = 0x12345678
	cases := []struct {
		table [256]uint32
		c     uint32
		s     string
		want  uint32
	}{
		{sums.Table(), 0, "123456789", 0xCBF43926},
		{sums.Table(), 0, "", 0},
		{sums.Table(), greatest, "", greatest},
		{sums.Table(), 0xCBF43926, "", 0xCBF43926},
		{sums.Table(), greatest, "\x00", greatest},
		{sums.Table(), greatest, "\x80", 0x12477CDF},
		{[256]uint32{}, 0x01234567, "", 0x01234567},
		{[256]uint32{}, 0x01234567, "a", 0xFF012345},
		{[256]uint32{}, 0x01234567, "abcd", greatest},
		{none, 0, "a", 0xEDCBA987 ^ 0x00FFFFFF},
		{none, 0, "b", 0xFF000000},
	}
	for _, c := range cases {
		if got := sums.CRCMore(c.table, c.c, c.s); got != c.want {
			t.Errorf("CRCMore(a table, %x, %q): %x, not %x", c.c, c.s, got, c.want)
		}
	}
}

func TestCRCMore(t *testing.T) {
	for i, table := range tables() {
		library := crc32.Table(table)
		for _, c := range crcs() {
			for _, s := range texts() {
				got := sums.CRCMore(table, c, s)
				if want := crcOf(table, c, s); got != want {
					t.Errorf("CRCMore(table %d, %x, %d bytes): %x, not %x", i, c, len(s), got, want)
				}
				if want := crc32.Update(c, &library, []byte(s)); got != want {
					t.Errorf("CRCMore(table %d, %x, %d bytes): %x, the library's is %x", i, c, len(s), got, want)
				}
			}
		}
	}
}

func TestSumsGoOn(t *testing.T) {
	table := sums.Table()
	for _, first := range texts() {
		for _, next := range texts() {
			both := first + next
			if got, want := sums.AdlerMore(sums.Adler(first), next), sums.Adler(both); got != want {
				t.Errorf("Adler of %d bytes, gone on over %d: %d, not %d", len(first), len(next), got, want)
			}
			if got, want := sums.CRCMore(table, sums.CRC(first), next), sums.CRC(both); got != want {
				t.Errorf("CRC of %d bytes, gone on over %d: %x, not %x", len(first), len(next), got, want)
			}
		}
	}
}

func TestSumsGoOnOverThree(t *testing.T) {
	table := sums.Table()
	three := []string{"", "a", "\x00", "\xFF", zeroes, strings.Repeat("\xFF", 70000), "a page of a store"}
	for _, a := range three {
		for _, b := range three {
			for _, c := range three {
				adler := sums.AdlerMore(sums.AdlerMore(sums.Adler(a), b), c)
				if want := sums.Adler(a + b + c); adler != want {
					t.Errorf("Adler of %d, %d, %d bytes: %d, not %d", len(a), len(b), len(c), adler, want)
				}
				crc := sums.CRCMore(table, sums.CRCMore(table, sums.CRC(a), b), c)
				if want := sums.CRC(a + b + c); crc != want {
					t.Errorf("CRC of %d, %d, %d bytes: %x, not %x", len(a), len(b), len(c), crc, want)
				}
			}
		}
	}
}

// TestGoOnFromAny: what goes on needs no sum that a text has.
func TestGoOnFromAny(t *testing.T) {
	for _, table := range tables() {
		for _, c := range crcs() {
			if sums.CRCMore(table, sums.CRCMore(table, c, "some pages"), " and more") != sums.CRCMore(table, c, "some pages and more") {
				t.Errorf("CRCMore from %x, in two goes, is another one", c)
			}
		}
	}
	for _, a := range adlers() {
		if sums.AdlerMore(sums.AdlerMore(a, "some pages"), " and more") != sums.AdlerMore(a, "some pages and more") {
			t.Errorf("AdlerMore from %d, in two goes, is another one", a)
		}
	}
}

func TestJoinedIsOfBoth(t *testing.T) {
	l := append(texts(), strings.Repeat("\x00", modulus-1), strings.Repeat("\x07", modulus), strings.Repeat("\xFF", modulus+1), strings.Repeat("\xFF", 1<<18))
	for _, first := range l {
		for _, next := range l {
			got := sums.AdlerJoin(sums.Adler(first), sums.Adler(next), uint64(len(next)))
			if want := sums.Adler(first + next); got != want {
				t.Errorf("joined sums of %d and %d bytes: %d, not %d", len(first), len(next), got, want)
			}
		}
	}
}

func TestJoinedOfThree(t *testing.T) {
	three := []string{"", "b", zeroes, strings.Repeat("\xFF", 70000), "a page of a store"}
	for _, a := range three {
		for _, b := range three {
			for _, c := range three {
				want := sums.Adler(a + b + c)
				left := sums.AdlerJoin(sums.Adler(a+b), sums.Adler(c), uint64(len(c)))
				right := sums.AdlerJoin(sums.Adler(a), sums.Adler(b+c), uint64(len(b)+len(c)))
				if left != want || right != want {
					t.Errorf("joined sums of %d, %d, %d bytes: %d and %d, not %d", len(a), len(b), len(c), left, right, want)
				}
			}
		}
	}
}

func TestOneByteTells(t *testing.T) {
	r := chance()
	for _, s := range []string{"a", "\x00\x00", zeroes, strings.Repeat("\xFF", 300), "a page of a store", wild(r, 1024)} {
		adler, crc := sums.Adler(s), sums.CRC(s)
		for i := range len(s) {
			b := []byte(s)
			b[i] += byte(1 + r.IntN(255))
			if sums.Adler(string(b)) == adler {
				t.Errorf("Adler of %d bytes: byte %d as %d is not told", len(s), i, b[i])
			}
			if sums.CRC(string(b)) == crc {
				t.Errorf("CRC of %d bytes: byte %d as %d is not told", len(s), i, b[i])
			}
		}
	}
}

// TestOneByteTellsAny: of all bytes at each place no two have one sum.
func TestOneByteTellsAny(t *testing.T) {
	for _, s := range []string{"a", "\xFF\xFF", zeroes[:9], strings.Repeat("\x00", 40)} {
		for i := range len(s) {
			adlers, crcs := map[uint32]int{}, map[uint32]int{}
			for b := range 256 {
				other := s[:i] + string([]byte{byte(b)}) + s[i+1:]
				adlers[sums.Adler(other)]++
				crcs[sums.CRC(other)]++
			}
			if len(adlers) != 256 || len(crcs) != 256 {
				t.Errorf("%d bytes, by byte %d: %d sums by Adler, %d by CRC", len(s), i, len(adlers), len(crcs))
			}
		}
	}
}

func TestOneByteTellsInLongTexts(t *testing.T) {
	for _, s := range longTexts() {
		adler, crc := sums.Adler(s), sums.CRC(s)
		for _, i := range []int{0, 1, len(s) / 2, len(s) - 2, len(s) - 1} {
			for _, by := range []byte{1, 15, 128, 255} {
				b := []byte(s)
				b[i] += by
				if sums.Adler(string(b)) == adler || sums.CRC(string(b)) == crc {
					t.Errorf("%d bytes: byte %d as %d is not told", len(s), i, b[i])
				}
			}
		}
	}
}

// TestAlikeAgain: an answer hangs on nothing but the arguments.
func TestAlikeAgain(t *testing.T) {
	row := func() (l []uint32) {
		for _, s := range texts() {
			l = append(l, sums.Adler(s), sums.CRC(s), sums.AdlerMore(7, s), sums.AdlerJoin(7, 9, uint64(len(s))), sums.CRCMore(sums.Table(), 7, s))
		}
		return l
	}
	first, again := row(), row()
	for i := range first {
		if first[i] != again[i] {
			t.Error("the same calls answer otherwise")
		}
	}
}
