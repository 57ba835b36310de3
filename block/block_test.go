package block_test

import (
	"bytes"
	"compress/flate"
	"io"
	"math"
	"math/rand/v2"
	"slices"
	"strconv"
	"strings"
	"testing"

	"platen/api"
	"platen/bitw"
	"platen/block"
	"platen/pack"
	"platen/runs"
	"platen/token"
)

const (
	stored  = api.BlockStored
	fixed   = api.BlockFixed
	dynamic = api.BlockDynamic
)

// far is room that no test here comes to the end of.
const far = 1 << 24

func kinds() []uint8 {
	return []uint8{stored, fixed, dynamic}
}

func chance(n uint64) *rand.Rand {
	return rand.New(rand.NewPCG(13, n))
}

func bytesOf(s string) []api.Token {
	var l []api.Token
	for i := range len(s) {
		l = append(l, api.Token{Lit: s[i]})
	}
	return l
}

func match(size, dist int) api.Token {
	return api.Token{Len: size, Dist: dist}
}

// again are tokens that stand so often, one behind the other.
func again(times int, l ...api.Token) []api.Token {
	return slices.Repeat(l, times)
}

// wrong are tokens that may not be.
func wrong() []api.Token {
	return []api.Token{
		match(2, 1), match(259, 1), match(3, 0), match(3, 32769), match(0, 1), match(-3, 1), match(3, -1), match(-1, 0),
		match(math.MinInt, 1), match(math.MaxInt, 1), match(3, math.MinInt), match(3, math.MaxInt),
		{Lit: 'a', Len: 3, Dist: 1}, {Lit: 'a', Len: 3}, {Lit: 'a', Dist: 1},
	}
}

// spoilt are lists with such a token at the first place, at a later one, at the last one, and alone.
func spoilt() [][]api.Token {
	var all [][]api.Token
	good := append(bytesOf("abc"), match(5, 3), match(258, 32768))
	for _, bad := range wrong() {
		all = append(all, []api.Token{bad})
		for _, place := range []int{0, 1, 3, 4, 5} {
			all = append(all, slices.Insert(slices.Clone(good), place, bad))
		}
	}
	return all
}

// The model: rows of 0s and 1s, and RFC 1951's tables.

// low has the bits of n, the lowest one first.
func low(n, size int) string {
	var b strings.Builder
	for range size {
		b.WriteByte('0' + byte(n%2))
		n /= 2
	}
	return b.String()
}

func lowText(s string) string {
	var b strings.Builder
	for i := range len(s) {
		b.WriteString(low(int(s[i]), 8))
	}
	return b.String()
}

// packed is the text whose bits these are, with 0s behind.
func packed(bits string) string {
	var b []byte
	for len(bits) > 0 {
		n := min(8, len(bits))
		sum := 0
		for i := range n {
			sum += int(bits[i]-'0') << i
		}
		b = append(b, byte(sum))
		bits = bits[n:]
	}
	return string(b)
}

var lengthLeast = []int{3, 4, 5, 6, 7, 8, 9, 10, 11, 13, 15, 17, 19, 23, 27, 31, 35, 43, 51, 59, 67, 83, 99, 115, 131, 163, 195, 227, 258}

var lengthBits = []int{0, 0, 0, 0, 0, 0, 0, 0, 1, 1, 1, 1, 2, 2, 2, 2, 3, 3, 3, 3, 4, 4, 4, 4, 5, 5, 5, 5, 0}

var distLeast = []int{1, 2, 3, 4, 5, 7, 9, 13, 17, 25, 33, 49, 65, 97, 129, 193, 257, 385, 513, 769, 1025, 1537, 2049, 3073, 4097, 6145, 8193, 12289, 16385, 24577}

var distBits = []int{0, 0, 0, 0, 1, 1, 2, 2, 3, 3, 4, 4, 5, 5, 6, 6, 7, 7, 8, 8, 9, 9, 10, 10, 11, 11, 12, 12, 13, 13}

var order = []int{16, 17, 18, 0, 8, 7, 9, 6, 10, 5, 11, 4, 12, 3, 13, 2, 14, 1, 15}

// sign is a symbol, of distances or not, and the bits behind its code.
type sign struct {
	dist    bool
	sym     int
	besides string
}

// place is the last row whose least is not above n.
func place(least []int, n int) int {
	at := 0
	for i, first := range least {
		if first <= n {
			at = i
		}
	}
	return at
}

func signs(l []api.Token) []sign {
	var all []sign
	for _, t := range l {
		if t.Len == 0 {
			all = append(all, sign{sym: int(t.Lit)})
			continue
		}
		i, j := place(lengthLeast, t.Len), place(distLeast, t.Dist)
		all = append(all, sign{sym: 257 + i, besides: low(t.Len-lengthLeast[i], lengthBits[i])})
		all = append(all, sign{dist: true, sym: j, besides: low(t.Dist-distLeast[j], distBits[j])})
	}
	return append(all, sign{sym: 256})
}

func countSigns(l []api.Token) (lit, dist []int) {
	lit, dist = make([]int, 286), make([]int, 30)
	for _, s := range signs(l) {
		if s.dist {
			dist[s.sym]++
		} else {
			lit[s.sym]++
		}
	}
	return lit, dist
}

func modelFixed() api.Codes {
	var c api.Codes
	for sym := range 288 {
		switch {
		case sym <= 143, sym >= 280:
			c.Lit = append(c.Lit, 8)
		case sym <= 255:
			c.Lit = append(c.Lit, 9)
		default:
			c.Lit = append(c.Lit, 7)
		}
	}
	for range 30 {
		c.Dist = append(c.Dist, 5)
	}
	return c
}

func modelBest(l []api.Token) api.Codes {
	lit, dist := countSigns(l)
	var c api.Codes
	c.Lit, _ = pack.Lens(lit, 15)
	c.Dist, _ = pack.Lens(dist, 15)
	return c
}

// codes are written with their first bit first: numbers, counted up by rising lengths.
func codes(lens []uint8) []string {
	all := make([]string, len(lens))
	next := 0
	for size := 1; size <= 15; size++ {
		next *= 2
		for sym, n := range lens {
			if int(n) == size {
				bits := strconv.FormatInt(int64(next), 2)
				all[sym] = strings.Repeat("0", size-len(bits)) + bits
				next++
			}
		}
	}
	return all
}

// whole is what piece stands for that is bits 0 up to a whole byte.
const whole = "whole"

// toldOf is how many are told: up to the last one that is not 0, but least at least.
func toldOf(lens []uint8, least int) int {
	told := least
	for i, n := range lens {
		if n > 0 {
			told = max(told, i+1)
		}
	}
	return told
}

// modelTables are the pieces that tell a dynamic block's codes.
func modelTables(c api.Codes) []string {
	lit, dist := toldOf(c.Lit, 257), toldOf(c.Dist, 1)
	list, _ := runs.Pack(slices.Concat(c.Lit[:lit], c.Dist[:dist]))
	counts := make([]int, 19)
	for _, r := range list {
		counts[r.Sym]++
	}
	lens, _ := pack.Lens(counts, 7)
	var ordered []uint8
	for _, sym := range order {
		ordered = append(ordered, lens[sym])
	}
	told := toldOf(ordered, 4)
	all := []string{low(lit-257, 5), low(dist-1, 5), low(told-4, 4)}
	for _, n := range ordered[:told] {
		all = append(all, low(int(n), 3))
	}
	writes := codes(lens)
	for _, r := range list {
		size := 0
		switch r.Sym {
		case 16:
			size = 2
		case 17:
			size = 3
		case 18:
			size = 7
		}
		all = append(all, writes[r.Sym], low(int(r.Extra), size))
	}
	return all
}

func headOf(kind uint8, last bool) []string {
	if last {
		return []string{"1", low(int(kind), 2)}
	}
	return []string{"0", low(int(kind), 2)}
}

func modelStored(raw string, last bool) []string {
	var all []string
	for {
		n := min(len(raw), 65535)
		ends := n == len(raw)
		all = append(all, headOf(stored, last && ends)...)
		all = append(all, whole, low(n, 16), low(65535-n, 16), lowText(raw[:n]))
		raw = raw[n:]
		if ends {
			return all
		}
	}
}

// modelPieces are a block's bits, in the pieces that the chapter names.
func modelPieces(kind uint8, l []api.Token, raw string, last bool) []string {
	if kind == stored {
		return modelStored(raw, last)
	}
	all := headOf(kind, last)
	c := modelFixed()
	if kind == dynamic {
		c = modelBest(l)
		all = append(all, modelTables(c)...)
	}
	lit, dist := codes(c.Lit), codes(c.Dist)
	for _, s := range signs(l) {
		code := lit[s.sym]
		if s.dist {
			code = dist[s.sym]
		}
		all = append(all, code, s.besides)
	}
	return all
}

// joined are pieces behind so many bits, as far as there is room for them in so many bytes, and whether there is for all.
func joined(pieces []string, ahead, room int) (string, bool) {
	var b strings.Builder
	for _, p := range pieces {
		if p == whole {
			p = strings.Repeat("0", (8-(ahead+b.Len())%8)%8)
		}
		if ahead+b.Len()+len(p) > 8*room {
			return b.String(), false
		}
		b.WriteString(p)
	}
	return b.String(), true
}

// begun is a writer with so many bits ahead.
func begun(t *testing.T, room, ahead int) (*bitw.Writer, string) {
	t.Helper()
	w, have := bitw.New(room), ""
	for i := range ahead {
		n := i * i / 3 % 2
		if e := w.Bits(uint64(n), 1); e != api.OK {
			t.Fatal("a bit ahead:", e)
		}
		have += low(n, 1)
	}
	return w, have
}

func holds(t *testing.T, what string, w *bitw.Writer, bits string) {
	t.Helper()
	if w.Len() != len(bits) {
		t.Fatalf("%s: %d bits, not %d", what, w.Len(), len(bits))
	}
	if w.Text() != packed(bits) {
		t.Fatalf("%s: other bits", what)
	}
}

// isSize holds what is answered, and that the tokens stay.
func isSize(t *testing.T, kind uint8, l []api.Token, raw string, at, want int, wantE api.Errno) {
	t.Helper()
	kept := slices.Clone(l)
	n, e := block.Size(kind, l, raw, at)
	if n != want || e != wantE {
		t.Errorf("Size of kind %d, %d tokens, %d bytes, at %d: %d, %d, not %d, %d", kind, len(l), len(raw), at, n, e, want, wantE)
	}
	if !slices.Equal(l, kept) {
		t.Errorf("Size changed %v to %v", kept, l)
	}
}

// isBlock holds a block bit by bit, behind so many bits, and its size.
func isBlock(t *testing.T, kind uint8, l []api.Token, raw string, ahead int, last bool) {
	t.Helper()
	want, _ := joined(modelPieces(kind, l, raw, last), ahead, far)
	w, have := begun(t, far, ahead)
	kept := slices.Clone(l)
	if e := block.Write(w, kind, l, raw, last); e != api.OK {
		t.Fatalf("Write of kind %d: %d", kind, e)
	}
	if !slices.Equal(l, kept) {
		t.Fatalf("Write changed %v to %v", kept, l)
	}
	holds(t, "behind a block", w, have+want)
	isSize(t, kind, l, raw, ahead, len(want), api.OK)
}

func isEachBlock(t *testing.T, l []api.Token, raw string) {
	t.Helper()
	for _, kind := range kinds() {
		for _, last := range []bool{false, true} {
			for _, ahead := range []int{0, 1, 4, 5, 6, 7, 8, 9, 13} {
				isBlock(t, kind, l, raw, ahead, last)
			}
		}
	}
}

func isBest(t *testing.T, l []api.Token, want api.Codes, wantE api.Errno) {
	t.Helper()
	kept := slices.Clone(l)
	c, e := block.Best(l)
	if !slices.Equal(c.Lit, want.Lit) || !slices.Equal(c.Dist, want.Dist) || e != wantE {
		t.Errorf("Best of %d tokens: %v, %d, not %v, %d", len(l), c, e, want, wantE)
	}
	if !slices.Equal(l, kept) {
		t.Errorf("Best changed %v to %v", kept, l)
	}
}

// lensBy has these lengths, and else 0.
func lensBy(count int, some map[int]uint8) []uint8 {
	lens := make([]uint8, count)
	for sym, n := range some {
		lens[sym] = n
	}
	return lens
}

func codesBy(lit, dist map[int]uint8) api.Codes {
	return api.Codes{Lit: lensBy(286, lit), Dist: lensBy(30, dist)}
}

// someTokens are by chance: few or many kinds of bytes, no distances, one, or many.
func someTokens(r *rand.Rand, count int) []api.Token {
	kindsOf := 1 + r.IntN(256)
	matches := r.IntN(3)
	size, dist := 3+r.IntN(256), 1+r.IntN(32768)
	var l []api.Token
	for range count {
		switch {
		case matches == 0 || r.IntN(3) == 0:
			// Lesser bytes stand there more often, so that codes have unlike lengths.
			l = append(l, api.Token{Lit: byte(r.IntN(1 + r.IntN(kindsOf)))})
		case matches == 1:
			l = append(l, match(size, dist))
		default:
			l = append(l, match(3+r.IntN(1+r.IntN(256)), 1+r.IntN(1+r.IntN(32768))))
		}
	}
	return l
}

func someText(r *rand.Rand, size int) string {
	b := make([]byte, size)
	for i := range b {
		b[i] = byte(r.IntN(256))
	}
	return string(b)
}

// The chapter's examples.

func TestExamples(t *testing.T) {
	isSize(t, fixed, nil, "", 0, 10, api.OK)
	isSize(t, stored, nil, "abc", 0, 64, api.OK)
}

// P13.1

func TestFixed(t *testing.T) {
	c := block.Fixed()
	if len(c.Lit) != 288 || len(c.Dist) != 30 {
		t.Fatalf("%d, %d lengths", len(c.Lit), len(c.Dist))
	}
	for sym, want := range map[int]uint8{0: 8, 143: 8, 144: 9, 255: 9, 256: 7, 279: 7, 280: 8, 287: 8} {
		if c.Lit[sym] != want {
			t.Errorf("of %d: %d, not %d", sym, c.Lit[sym], want)
		}
	}
	want := modelFixed()
	if !slices.Equal(c.Lit, want.Lit) || !slices.Equal(c.Dist, want.Dist) {
		t.Errorf("%v, not %v", c, want)
	}
}

func TestOrder(t *testing.T) {
	l := block.Order()
	if len(l) != len(order) {
		t.Fatalf("%d symbols", len(l))
	}
	for i, sym := range l {
		if int(sym) != order[i] {
			t.Errorf("at %d: %d, not %d", i, sym, order[i])
		}
	}
}

// R5: what is answered is nobody else's, and the same again.
func TestAnswersAreNewMemory(t *testing.T) {
	l := append(bytesOf("abca"), match(3, 3), match(258, 32768))
	want, e := block.Best(l)
	if e != api.OK {
		t.Fatal(e)
	}
	want = api.Codes{Lit: slices.Clone(want.Lit), Dist: slices.Clone(want.Dist)}
	for range 2 {
		f, o := block.Fixed(), block.Order()
		b, _ := block.Best(l)
		for _, list := range [][]uint8{f.Lit, f.Dist, o, b.Lit, b.Dist} {
			// Behind its end too: there might stand another list.
			list = list[:cap(list)]
			for i := range list {
				list[i] = 77
			}
		}
	}
	TestFixed(t)
	TestOrder(t)
	isBest(t, l, want, api.OK)
	f := block.Fixed()
	clear(f.Lit[:cap(f.Lit)])
	if !slices.Equal(f.Dist, modelFixed().Dist) {
		t.Error("both lists of Fixed share memory")
	}
	b, _ := block.Best(l)
	clear(b.Lit[:cap(b.Lit)])
	if !slices.Equal(b.Dist, want.Dist) {
		t.Error("both lists of Best share memory")
	}
}

func TestBestByHand(t *testing.T) {
	isBest(t, nil, codesBy(map[int]uint8{256: 1}, nil), api.OK)
	isBest(t, []api.Token{}, codesBy(map[int]uint8{256: 1}, nil), api.OK)
	isBest(t, bytesOf("\x00"), codesBy(map[int]uint8{0: 1, 256: 1}, nil), api.OK)
	isBest(t, bytesOf("a"), codesBy(map[int]uint8{'a': 1, 256: 1}, nil), api.OK)
	isBest(t, bytesOf("\xFF\xFF"), codesBy(map[int]uint8{255: 1, 256: 1}, nil), api.OK)
	isBest(t, bytesOf("aabbb"), codesBy(map[int]uint8{'a': 2, 'b': 1, 256: 2}, nil), api.OK)
	isBest(t, []api.Token{match(3, 1)}, codesBy(map[int]uint8{257: 1, 256: 1}, map[int]uint8{0: 1}), api.OK)
	isBest(t, []api.Token{match(258, 32768)}, codesBy(map[int]uint8{285: 1, 256: 1}, map[int]uint8{29: 1}), api.OK)
	// Of one distance the code has a bit, however often it stands there.
	isBest(t, again(9, match(3, 5), match(3, 6)), codesBy(map[int]uint8{257: 1, 256: 1}, map[int]uint8{4: 1}), api.OK)
	// Of both ends: the lengths are alike often, EndSymbol is less so, and of these the lesser symbol counts as the first.
	ends := again(2, match(3, 1), match(258, 32768))
	isBest(t, ends, codesBy(map[int]uint8{256: 2, 257: 2, 285: 1}, map[int]uint8{0: 1, 29: 1}), api.OK)
	// 257 symbols alike: two have one bit more than the others, the first ones.
	all := map[int]uint8{}
	for sym := range 257 {
		all[sym] = 8
	}
	all[0], all[1] = 9, 9
	var bytes []api.Token
	for n := range 256 {
		bytes = append(bytes, api.Token{Lit: byte(n)})
	}
	isBest(t, bytes, codesBy(all, nil), api.OK)
}

// Codes end at MaxBits, though each byte, and each distance, stands there as often as all ahead together.
func TestBestHasNoLongerCodes(t *testing.T) {
	l := rising(19)
	for n := range 19 {
		l = append(l, again(1<<n, match(3, distLeast[n]))...)
	}
	isBest(t, l, modelBest(l), api.OK)
	c, _ := block.Best(l)
	if slices.Max(c.Lit) != 15 || slices.Max(c.Dist) != 15 {
		t.Errorf("up to %d, %d bits", slices.Max(c.Lit), slices.Max(c.Dist))
	}
}

func TestBestOfEachNumber(t *testing.T) {
	for n := range 256 {
		l := append(bytesOf(string([]byte{byte(n)})), match(10, 10), match(10, 10))
		isBest(t, l, modelBest(l), api.OK)
	}
	for n := 3; n <= 258; n++ {
		l := again(2, match(n, 4))
		isBest(t, l, modelBest(l), api.OK)
	}
	for n := 1; n <= 32768; n += 1 + n/17 {
		l := []api.Token{match(9, n), match(9, 32769-n), {Lit: 200}}
		isBest(t, l, modelBest(l), api.OK)
	}
}

func TestBestByChance(t *testing.T) {
	r := chance(1)
	for range 400 {
		l := someTokens(r, r.IntN(1+r.IntN(3000)))
		isBest(t, l, modelBest(l), api.OK)
	}
}

func TestBestRefuses(t *testing.T) {
	for _, l := range spoilt() {
		isBest(t, l, api.Codes{}, api.ErrArg)
	}
	long := append(again(5000, api.Token{Lit: 'a'}), match(2, 1))
	isBest(t, long, api.Codes{}, api.ErrArg)
	isBest(t, long[:5000], codesBy(map[int]uint8{'a': 1, 256: 1}, nil), api.OK)
}

// P13.2: Size

func TestSizeByHand(t *testing.T) {
	for _, at := range []int{0, 1, 7, 8, 9, math.MaxInt - 1, math.MaxInt} {
		isSize(t, fixed, nil, "", at, 10, api.OK)
		isSize(t, fixed, bytesOf("a"), "", at, 18, api.OK)
		isSize(t, fixed, bytesOf("\x8f\x90"), "", at, 27, api.OK)
		isSize(t, fixed, []api.Token{match(3, 1)}, "", at, 22, api.OK)
		isSize(t, fixed, []api.Token{match(114, 1)}, "", at, 26, api.OK)
		isSize(t, fixed, []api.Token{match(115, 1)}, "", at, 27, api.OK)
		isSize(t, fixed, []api.Token{match(258, 32768)}, "", at, 36, api.OK)
		// 14 bits of numbers, 18 lengths of three; 18 (a bit, and 7) twice, 1 and 0 (two bits each); EndSymbol.
		isSize(t, dynamic, nil, "", at, 3+14+54+16+4+1, api.OK)
	}
	for at, want := range map[int]int{
		0: 64, 1: 63, 2: 62, 3: 61, 4: 60, 5: 59, 6: 66, 7: 65, 8: 64, 9: 63, 1 << 40: 64,
		math.MaxInt - 2: 59, math.MaxInt - 1: 66, math.MaxInt: 65,
	} {
		isSize(t, stored, nil, "abc", at, want, api.OK)
		isSize(t, stored, nil, "", at, want-24, api.OK)
	}
}

func TestSizeOfManyBytes(t *testing.T) {
	most := strings.Repeat("x", api.MaxText)
	for n, blocks := range map[int]int{
		0: 1, 1: 1, api.MaxStored - 1: 1, api.MaxStored: 1, api.MaxStored + 1: 2,
		2*api.MaxStored - 1: 2, 2 * api.MaxStored: 2, 2*api.MaxStored + 1: 3, 3 * api.MaxStored: 3,
		api.MaxText - 1: 17, api.MaxText: 17,
	} {
		for at, first := range map[int]int{0: 40, 1: 39, 5: 35, 6: 42, 7: 41, 8: 40, 9: 39} {
			isSize(t, stored, nil, most[:n], at, first+40*(blocks-1)+8*n, api.OK)
			isSize(t, fixed, bytesOf("ab"), most[:n], at, 26, api.OK)
			isSize(t, dynamic, nil, most[:n], at, 92, api.OK)
		}
	}
}

// Of each kind: that raw has a limit hangs on no kind, though how many bits there are hangs on it of stored blocks alone.
func TestSizeOfTooManyBytes(t *testing.T) {
	long := strings.Repeat("x", api.MaxText+1)
	for _, kind := range kinds() {
		for _, at := range []int{0, 1, 7, math.MaxInt} {
			for _, raw := range []string{long, long + long} {
				isSize(t, kind, nil, raw, at, 0, api.ErrLong)
				isSize(t, kind, bytesOf("a"), raw, at, 0, api.ErrLong)
			}
		}
	}
}

func TestSizeAsksForAKind(t *testing.T) {
	for kind := 3; kind < 256; kind++ {
		for _, at := range []int{0, 1, 7, 8, 9, -1, math.MinInt} {
			isSize(t, uint8(kind), nil, "", at, 0, api.ErrArg)
			isSize(t, uint8(kind), bytesOf("a"), "a", at, 0, api.ErrArg)
		}
	}
}

func TestSizeAsksForAPlace(t *testing.T) {
	for _, kind := range kinds() {
		for _, at := range []int{-1, -2, -7, -8, -9, -1 << 32, math.MinInt + 1, math.MinInt} {
			isSize(t, kind, nil, "", at, 0, api.ErrArg)
			isSize(t, kind, bytesOf("abc"), "abc", at, 0, api.ErrArg)
		}
	}
}

func TestSizeAsksForTokens(t *testing.T) {
	for _, l := range spoilt() {
		isSize(t, fixed, l, "", 0, 0, api.ErrArg)
		isSize(t, dynamic, l, "", 0, 0, api.ErrArg)
		// Tokens are asked of the others alone.
		isSize(t, stored, l, "abc", 0, 64, api.OK)
	}
}

// Of two errors or more ErrArg is the one that the promise names first; but a stored block has no error by its tokens.
func TestSizeOfSeveralErrors(t *testing.T) {
	long := strings.Repeat("x", api.MaxText+1)
	for _, kind := range []uint8{stored, fixed, dynamic, 3, 255} {
		isSize(t, kind, nil, long, -1, 0, api.ErrArg)
		isSize(t, kind, nil, long, math.MinInt, 0, api.ErrArg)
	}
	isSize(t, 3, nil, long, 0, 0, api.ErrArg)
	isSize(t, 255, nil, long, 0, 0, api.ErrArg)
	for _, bad := range spoilt() {
		for _, kind := range []uint8{fixed, dynamic, 3, 255} {
			isSize(t, kind, bad, long, 0, 0, api.ErrArg)
		}
		for _, kind := range []uint8{stored, fixed, dynamic, 3, 255} {
			isSize(t, kind, bad, "", -1, 0, api.ErrArg)
			isSize(t, kind, bad, long, -1, 0, api.ErrArg)
		}
		isSize(t, stored, bad, long, 0, 0, api.ErrLong)
	}
}

// P13.2: Write

func TestWriteByHand(t *testing.T) {
	for _, c := range []struct {
		kind uint8
		l    []api.Token
		raw  string
		last bool
		want string
	}{
		{stored, nil, "", true, "\x01\x00\x00\xff\xff"},
		{stored, nil, "", false, "\x00\x00\x00\xff\xff"},
		{stored, nil, "abc", true, "\x01\x03\x00\xfc\xffabc"},
		{stored, bytesOf("xyz"), "abc", false, "\x00\x03\x00\xfc\xffabc"},
		{fixed, nil, "", true, "\x03\x00"},
		{fixed, nil, "abc", false, "\x02\x00"},
		{fixed, bytesOf("a"), "", true, "\x4b\x04\x00"},
		{fixed, append(bytesOf("aa"), match(8, 1)), "", true, "\x4b\x4c\x84\x01\x00"},
		{dynamic, nil, "", true, packed("101" + "00000" + "00000" + "0111" +
			"000" + "000" + "100" + "010" + strings.Repeat("000", 13) + "010" +
			"0" + "1111111" + "0" + "1101011" + "11" + "10" + "0")},
	} {
		w := bitw.New(far)
		if e := block.Write(w, c.kind, c.l, c.raw, c.last); e != api.OK {
			t.Errorf("kind %d: %d", c.kind, e)
		}
		if w.Text() != c.want {
			t.Errorf("kind %d: %x, not %x", c.kind, w.Text(), c.want)
		}
	}
}

// The fixed codes of RFC 1951, and bits besides behind them.
func TestWriteFixedByHand(t *testing.T) {
	for _, c := range []struct {
		t    api.Token
		want string
	}{
		{api.Token{Lit: 0}, "00110000"},
		{api.Token{Lit: 143}, "10111111"},
		{api.Token{Lit: 144}, "110010000"},
		{api.Token{Lit: 255}, "111111111"},
		{match(3, 1), "0000001" + "00000"},
		{match(10, 4), "0001000" + "00011"},
		{match(11, 5), "0001001" + "0" + "00100" + "0"},
		{match(12, 6), "0001001" + "1" + "00100" + "1"},
		{match(114, 192), "0010111" + "1111" + "01110" + "111111"},
		{match(115, 193), "11000000" + "0000" + "01111" + "000000"},
		{match(257, 32767), "11000100" + "01111" + "11101" + "0111111111111"},
		{match(258, 32768), "11000101" + "11101" + "1111111111111"},
	} {
		w := bitw.New(far)
		if e := block.Write(w, fixed, []api.Token{c.t}, "", false); e != api.OK {
			t.Error(e)
		}
		holds(t, "a token", w, "010"+c.want+"0000000")
	}
}

func TestWriteByKinds(t *testing.T) {
	for _, l := range [][]api.Token{
		nil,
		bytesOf("a"),
		bytesOf("she sells sea shells by the sea shore"),
		{match(3, 1)},
		{match(258, 32768)},
		again(40, match(3, 7)),
		again(3, match(3, 1), match(258, 32768)),
		append(bytesOf("abc"), match(6, 3), match(100, 9), api.Token{Lit: 255}),
	} {
		raw, _ := token.Text(strings.Repeat("?", 32768), l)
		isEachBlock(t, l, raw)
	}
}

func TestWriteOfEachToken(t *testing.T) {
	for n := range 256 {
		isBlock(t, fixed, bytesOf(string([]byte{byte(n)})), "", n%8, n%2 == 0)
		isBlock(t, dynamic, bytesOf(string([]byte{byte(n)})), "", n%8, n%2 == 0)
	}
	for n := 3; n <= 258; n++ {
		isBlock(t, fixed, []api.Token{match(n, 259-n)}, "", n%8, n%2 == 0)
		isBlock(t, dynamic, []api.Token{match(n, 259-n)}, "", n%8, n%2 == 0)
	}
	for n := 1; n <= 32768; n += 1 + n/40 {
		isBlock(t, fixed, []api.Token{match(3, n), match(3, 32769-n)}, "", n%8, n%2 == 0)
		isBlock(t, dynamic, []api.Token{match(3, n), match(3, 32769-n)}, "", n%8, n%2 == 0)
	}
}

func TestWriteByChance(t *testing.T) {
	r := chance(2)
	for range 700 {
		l := someTokens(r, r.IntN(1+r.IntN(1500)))
		for _, kind := range kinds() {
			isBlock(t, kind, l, someText(r, r.IntN(300)), r.IntN(17), r.IntN(2) == 0)
		}
	}
}

// Stored blocks of more bytes than one may have: the last one alone is the last one.
func TestWriteStoredInBlocks(t *testing.T) {
	text := someText(chance(3), api.MaxText)
	for _, n := range []int{1, api.MaxStored - 1, api.MaxStored, api.MaxStored + 1, 2*api.MaxStored - 1, 2 * api.MaxStored, 2*api.MaxStored + 1} {
		for _, ahead := range []int{0, 3, 5, 6, 8} {
			for _, last := range []bool{false, true} {
				isBlock(t, stored, nil, text[:n], ahead, last)
			}
		}
	}
	isBlock(t, stored, nil, text, 7, true)
	w := bitw.New(far)
	block.Write(w, stored, nil, text[:2*api.MaxStored], true)
	block.Write(w, stored, nil, "", false)
	got, second, third := w.Text(), api.MaxStored+5, 2*api.MaxStored+10
	if got[0] != 0 || got[second] != 1 || got[third] != 0 || len(got) != third+5 {
		t.Errorf("heads %d, %d, %d of %d bytes", got[0], got[second], got[third], len(got))
	}
}

func TestWriteWithoutAWriter(t *testing.T) {
	long := strings.Repeat("x", api.MaxText+1)
	for _, w := range []*bitw.Writer{nil, {}, new(bitw.Writer)} {
		for _, kind := range []uint8{stored, fixed, dynamic, 3, 255} {
			for _, l := range [][]api.Token{nil, bytesOf("a"), {match(2, 1)}} {
				for _, raw := range []string{"", "a", long} {
					if e := block.Write(w, kind, l, raw, true); e != api.ErrNil {
						t.Errorf("kind %d: %d", kind, e)
					}
				}
			}
		}
		if w.Len() != 0 || w.Text() != "" {
			t.Error("something was written")
		}
	}
}

// What Size refuses, Write refuses, room or not, and writes nothing.
func TestWriteRefuses(t *testing.T) {
	long := strings.Repeat("x", api.MaxText+1)
	for _, room := range []int{1, far} {
		for _, ahead := range []int{0, 5, 8} {
			w, have := begun(t, room, ahead)
			refused := func(kind uint8, l []api.Token, raw string, want api.Errno) {
				t.Helper()
				for _, last := range []bool{false, true} {
					if e := block.Write(w, kind, l, raw, last); e != want {
						t.Errorf("kind %d: %d, not %d", kind, e, want)
					}
				}
				holds(t, "behind what was refused", w, have)
			}
			refused(3, nil, "", api.ErrArg)
			refused(255, nil, "", api.ErrArg)
			refused(3, nil, long, api.ErrArg)
			for _, kind := range kinds() {
				refused(kind, nil, long, api.ErrLong)
				refused(kind, bytesOf("a"), long, api.ErrLong)
			}
			refused(stored, []api.Token{match(2, 1)}, long, api.ErrLong)
			for _, l := range spoilt() {
				refused(fixed, l, "", api.ErrArg)
				refused(dynamic, l, "", api.ErrArg)
				refused(fixed, l, long, api.ErrArg)
				refused(dynamic, l, long, api.ErrArg)
			}
		}
	}
}

// Each kind asks for what it is made of alone.
func TestWriteTakesWhatIsNotAsked(t *testing.T) {
	for _, l := range spoilt()[:20] {
		isStored := func(ahead int) {
			want, _ := joined(modelPieces(stored, nil, "abc", true), ahead, far)
			w, have := begun(t, far, ahead)
			if e := block.Write(w, stored, l, "abc", true); e != api.OK {
				t.Error(e)
			}
			holds(t, "stored", w, have+want)
		}
		isStored(0)
		isStored(6)
	}
	other := strings.Repeat("x", api.MaxText)
	isBlock(t, fixed, bytesOf("abc"), other, 3, true)
	isBlock(t, dynamic, bytesOf("abc"), other, 3, false)
}

// Of each room less than the block has need of, the pieces stay that have room ahead of the first one that has none.
func TestWriteRoom(t *testing.T) {
	lists := [][]api.Token{
		nil,
		bytesOf("ab\xFF"),
		append(bytesOf("abc"), match(6, 3), match(131, 30000), match(258, 32768), api.Token{Lit: 255}),
	}
	for i, l := range lists {
		raw := []string{"", "a", "she sells sea shells"}[i]
		for _, kind := range kinds() {
			for ahead := range 18 {
				pieces := modelPieces(kind, l, raw, i%2 == 0)
				all, _ := joined(pieces, ahead, far)
				need := (ahead + len(all) + 7) / 8
				for room := (ahead + 7) / 8; room <= need+1; room++ {
					want, fits := joined(pieces, ahead, room)
					w, have := begun(t, room, ahead)
					e := block.Write(w, kind, l, raw, i%2 == 0)
					if fits != (room >= need) || fits && e != api.OK || !fits && e != api.ErrFull {
						t.Fatalf("kind %d, room %d of %d: %d", kind, room, need, e)
					}
					holds(t, "with so much room", w, have+want)
				}
			}
		}
	}
}

func TestWriteWithoutRoom(t *testing.T) {
	for _, room := range []int{math.MinInt, -1, 0} {
		for _, kind := range kinds() {
			w := bitw.New(room)
			if e := block.Write(w, kind, nil, "", true); e != api.ErrFull {
				t.Errorf("kind %d: %d", kind, e)
			}
			holds(t, "without room", w, "")
		}
	}
}

// A block behind others that had no room finds what is left.
func TestWriteRoomOfManyBytes(t *testing.T) {
	text := someText(chance(4), 2*api.MaxStored+9)
	pieces := modelPieces(stored, nil, text, true)
	need := len(text) + 15
	for _, room := range []int{0, 1, 4, 5, api.MaxStored, api.MaxStored + 4, api.MaxStored + 5, api.MaxStored + 6, need - 10, need - 1, need, need + 1} {
		want, fits := joined(pieces, 0, room)
		w := bitw.New(room)
		e := block.Write(w, stored, nil, text, true)
		if fits != (room >= need) || fits && e != api.OK || !fits && e != api.ErrFull {
			t.Errorf("room %d of %d: %d", room, need, e)
		}
		holds(t, "with so much room", w, want)
	}
	w := bitw.New(7)
	if e := block.Write(w, stored, nil, "abc", false); e != api.ErrFull {
		t.Error(e)
	}
	holds(t, "a head", w, "00000000"+low(3, 16)+low(65532, 16))
	if e := block.Write(w, fixed, nil, "", true); e != api.OK {
		t.Error(e)
	}
	holds(t, "and a block behind", w, "00000000"+low(3, 16)+low(65532, 16)+"1100000000")
}

// How far a dynamic block's lists are told.

// told is how many lengths of each list a dynamic block tells.
func told(t *testing.T, l []api.Token) (lit, dist, lens int) {
	t.Helper()
	w := bitw.New(far)
	if e := block.Write(w, dynamic, l, "", true); e != api.OK {
		t.Fatal(e)
	}
	bits := lowText(w.Text())
	number := func(from, size int) int {
		n, _ := strconv.ParseInt(turned(bits[from:from+size]), 2, 64)
		return int(n)
	}
	return 257 + number(3, 5), 1 + number(8, 5), 4 + number(13, 4)
}

func turned(bits string) string {
	b := []byte(bits)
	slices.Reverse(b)
	return string(b)
}

func isTold(t *testing.T, l []api.Token, wantLit, wantDist, wantLens int) {
	t.Helper()
	lit, dist, lens := told(t, l)
	if lit != wantLit || dist != wantDist || lens != wantLens {
		t.Errorf("%d, %d, %d lengths told, not %d, %d, %d", lit, dist, lens, wantLit, wantDist, wantLens)
	}
	isBlock(t, dynamic, l, "", 0, true)
}

// eights are 256 symbols alike, EndSymbol among them: their codes have eight bits.
func eights() []api.Token {
	var l []api.Token
	for n := range 255 {
		l = append(l, api.Token{Lit: byte(n)})
	}
	return l
}

// rising are bytes each of which stands there as often as all ahead together: their codes have from one bit on to the most that may be.
func rising(kinds int) []api.Token {
	l := []api.Token{}
	for n := range kinds {
		l = append(l, again(1<<n, api.Token{Lit: byte(n)})...)
	}
	return l
}

func TestHowFarListsAreTold(t *testing.T) {
	// Lengths of 0 and 1: symbol 1 is the last one but one in the order.
	isTold(t, nil, 257, 1, 18)
	isTold(t, bytesOf("a"), 257, 1, 18)
	isTold(t, []api.Token{match(3, 1)}, 258, 1, 18)
	isTold(t, []api.Token{match(4, 2)}, 259, 2, 18)
	isTold(t, []api.Token{match(257, 24576)}, 285, 29, 18)
	isTold(t, []api.Token{match(258, 32768)}, 286, 30, 18)
	isTold(t, []api.Token{match(258, 1)}, 286, 1, 18)
	isTold(t, []api.Token{match(3, 32768)}, 258, 30, 18)
	// Lengths of 0 and 8 alone: symbol 8 is the fifth in the order.
	isTold(t, eights(), 257, 1, 5)
	// Lengths up to 15, which is the last one.
	isTold(t, rising(15), 257, 1, 19)
	isTold(t, rising(14), 257, 1, 18)
	isTold(t, append(rising(15), match(258, 32768)), 286, 30, 19)
}

func TestHowFarListsAreToldByChance(t *testing.T) {
	r := chance(5)
	for range 300 {
		l := someTokens(r, r.IntN(400))
		c := modelBest(l)
		lit, dist, _ := told(t, l)
		if lit != toldOf(c.Lit, 257) || dist != toldOf(c.Dist, 1) {
			t.Errorf("%d, %d lengths told", lit, dist)
		}
	}
}

// P13.3

// Best codes take no more bits for symbols than the fixed ones.
func TestBestCodesAreNoWorse(t *testing.T) {
	weigh := func(counts []int, lens []uint8) int {
		n := 0
		for sym, times := range counts {
			n += times * int(lens[sym])
		}
		return n
	}
	r := chance(6)
	lists := [][]api.Token{nil, bytesOf("a"), eights(), rising(15), {match(3, 1)}}
	for range 500 {
		lists = append(lists, someTokens(r, r.IntN(1+r.IntN(2000))))
	}
	f := block.Fixed()
	for _, l := range lists {
		lit, dist := countSigns(l)
		b, _ := block.Best(l)
		if weigh(lit, b.Lit) > weigh(lit, f.Lit) || weigh(dist, b.Dist) > weigh(dist, f.Dist) {
			t.Errorf("the best codes of %d tokens are worse than the fixed ones", len(l))
		}
		for sym, times := range lit {
			if times > 0 != (b.Lit[sym] > 0) {
				t.Errorf("symbol %d stands there %d times: length %d", sym, times, b.Lit[sym])
			}
		}
	}
}

// What is written, one block behind the other, is as many bits as Size says, and is read by Go's own reader as the text of all.
func TestBlocksAreRead(t *testing.T) {
	r := chance(7)
	for range 120 {
		w := bitw.New(far)
		text := ""
		count := 1 + r.IntN(5)
		for i := range count {
			l := ownTokens(r, r.IntN(300), len(text))
			all, e := token.Text(text, l)
			if e != api.OK {
				t.Fatal(e)
			}
			kind := uint8(r.IntN(3))
			size, e := block.Size(kind, l, all, w.Len())
			if e != api.OK {
				t.Fatal(e)
			}
			before := w.Len()
			if e := block.Write(w, kind, l, all, i == count-1); e != api.OK || w.Len()-before != size {
				t.Fatalf("%d, %d bits, not %d", e, w.Len()-before, size)
			}
			text += all
		}
		isRead(t, w.Text(), text)
	}
}

// ownTokens reach no further ahead than there is.
func ownTokens(r *rand.Rand, count, ahead int) []api.Token {
	l := someTokens(r, count)
	for i := range l {
		if l[i].Dist > ahead {
			l[i] = api.Token{Lit: byte(l[i].Dist)}
		}
		ahead += max(1, l[i].Len)
	}
	return l
}

func isRead(t *testing.T, stream, want string) {
	t.Helper()
	got, err := io.ReadAll(flate.NewReader(bytes.NewReader([]byte(stream))))
	if err != nil || string(got) != want {
		t.Fatalf("%d bytes are read, not %d: %v", len(got), len(want), err)
	}
}

func TestManyBytesAreRead(t *testing.T) {
	text := someText(chance(8), api.MaxText)
	l := bytesOf(text)
	for _, kind := range kinds() {
		w := bitw.New(far)
		size, _ := block.Size(kind, l, text, 0)
		if e := block.Write(w, kind, l, text, true); e != api.OK || w.Len() != size {
			t.Fatalf("kind %d: %d, %d bits, not %d", kind, e, w.Len(), size)
		}
		isRead(t, w.Text(), text)
	}
}

// R6: nothing is kept from call to call.
func TestTheSameAgain(t *testing.T) {
	l := append(bytesOf("abcabd"), match(6, 3), match(200, 5))
	raw, _ := token.Text("", l)
	for _, kind := range kinds() {
		first := bitw.New(far)
		block.Write(first, kind, l, raw, true)
		block.Write(bitw.New(3), fixed, bytesOf("zzz"), "", false)
		block.Size(dynamic, bytesOf("zzz"), "", 0)
		second := bitw.New(far)
		block.Write(second, kind, l, raw, true)
		if first.Text() != second.Text() || first.Len() != second.Len() {
			t.Errorf("kind %d: other bits", kind)
		}
	}
}
