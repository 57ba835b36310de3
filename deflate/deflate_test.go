package deflate_test

import (
	"bytes"
	"compress/flate"
	"io"
	"math"
	"math/rand/v2"
	"slices"
	"sort"
	"strings"
	"testing"

	"platen/api"
	"platen/bitw"
	"platen/block"
	"platen/deflate"
	"platen/parse"
	"platen/split"
)

const (
	stored  = api.BlockStored
	fixed   = api.BlockFixed
	dynamic = api.BlockDynamic
)

// far is room that no test here comes to the end of.
const far = 1 << 24

func chance(n uint64) *rand.Rand {
	return rand.New(rand.NewPCG(15, n))
}

func alike(n int) string {
	return strings.Repeat("a", n)
}

// noise has bytes by chance, but no three of them twice, so that its tokens are its bytes at each level.
func noise(n int) string {
	r := chance(uint64(n))
	seen := map[int]bool{}
	three := 0
	var b []byte
	for len(b) < n {
		c := byte(r.IntN(256))
		next := (three<<8 | int(c)) % (1 << 24)
		if seen[next] {
			continue
		}
		b = append(b, c)
		three = next
		seen[three] = len(b) > 2
	}
	return string(b)
}

// words have matches, near and far, and bytes alone.
func words(r *rand.Rand, size int) string {
	some := []string{"page", "store", "she", "sells", "sea", "shells", " ", " ", ", ", "\n", "0", "17", "\x00\x00\x00\x01"}
	var b strings.Builder
	for b.Len() < size {
		if r.IntN(4) == 0 {
			b.WriteByte(byte(r.IntN(256)))
			continue
		}
		b.WriteString(some[r.IntN(len(some))])
	}
	return b.String()[:size]
}

// lots are of several sorts, one behind the other, and so become blocks of several kinds.
func lots(r *rand.Rand) string {
	var b strings.Builder
	for range 1 + r.IntN(6) {
		size := r.IntN(6000)
		switch r.IntN(5) {
		case 0, 1:
			b.WriteString(noise(size))
		case 2:
			b.WriteString(words(r, size))
		case 3:
			b.WriteString(alike(r.IntN(600)))
		default:
			for range size {
				b.WriteByte('a' + byte(r.IntN(1+r.IntN(26))))
			}
		}
	}
	return b.String()
}

// The model: each block as a row of 0s and 1s of its own, and all of them one behind the other.

// low has the bits of n, the lowest one first.
func low(n, size int) string {
	var b strings.Builder
	for range size {
		b.WriteByte('0' + byte(n%2))
		n /= 2
	}
	return b.String()
}

func lowText(s string) string {
	var b strings.Builder
	for i := range len(s) {
		b.WriteString(low(int(s[i]), 8))
	}
	return b.String()
}

// packed is the text whose bits these are, with 0s behind.
func packed(bits string) string {
	var b []byte
	for len(bits) > 0 {
		n := min(8, len(bits))
		sum := 0
		for i := range n {
			sum += int(bits[i]-'0') << i
		}
		b = append(b, byte(sum))
		bits = bits[n:]
	}
	return string(b)
}

func modelLast(last bool) string {
	if last {
		return "1"
	}
	return "0"
}

// modelStored are the bits of raw behind so many bits.
func modelStored(raw string, last bool, ahead int) string {
	var b strings.Builder
	for {
		n := min(len(raw), 65535)
		b.WriteString(modelLast(last && n == len(raw)) + "00")
		for (ahead+b.Len())%8 != 0 {
			b.WriteByte('0')
		}
		b.WriteString(low(n, 16) + low(65535-n, 16) + lowText(raw[:n]))
		raw = raw[n:]
		if raw == "" {
			return b.String()
		}
	}
}

// modelCoded are the bits of a block that is written alone.
func modelCoded(t *testing.T, kind uint8, l []api.Token, last bool) string {
	t.Helper()
	w := bitw.New(far)
	if e := block.Write(w, kind, l, "", last); e != api.OK {
		t.Fatal("a block:", e)
	}
	return lowText(w.Text())[:w.Len()]
}

func modelParts(t *testing.T, dict, text string, level int) ([]api.Token, []api.Part) {
	t.Helper()
	l, e := parse.Tokens(dict, text, level)
	if e != api.OK {
		t.Fatal("tokens:", e)
	}
	parts, e := split.Parts(l, text)
	if e != api.OK {
		t.Fatal("parts:", e)
	}
	return l, parts
}

func modelStream(t *testing.T, dict, text string, level int) string {
	t.Helper()
	if level == 0 {
		return packed(modelStored(text, true, 0))
	}
	l, parts := modelParts(t, dict, text, level)
	var b strings.Builder
	for i, p := range parts {
		last := i+1 == len(parts)
		if p.Kind == stored {
			b.WriteString(modelStored(text[:p.Size], last, b.Len()))
		} else {
			b.WriteString(modelCoded(t, p.Kind, l[p.From:p.To], last))
		}
		text = text[p.Size:]
	}
	return packed(b.String())
}

// modelBound counts byte by byte what is begun.
func modelBound(n int) int {
	sum := 0
	for at := range n {
		sum++
		if at%1024 == 0 {
			sum += 6
		}
		if at > 0 && at%65535 == 0 {
			sum += 5
		}
	}
	return max(6, sum)
}

// What is held.

func is(t *testing.T, dict, text string, level, most int, want string, wantE api.Errno) {
	t.Helper()
	s, e := deflate.Deflate(dict, text, level, most)
	if s != want || e != wantE {
		t.Errorf("of %d bytes behind %d, level %d, most %d: %d bytes, %d, not %d bytes, %d", len(text), len(dict), level, most, len(s), e, len(want), wantE)
	}
}

// isRead holds that Go's own reader takes all of a stream, and reads it as the text.
func isRead(t *testing.T, dict, text, s string) {
	t.Helper()
	r := bytes.NewReader([]byte(s))
	got, err := io.ReadAll(flate.NewReaderDict(r, []byte(dict)))
	if err != nil || string(got) != text {
		t.Errorf("%d bytes are read, not %d: %v", len(got), len(text), err)
	}
	if r.Len() != 0 {
		t.Errorf("%d bytes stand behind the stream", r.Len())
	}
}

// isStream holds a stream against the model, its reader, and the bound; with less room nothing is answered.
func isStream(t *testing.T, dict, text string, level int) string {
	t.Helper()
	want := modelStream(t, dict, text, level)
	is(t, dict, text, level, far, want, api.OK)
	isRead(t, dict, text, want)
	if bound := deflate.Bound(len(text)); len(want) > bound {
		t.Errorf("of %d bytes, level %d: %d bytes, above the bound %d", len(text), level, len(want), bound)
	}
	is(t, dict, text, level, len(want), want, api.OK)
	is(t, dict, text, level, len(want)-1, "", api.ErrFull)
	return want
}

func isEachLevel(t *testing.T, dict, text string) {
	t.Helper()
	for level := range 10 {
		isStream(t, dict, text, level)
	}
}

// The chapter's example.

func TestExample(t *testing.T) {
	is(t, "", "", 6, 9, "\x03\x00", api.OK)
}

// P15.1

func TestByHand(t *testing.T) {
	is(t, "", "", 0, far, "\x01\x00\x00\xff\xff", api.OK)
	is(t, "", "abc", 0, far, "\x01\x03\x00\xfc\xffabc", api.OK)
	a, end := "10010001", "0000000"
	for level := 1; level < 10; level++ {
		is(t, "", "", level, far, "\x03\x00", api.OK)
		is(t, "", "a", level, far, packed("110"+a+end), api.OK)
		// A match of 3, 1 ahead; and one of 9.
		is(t, "", alike(4), level, far, packed("110"+a+"0000001"+"00000"+end), api.OK)
		is(t, "", alike(10), level, far, packed("110"+a+"0000111"+"00000"+end), api.OK)
		// The dictionary's three bytes, and one behind them.
		is(t, "bcd", "bcda", level, far, packed("110"+"0000001"+"00010"+a+end), api.OK)
	}
}

// Two blocks: of 1,024 bytes that are stored, and of an a, three matches of 258, and one of 225.
func TestBlocksByHand(t *testing.T) {
	first := noise(1024)
	match := "11000101" + "00000"
	then := "10010001" + strings.Repeat(match, 3) + "11000011" + "01111" + "00000" + "0000000"
	want := "\x00\x00\x04\xff\xfb" + first + packed("110"+then)
	for level := 1; level < 10; level++ {
		is(t, "", first+alike(1000), level, far, want, api.OK)
	}
}

func TestSmallTexts(t *testing.T) {
	texts := []string{
		"", "a", "\x00", "\xff", "ab", "abc", "aaa", "aaaa", "abcabc", "abcabcabc", "\x00\x00\x00\x00\x00\x00\x00\x00",
		"she sells sea shells by the sea shore, and the shells she sells are sea shells, she is sure",
		"\u00fc\u00e4\u00f6 \u4e16\u754c", "\xff\xfe\xfd", alike(257), alike(258), alike(259), alike(260), alike(1000),
	}
	for _, text := range texts {
		isEachLevel(t, "", text)
		isEachLevel(t, text, text)
		isEachLevel(t, "abc", text)
	}
	for n := range 256 {
		text := string([]byte{byte(n)})
		isEachLevel(t, "", text)
	}
}

// All texts of two sorts of bytes, up to eight.
func TestAllTextsOfTwo(t *testing.T) {
	for size := range 9 {
		for n := range 1 << size {
			text := strings.Map(func(c rune) rune { return c - '0' + 'x' }, low(n, size))
			for _, level := range []int{0, 1, 4, 6, 9} {
				isStream(t, "", text, level)
			}
		}
	}
}

func TestLevelsThatAreNone(t *testing.T) {
	long := alike(api.MaxText + 1)
	for _, level := range []int{-1, 10, 11, -10, 255, 256, 262, 1 << 32, 1<<32 + 6, math.MinInt, math.MaxInt} {
		for _, most := range []int{far, 9, 0, -1, math.MinInt, math.MaxInt} {
			for _, text := range []string{"", "abc", long} {
				is(t, "", text, level, most, "", api.ErrArg)
				is(t, "abc", text, level, most, "", api.ErrArg)
			}
		}
	}
}

// Too much text is told ahead of too little room.
func TestTextsThatAreTooLong(t *testing.T) {
	long := noise(api.MaxText + 1)
	for level := range 10 {
		for _, most := range []int{far, math.MaxInt, api.MaxText, 9, 1, 0, -1, math.MinInt} {
			is(t, "", long, level, most, "", api.ErrLong)
			is(t, long[:9], long, level, most, "", api.ErrLong)
			is(t, "", long+long, level, most, "", api.ErrLong)
		}
	}
}

func TestTextsAtTheLimit(t *testing.T) {
	// Of an a, and as many matches, all levels are the same.
	long := alike(api.MaxText)
	isStream(t, "", long, 0)
	short := isStream(t, "", long, 1)
	for level := 2; level < 10; level++ {
		is(t, "", long, level, math.MaxInt, short, api.OK)
	}
	// All parts of noise are joined to one that is stored, as at level 0.
	text := noise(api.MaxText)
	s := isStream(t, "", text, 0)
	is(t, "", text, 4, deflate.Bound(len(text)), s, api.OK)
}

// About each multiple of MaxStored: as many stored blocks, of which the last one alone is told as it.
func TestStoredOfLevelZero(t *testing.T) {
	text := noise(2*65535 + 2)
	for n, blocks := range map[int]int{
		0: 1, 1: 1, 1023: 1, 1024: 1, 1025: 1, 65534: 1, 65535: 1, 65536: 2, 65537: 2, 2*65535 - 1: 2, 2 * 65535: 2, 2*65535 + 1: 3, 2*65535 + 2: 3,
	} {
		s := isStream(t, "", text[:n], 0)
		if len(s) != n+5*blocks {
			t.Errorf("of %d bytes: %d", n, len(s))
		}
		// A dictionary counts for nothing.
		is(t, text[:n], text[:n], 0, far, s, api.OK)
		is(t, text, text[:n], 0, far, s, api.OK)
	}
	s, _ := deflate.Deflate("", text[:65536], 0, far)
	want := "\x00\xff\xff\x00\x00" + text[:65535] + "\x01\x01\x00\xfe\xff" + text[65535:65536]
	if s != want {
		t.Error("other blocks of 65,536 bytes")
	}
	s, _ = deflate.Deflate("", text[:65535], 0, far)
	if s != "\x01\xff\xff\x00\x00"+text[:65535] {
		t.Error("another block of 65,535 bytes")
	}
}

// counted is a piece of text, from its beginning on, that becomes so many tokens.
func counted(t *testing.T, text string, level, want int) string {
	t.Helper()
	tokens := func(n int) int {
		l, _ := parse.Tokens("", text[:n], level)
		return len(l)
	}
	n := sort.Search(len(text), func(n int) bool { return tokens(n) >= want })
	for ; n <= len(text); n++ {
		if tokens(n) == want {
			return text[:n]
		}
	}
	t.Fatalf("no piece has %d tokens", want)
	return ""
}

// About each multiple of PartTokens: tokens that are bytes alone, that are all alike, and with matches among them.
func TestTextsAboutTheirParts(t *testing.T) {
	bytes, some := noise(3*1024+1), words(chance(1), 40000)
	for _, want := range []int{1023, 1024, 1025, 2047, 2048, 2049, 3072, 3073} {
		for level := range 10 {
			l, _ := parse.Tokens("", bytes[:want], level)
			if len(l) != want {
				t.Fatalf("%d tokens, not %d", len(l), want)
			}
			isStream(t, "", bytes[:want], level)
			if level > 0 {
				isStream(t, "", counted(t, some, level, want), level)
			}
		}
		text := alike(1 + 258*(want-1))
		l, _ := parse.Tokens("", text, 6)
		if len(l) != want {
			t.Fatalf("%d tokens, not %d", len(l), want)
		}
		isStream(t, "", text, 6)
	}
}

// Blocks of all kinds, the first, in the midst, and last, and stored ones behind bits that are no whole byte.
func TestBlocksOfAllKinds(t *testing.T) {
	r := chance(2)
	var first, midst, last [3]int
	var ahead [8]int
	for range 100 {
		text, level := lots(r), 1+r.IntN(9)
		isStream(t, "", text, level)
		l, parts := modelParts(t, "", text, level)
		bits, begin := 0, 0
		for i, p := range parts {
			switch i {
			case 0:
				first[p.Kind]++
			case len(parts) - 1:
				last[p.Kind]++
			default:
				midst[p.Kind]++
			}
			if p.Kind == stored {
				ahead[bits%8]++
			}
			n, _ := block.Size(p.Kind, l[p.From:p.To], text[begin:begin+p.Size], bits)
			bits, begin = bits+n, begin+p.Size
		}
	}
	// Of PartTokens tokens hardly any block is fixed: such ones are last.
	counts := slices.Concat([]int{first[stored], first[dynamic], midst[stored], midst[dynamic]}, last[:], ahead[:])
	if slices.Min(counts) == 0 {
		t.Errorf("chance brought too little: %v first, %v in the midst, %v last, stored ones behind %v bits", first, midst, last, ahead)
	}
}

func TestByChance(t *testing.T) {
	r := chance(3)
	for range 25 {
		text := lots(r)
		dict := lots(r)
		if r.IntN(2) == 0 {
			dict = text[r.IntN(1+len(text)):] + dict
		}
		isStream(t, "", text, r.IntN(10))
		isStream(t, dict, text, r.IntN(10))
	}
	for range 200 {
		isEachLevel(t, words(r, r.IntN(300)), words(r, r.IntN(300)))
	}
}

func TestDictionaries(t *testing.T) {
	text := "she sells sea shells by the sea shore"
	for level := 1; level < 10; level++ {
		without := isStream(t, "", text, level)
		with := isStream(t, "sea shells, and she sells shells by the sea shore", text, level)
		other := isStream(t, "0123456789", text, level)
		if len(with) >= len(without) || other != without {
			t.Errorf("level %d: %d bytes with it, %d without, %d with another one", level, len(with), len(without), len(other))
		}
	}
	isEachLevel(t, text, "")
	isEachLevel(t, text, "s")
}

// What is farther ahead of the text than a Window counts for nothing.
func TestDictionariesThatAreTooLong(t *testing.T) {
	dict := noise(32768 + 5000)
	for level := range 10 {
		near, lost := dict[5000:5300], dict[:300]
		without := isStream(t, "", near, level)
		with := isStream(t, dict, near, level)
		is(t, dict[5000:], near, level, far, with, api.OK)
		if level > 0 && len(with) >= len(without) {
			t.Errorf("level %d: nothing is found at the window's end", level)
		}
		is(t, dict, lost, level, far, isStream(t, "", lost, level), api.OK)
		isStream(t, dict, dict[4990:5400], level)
	}
	// A dictionary may have more bytes than a text.
	long := noise(api.MaxText + 9)
	isEachLevel(t, long, long[api.MaxText-200:])
}

func TestRoom(t *testing.T) {
	r := chance(4)
	texts := []string{"", "a", "abc", alike(300), words(r, 200), noise(200), noise(1024) + alike(1000), noise(60)}
	for _, text := range texts {
		for level := range 10 {
			s := modelStream(t, "", text, level)
			for most := -3; most < len(s); most += 1 + max(0, most)/40 {
				is(t, "", text, level, most, "", api.ErrFull)
			}
			for _, most := range []int{math.MinInt, math.MinInt + 1, -1 << 32, -8, len(s) - 2, len(s) - 1} {
				is(t, "", text, level, most, "", api.ErrFull)
			}
			for _, most := range []int{len(s), len(s) + 1, len(s) + 7, 8 * len(s), 1 << 31, 1 << 32, 1 << 60, math.MaxInt - 1, math.MaxInt} {
				is(t, "", text, level, most, s, api.OK)
			}
		}
	}
}

// That there is no room is told wherever it ends: in a head, in the codes, in the midst of symbols, in bytes, in a later block.
func TestRoomOfSeveralBlocks(t *testing.T) {
	text := noise(1024) + alike(1000) + words(chance(5), 9000) + noise(3000)
	for _, level := range []int{0, 1, 6} {
		s := modelStream(t, "", text, level)
		for most := 0; most < len(s); most += 97 {
			is(t, "", text, level, most, "", api.ErrFull)
		}
		for _, most := range []int{4, 5, 6, 1028, 1029, 1030, 1031, len(s) - 1} {
			is(t, "", text, level, most, "", api.ErrFull)
		}
		is(t, "", text, level, len(s), s, api.OK)
	}
}

func TestBound(t *testing.T) {
	for n, want := range map[int]int{
		math.MinInt: 6, math.MinInt + 1: 6, -1 << 32: 6, -65536: 6, -65535: 6, -1025: 6, -1024: 6, -7: 6, -6: 6, -1: 6, 0: 6,
		1: 7, 2: 8, 1023: 1029, 1024: 1030, 1025: 1037, 2047: 2059, 2048: 2060, 2049: 2067,
		65534: 65534 + 6*64, 65535: 65535 + 6*64, 65536: 65536 + 6*64 + 5, 65537: 65537 + 6*65 + 5,
		2*65535 - 1: 131069 + 6*128 + 5, 2 * 65535: 131070 + 6*128 + 5, 2*65535 + 1: 131071 + 6*128 + 10, 131073: 131073 + 6*129 + 10,
		api.MaxText - 1: 1048575 + 6*1024 + 80, api.MaxText: 1048576 + 6*1024 + 80, api.MaxText + 1: 1048577 + 6*1025 + 80,
	} {
		if got := deflate.Bound(n); got != want {
			t.Errorf("of %d: %d, not %d", n, got, want)
		}
	}
}

func TestBoundOfEachNumber(t *testing.T) {
	for n := -9; n < 4200; n++ {
		if got, want := deflate.Bound(n), modelBound(n); got != want {
			t.Fatalf("of %d: %d, not %d", n, got, want)
		}
	}
	for _, times := range []int{1, 2, 3, 15, 16, 17, 100} {
		for _, size := range []int{1024, 65535, 65536} {
			for n := size*times - 2; n <= size*times+2; n++ {
				if got, want := deflate.Bound(n), modelBound(n); got != want {
					t.Errorf("of %d: %d, not %d", n, got, want)
				}
			}
		}
	}
}

// P15.2

// isBounded holds that as much room as the bound is always enough.
func isBounded(t *testing.T, dict, text string, level int) {
	t.Helper()
	bound := deflate.Bound(len(text))
	s, e := deflate.Deflate(dict, text, level, bound)
	if e != api.OK || len(s) > bound {
		t.Fatalf("of %d bytes, level %d: %d bytes of %d, %d", len(text), level, len(s), bound, e)
	}
	is(t, dict, text, level, len(s)-1, "", api.ErrFull)
}

// Texts that can't be made shorter.
func TestBoundOfNoise(t *testing.T) {
	text := noise(70000)
	for _, n := range []int{0, 1, 2, 3, 5, 30, 100, 1000, 1023, 1024, 1025, 2048, 2049, 5000, 10241} {
		for level := range 10 {
			isBounded(t, "", text[:n], level)
			isBounded(t, text[n/2:n], text[:n], level)
		}
	}
	for n := 65534; n <= 65537; n++ {
		isBounded(t, "", text[:n], 0)
		isBounded(t, "", text[:n], 6)
	}
}

// Many stored blocks, each behind one that ends within a byte: each may take two bits more than was reckoned as it was chosen.
func TestBoundOfManyBlocks(t *testing.T) {
	r := chance(6)
	for range 20 {
		var b strings.Builder
		for b.Len() < 40000 {
			b.WriteString(noise(1024 + r.IntN(2)*1024))
			b.WriteString(strings.Repeat("ab"[:1+r.IntN(2)], 200+r.IntN(900)))
			for range r.IntN(1500) {
				b.WriteByte(byte(r.IntN(3)))
			}
		}
		for _, level := range []int{0, 1, 4, 9} {
			isBounded(t, "", b.String(), level)
		}
	}
}

func TestBoundByChance(t *testing.T) {
	r := chance(7)
	for range 30 {
		text := lots(r)
		isBounded(t, "", text, r.IntN(10))
		isBounded(t, lots(r), text, r.IntN(10))
	}
}

// R6: what was done before changes nothing, and what was without room neither.
func TestAnswersAreTheSameAgain(t *testing.T) {
	text, dict := lots(chance(8))+words(chance(9), 5000), words(chance(9), 700)
	keptText, keptDict := strings.Clone(text), strings.Clone(dict)
	for level := range 10 {
		want := modelStream(t, dict, text, level)
		for range 2 {
			is(t, dict, text, level, far, want, api.OK)
			is(t, "", "other", level, far, modelStream(t, "", "other", level), api.OK)
			is(t, dict, text, level, len(want)/2, "", api.ErrFull)
			is(t, dict, text, -1, far, "", api.ErrArg)
		}
		is(t, dict, text, level, far, want, api.OK)
	}
	if text != keptText || dict != keptDict {
		t.Error("an argument was changed")
	}
}
