package split_test

import (
	"bytes"
	"compress/flate"
	"io"
	"math"
	"math/rand/v2"
	"slices"
	"strings"
	"testing"

	"platen/api"
	"platen/bitw"
	"platen/block"
	"platen/parse"
	"platen/split"
	"platen/token"
)

const (
	stored  = api.BlockStored
	fixed   = api.BlockFixed
	dynamic = api.BlockDynamic
)

// far is room that no test here comes to the end of.
const far = 1 << 24

func chance(n uint64) *rand.Rand {
	return rand.New(rand.NewPCG(14, n))
}

func bytesOf(s string) []api.Token {
	var l []api.Token
	for i := range len(s) {
		l = append(l, api.Token{Lit: s[i]})
	}
	return l
}

func match(size, dist int) api.Token {
	return api.Token{Len: size, Dist: dist}
}

// again are tokens that stand so often, one behind the other.
func again(times int, l ...api.Token) []api.Token {
	return slices.Repeat(l, times)
}

// by are so many bytes, by a rule.
func by(count int, rule func(i int) int) []api.Token {
	l := make([]api.Token, count)
	for i := range l {
		l[i].Lit = byte(rule(i))
	}
	return l
}

// mixed are bytes of all numbers, each as often as the others.
func mixed(count int) []api.Token {
	return by(count, func(i int) int { return i*77 + i/256 })
}

// rawOf are as many bytes as the tokens': which ones they are is not asked.
func rawOf(l []api.Token) string {
	n := 0
	for _, t := range l {
		n += max(1, t.Len)
	}
	return strings.Repeat("?", n)
}

// The model: what a block takes is found by writing it; parts are lists of tokens with a text of their own.

func modelBits(t *testing.T, kind uint8, l []api.Token, raw string) int {
	t.Helper()
	w := bitw.New(far)
	if e := block.Write(w, kind, l, raw, false); e != api.OK {
		t.Fatalf("kind %d of %d tokens can't be written: %d", kind, len(l), e)
	}
	return w.Len()
}

func modelKind(t *testing.T, l []api.Token, raw string) (uint8, int) {
	t.Helper()
	var all [3]int
	for kind := range all {
		all[kind] = modelBits(t, uint8(kind), l, raw)
	}
	fewest := slices.Min(all[:])
	return uint8(slices.Index(all[:], fewest)), fewest
}

type lot struct {
	l    []api.Token
	text string
	kind uint8
	bits int
}

func newLot(t *testing.T, l []api.Token, text string) lot {
	t.Helper()
	kind, bits := modelKind(t, l, text)
	return lot{l, text, kind, bits}
}

func modelCut(t *testing.T, l []api.Token, text string) []lot {
	t.Helper()
	lists := slices.Collect(slices.Chunk(l, 1024))
	if len(lists) == 0 {
		lists = [][]api.Token{nil}
	}
	var all []lot
	for _, list := range lists {
		n := len(rawOf(list))
		all = append(all, newLot(t, list, text[:n]))
		text = text[n:]
	}
	return all
}

func modelParts(t *testing.T, l []api.Token, text string) []api.Part {
	t.Helper()
	lots := modelCut(t, l, text)
	for i := 0; i+1 < len(lots); {
		a, b := lots[i], lots[i+1]
		both := newLot(t, slices.Concat(a.l, b.l), a.text+b.text)
		if both.bits > a.bits+b.bits {
			i++
			continue
		}
		lots = slices.Replace(lots, i, i+2, both)
	}
	var parts []api.Part
	at := 0
	for _, p := range lots {
		parts = append(parts, api.Part{From: at, To: at + len(p.l), Size: len(p.text), Kind: p.kind})
		at += len(p.l)
	}
	return parts
}

// What is held.

func isKind(t *testing.T, l []api.Token, raw string, want uint8, wantBits int, wantE api.Errno) {
	t.Helper()
	kept := slices.Clone(l)
	kind, bits, e := split.Kind(l, raw)
	if kind != want || bits != wantBits || e != wantE {
		t.Errorf("Kind of %d tokens, %d bytes: %d, %d, %d, not %d, %d, %d", len(l), len(raw), kind, bits, e, want, wantBits, wantE)
	}
	if !slices.Equal(l, kept) {
		t.Error("Kind changed its tokens")
	}
}

func isParts(t *testing.T, l []api.Token, text string, want []api.Part, wantE api.Errno) {
	t.Helper()
	kept := slices.Clone(l)
	parts, e := split.Parts(l, text)
	if !slices.Equal(parts, want) || e != wantE {
		t.Errorf("Parts of %d tokens, %d bytes: %v, %d, not %v, %d", len(l), len(text), parts, e, want, wantE)
	}
	if !slices.Equal(l, kept) {
		t.Error("Parts changed its tokens")
	}
}

// isModel holds kind and parts against the model's, and the parts against what follows.
func isModel(t *testing.T, l []api.Token, text string) {
	t.Helper()
	kind, bits := modelKind(t, l, text)
	isKind(t, l, text, kind, bits, api.OK)
	isParts(t, l, text, modelParts(t, l, text), api.OK)
	follows(t, l, text)
}

// follows is P14.3.
func follows(t *testing.T, l []api.Token, text string) {
	t.Helper()
	parts, e := split.Parts(l, text)
	if e != api.OK || len(parts) == 0 {
		t.Fatalf("%d parts, %d", len(parts), e)
	}
	at, begin, bits := 0, 0, 0
	for i, p := range parts {
		if p.From != at || p.To < at || p.To == at && len(l) > 0 || p.To > len(l) {
			t.Fatalf("part %d is %v, behind %d tokens", i, p, at)
		}
		if p.Size != len(rawOf(l[p.From:p.To])) || begin+p.Size > len(text) {
			t.Fatalf("part %d has %d bytes", i, p.Size)
		}
		kind, n := modelKind(t, l[p.From:p.To], text[begin:begin+p.Size])
		if p.Kind != kind {
			t.Fatalf("part %d is of kind %d, not %d", i, p.Kind, kind)
		}
		at, begin, bits = p.To, begin+p.Size, bits+n
	}
	if at != len(l) || begin != len(text) {
		t.Fatalf("parts up to token %d of %d, byte %d of %d", at, len(l), begin, len(text))
	}
	first := 0
	for _, p := range modelCut(t, l, text) {
		first += p.bits
	}
	if bits > first {
		t.Fatalf("%d bits, and %d as they were cut at first", bits, first)
	}
}

// takes holds how many bits a block takes as each kind, so that a test's numbers are what it says of them.
func takes(t *testing.T, l []api.Token, want ...int) {
	t.Helper()
	raw := rawOf(l)
	for kind, n := range want {
		if bits := modelBits(t, uint8(kind), l, raw); bits != n {
			t.Errorf("kind %d of %d tokens: %d bits, not %d", kind, len(l), bits, n)
		}
	}
}

// gains is how many bits less two lists take as one block than each as its own.
func gains(t *testing.T, a, b []api.Token) int {
	t.Helper()
	all := slices.Concat(a, b)
	_, n := modelKind(t, a, rawOf(a))
	_, m := modelKind(t, b, rawOf(b))
	_, both := modelKind(t, all, rawOf(all))
	return n + m - both
}

func isGain(t *testing.T, a, b []api.Token, want int) {
	t.Helper()
	if n := gains(t, a, b); n != want {
		t.Errorf("%d bits less, not %d", n, want)
	}
}

// The chapter's example.

func TestExample(t *testing.T) {
	for _, none := range [][]api.Token{nil, {}} {
		isKind(t, none, "", fixed, 10, api.OK)
		isParts(t, none, "", []api.Part{{Kind: fixed}}, api.OK)
	}
}

// P14.1

func TestKindByHand(t *testing.T) {
	isKind(t, bytesOf("a"), "a", fixed, 3+8+7, api.OK)
	isKind(t, bytesOf("abc"), "abc", fixed, 3+24+7, api.OK)
	isKind(t, bytesOf("\xFF\xFE"), "\xFF\xFE", fixed, 3+18+7, api.OK)
	isKind(t, again(20, match(3, 1)), rawOf(again(20, match(3, 1))), dynamic, modelBits(t, dynamic, again(20, match(3, 1)), ""), api.OK)
	isKind(t, []api.Token{match(3, 1)}, "aaa", fixed, 3+12+7, api.OK)
	isKind(t, []api.Token{match(258, 32768)}, rawOf([]api.Token{match(258, 32768)}), fixed, 3+8+18+7, api.OK)
	// Ahead of a stored block's bytes stand 40 bits, if it begins ahead of a whole byte.
	isKind(t, mixed(1000), rawOf(mixed(1000)), stored, 40+8000, api.OK)
	isKind(t, again(1000, api.Token{Lit: 'a'}), rawOf(again(1000, api.Token{Lit: 'a'})), dynamic, 1102, api.OK)
}

// Bytes above 143 take one bit more than eight by the fixed codes: 30 of them are as many bits as ahead of stored ones.
func TestKindAboutStoredAndFixed(t *testing.T) {
	high := by(31, func(i int) int { return 144 + 3*i })
	isKind(t, high[:29], rawOf(high[:29]), fixed, 10+9*29, api.OK)
	takes(t, high[:30], 280, 280)
	isKind(t, high[:30], rawOf(high[:30]), stored, 280, api.OK)
	isKind(t, high, rawOf(high), stored, 40+8*31, api.OK)
	// Bytes up to 143 take as many bits in both.
	low := by(20, func(i int) int { return 7 * i })
	isKind(t, append(low, high[:29]...), strings.Repeat("?", 49), fixed, 271+160, api.OK)
	isKind(t, append(low, high[:30]...), strings.Repeat("?", 50), stored, 280+160, api.OK)
}

func TestKindOfEquals(t *testing.T) {
	l := by(13, func(i int) int { return 144 + i%2*2 })
	takes(t, l, 144, 127, 127)
	isKind(t, l, rawOf(l), fixed, 127, api.OK)

	l = by(31, func(i int) int { return 149 + i%12*4 })
	takes(t, l, 288, 289, 288)
	isKind(t, l, rawOf(l), stored, 288, api.OK)

	l = by(30, func(i int) int { return 149 + i%12*4 })
	takes(t, l, 280, 280, 284)
	isKind(t, l, rawOf(l), stored, 280, api.OK)

	l = append(by(30, func(i int) int { return 144 + i%3 }), by(49, func(i int) int { return 2 * i })...)
	takes(t, l, 672, 672, 672)
	isKind(t, l, rawOf(l), stored, 672, api.OK)
}

// Only how many bytes there are is asked.
func TestKindOfOtherBytes(t *testing.T) {
	for _, l := range [][]api.Token{bytesOf("abc"), mixed(700), again(300, api.Token{Lit: 'a'}, match(5, 1))} {
		raw := rawOf(l)
		kind, bits := modelKind(t, l, raw)
		for _, other := range []string{raw, strings.Repeat("\x00", len(raw)), strings.Repeat("\xFF", len(raw))} {
			isKind(t, l, other, kind, bits, api.OK)
			isParts(t, l, other, modelParts(t, l, raw), api.OK)
		}
	}
}

// wrong are tokens that may not be.
func wrong() []api.Token {
	return []api.Token{
		match(2, 1), match(259, 1), match(3, 0), match(3, 32769), match(0, 1), match(-3, 1), match(3, -1), match(-1, 0),
		match(math.MinInt, 1), match(math.MaxInt, 1), match(3, math.MinInt), match(3, math.MaxInt),
		{Lit: 'a', Len: 3, Dist: 1}, {Lit: 'a', Len: 3}, {Lit: 'a', Dist: 1},
	}
}

// isRefused holds both calls.
func isRefused(t *testing.T, l []api.Token, raw string, want api.Errno) {
	t.Helper()
	isKind(t, l, raw, 0, 0, want)
	isParts(t, l, raw, nil, want)
}

func TestTokensThatMayNotBe(t *testing.T) {
	long := strings.Repeat("?", api.MaxText+1)
	good := append(bytesOf("abc"), match(5, 3), match(258, 32768))
	many := mixed(2500)
	for _, bad := range wrong() {
		isRefused(t, []api.Token{bad}, "", api.ErrArg)
		isRefused(t, []api.Token{bad}, "?", api.ErrArg)
		isRefused(t, []api.Token{bad}, "???", api.ErrArg)
		isRefused(t, []api.Token{bad}, long, api.ErrArg)
		for _, place := range []int{0, 1, 3, 4, 5} {
			l := slices.Insert(slices.Clone(good), place, bad)
			// As many bytes as the good ones', one more, none, and too many.
			isRefused(t, l, rawOf(good), api.ErrArg)
			isRefused(t, l, rawOf(good)+"?", api.ErrArg)
			isRefused(t, l, "", api.ErrArg)
			isRefused(t, l, long, api.ErrArg)
		}
		for _, place := range []int{0, 1023, 1024, 2048, 2500} {
			l := slices.Insert(slices.Clone(many), place, bad)
			isRefused(t, l, rawOf(many), api.ErrArg)
			isRefused(t, l, long, api.ErrArg)
		}
	}
}

func TestBytesThatAreOthers(t *testing.T) {
	lists := [][]api.Token{
		nil, bytesOf("a"), bytesOf("abc"), {match(3, 1)}, {match(258, 32768)}, append(bytesOf("abc"), match(9, 3)),
		mixed(1024), mixed(1025), mixed(3000), again(1500, match(7, 7)),
	}
	for _, l := range lists {
		raw := rawOf(l)
		isModel(t, l, raw)
		isRefused(t, l, raw+"?", api.ErrForm)
		isRefused(t, l, raw+raw+"?", api.ErrForm)
		if len(raw) > 0 {
			isRefused(t, l, raw[1:], api.ErrForm)
			isRefused(t, l, "", api.ErrForm)
		}
	}
	// As many bytes as tokens, where a token is more than one.
	isRefused(t, []api.Token{match(3, 1)}, "?", api.ErrForm)
}

// full are tokens of just MaxText bytes.
func full() []api.Token {
	return append(again(4064, match(258, 1)), bytesOf(strings.Repeat("a", 64))...)
}

func TestBytesAtTheLimit(t *testing.T) {
	l := full()
	raw := rawOf(l)
	if len(raw) != api.MaxText {
		t.Fatalf("%d bytes", len(raw))
	}
	isModel(t, l, raw)
	isRefused(t, l, raw[1:], api.ErrForm)
	// One byte more is too long, whether or not the tokens are as many.
	isRefused(t, l, raw+"?", api.ErrLong)
	isRefused(t, append(l, api.Token{}), raw+"?", api.ErrLong)
	isRefused(t, append(l, api.Token{}), raw, api.ErrForm)
	isRefused(t, nil, raw+"?", api.ErrLong)
	isRefused(t, nil, raw, api.ErrForm)
	isRefused(t, append(full(), match(2, 1)), raw+"?", api.ErrArg)
	isRefused(t, append(full(), match(2, 1)), raw, api.ErrArg)
}

// Of MaxText bytes as many tokens.
func TestKindAtTheLimit(t *testing.T) {
	raw := strings.Repeat("?", api.MaxText)
	// There are 17 stored blocks: 16 of MaxStored bytes, and one of 16.
	isKind(t, mixed(api.MaxText), raw, stored, 17*40+8*api.MaxText, api.OK)
	l := make([]api.Token, api.MaxText)
	kind, bits := modelKind(t, l, raw)
	if kind != dynamic {
		t.Errorf("kind %d", kind)
	}
	isKind(t, l, raw, dynamic, bits, api.OK)
	isRefused(t, mixed(api.MaxText+1), raw+"?", api.ErrLong)
	isRefused(t, mixed(api.MaxText+1), raw, api.ErrForm)
	isRefused(t, mixed(api.MaxText-1), raw, api.ErrForm)
}

// someTokens are by chance: few or many kinds of bytes, no distances, one, or many.
func someTokens(r *rand.Rand, count int) []api.Token {
	first, kinds := r.IntN(256), 1+r.IntN(256)
	matches := r.IntN(3)
	size, dist := 3+r.IntN(256), 1+r.IntN(32768)
	var l []api.Token
	for range count {
		switch {
		case matches == 0 || r.IntN(3) == 0:
			l = append(l, api.Token{Lit: byte(first + r.IntN(1+r.IntN(kinds)))})
		case matches == 1:
			l = append(l, match(size, dist))
		default:
			l = append(l, match(3+r.IntN(1+r.IntN(256)), 1+r.IntN(1+r.IntN(32768))))
		}
	}
	return l
}

func TestKindByChance(t *testing.T) {
	r := chance(1)
	for range 1500 {
		l := someTokens(r, r.IntN(1+r.IntN(900)))
		raw := rawOf(l)
		kind, bits := modelKind(t, l, raw)
		isKind(t, l, raw, kind, bits, api.OK)
	}
}

// P14.2

// alone is what tokens are that become one part.
func alone(l []api.Token, kind uint8) []api.Part {
	return []api.Part{{To: len(l), Size: len(rawOf(l)), Kind: kind}}
}

// twice are parts from 0 to at, and from there on, both of bytes alone.
func twice(at int, kind uint8, to int, then uint8) []api.Part {
	return []api.Part{{To: at, Size: at, Kind: kind}, {From: at, To: to, Size: to - at, Kind: then}}
}

func TestPartsOfOne(t *testing.T) {
	isParts(t, bytesOf("a"), "a", []api.Part{{To: 1, Size: 1, Kind: fixed}}, api.OK)
	isParts(t, []api.Token{match(9, 4)}, "abcabcabc", []api.Part{{To: 1, Size: 9, Kind: fixed}}, api.OK)
	isParts(t, append(bytesOf("abc"), match(9, 3)), "abcabcabcabc", []api.Part{{To: 4, Size: 12, Kind: fixed}}, api.OK)
	for _, n := range []int{1023, 1024} {
		l := mixed(n)
		isParts(t, l, rawOf(l), alone(l, stored), api.OK)
		l = again(n, api.Token{Lit: 'a'})
		isParts(t, l, rawOf(l), alone(l, dynamic), api.OK)
		l = again(n, match(100, 3))
		isParts(t, l, rawOf(l), alone(l, dynamic), api.OK)
	}
}

// About each multiple of PartTokens, where all is joined, and where each part is another kind than the one ahead.
func TestPartsAboutTheirNumber(t *testing.T) {
	for _, times := range []int{1, 2, 3, 7} {
		for n := 1024*times - 1; n <= 1024*times+1; n++ {
			for _, l := range [][]api.Token{mixed(n), again(n, api.Token{Lit: 'a'}), again(n, match(4, 9)), stripes(n)} {
				isModel(t, l, rawOf(l))
			}
		}
	}
}

// stripes are parts of bytes of all numbers, and of one.
func stripes(count int) []api.Token {
	return by(count, func(i int) int {
		if i/1024%2 == 0 {
			return i*77 + i/256
		}
		return 'a'
	})
}

func TestPartsThatDontJoin(t *testing.T) {
	for _, n := range []int{1, 2, 3, 8} {
		l := stripes(1024 * n)
		var want []api.Part
		for i := range n {
			kind := stored
			if i%2 == 1 {
				kind = dynamic
			}
			want = append(want, api.Part{From: 1024 * i, To: 1024 * (i + 1), Size: 1024, Kind: kind})
		}
		isParts(t, l, rawOf(l), want, api.OK)
	}
}

// Behind as many bytes alike stand a few others: as one block they take one bit less, just as many, and one more.
func TestPartsAboutAsManyBits(t *testing.T) {
	alike := again(1024, api.Token{Lit: 'a'})
	isBoth := func(few []api.Token, gain int, joined bool) {
		t.Helper()
		isGain(t, alike, few, gain)
		l := slices.Concat(alike, few)
		want := alone(l, dynamic)
		if !joined {
			want = twice(1024, dynamic, len(l), fixed)
		}
		isParts(t, l, rawOf(l), want, api.OK)
	}
	isBoth(by(4, func(i int) int { return 3 * i }), 1, true)
	isBoth(by(5, func(i int) int { return 3 * i }), 0, true)
	isBoth(by(6, func(i int) int { return 3 * i }), 1, true)
	isBoth(by(9, func(i int) int { return 2 * i }), -1, false)
	isBoth(by(14, func(i int) int { return 2 * i }), -1, false)
}

// A block of MaxStored bytes and one more is two: it takes as many bits more as another part, which is joined nonetheless.
func TestPartsOfManyStoredBlocks(t *testing.T) {
	l := mixed(66 * 1024)
	isGain(t, l[:63*1024], l[63*1024:64*1024], 0)
	isGain(t, l[:62*1024], l[62*1024:63*1024], 40)
	isParts(t, l, rawOf(l), alone(l, stored), api.OK)
}

// Three and more are joined one behind the other: each once the one at hand is all of those ahead.
func TestPartsThatJoinOneBehindTheOther(t *testing.T) {
	for _, n := range []int{3, 4, 9} {
		l := again(1024*n+5, api.Token{Lit: 'a'})
		isParts(t, l, rawOf(l), alone(l, dynamic), api.OK)
		l = mixed(1024*n + 5)
		isParts(t, l, rawOf(l), alone(l, stored), api.OK)
	}
	// Behind one that is done two and three are joined, and behind these too.
	l := slices.Concat(mixed(1024), again(2048, api.Token{Lit: 'a'}))
	isParts(t, l, rawOf(l), twice(1024, stored, 3072, dynamic), api.OK)
	l = slices.Concat(mixed(1024), again(3072, api.Token{Lit: 'a'}), mixed(2048))
	isParts(t, l, rawOf(l), append(twice(1024, stored, 4096, dynamic), api.Part{From: 4096, To: 6144, Size: 2048, Kind: stored}), api.OK)
	l = slices.Concat(mixed(2048), again(1024, api.Token{Lit: 'a'}))
	isParts(t, l, rawOf(l), twice(2048, stored, 3072, dynamic), api.OK)
}

// Whether the third lot joins hangs on what is at hand, as one block: neither on the lot ahead of it alone, nor on what those at hand were as their own.
func TestPartsLookAtWhatIsAtHand(t *testing.T) {
	kinds := func(count int) []api.Token {
		return by(1024, func(i int) int { return 101 + i%count })
	}
	isThird := func(a, b, c, withSecond, withBoth int, joins bool) {
		t.Helper()
		first, second, third := kinds(a), kinds(b), kinds(c)
		isGain(t, second, third, withSecond)
		isGain(t, slices.Concat(first, second), third, withBoth)
		l := slices.Concat(first, second, third)
		want := []api.Part{{To: 3072, Size: 3072, Kind: dynamic}}
		if !joins {
			want = twice(2048, dynamic, 3072, dynamic)
		}
		isParts(t, l, rawOf(l), want, api.OK)
	}
	isThird(7, 7, 10, -2, 15, true)
	isThird(1, 3, 4, 100, -154, false)
	// The first two gain 110 by being one, which the third may not use up.
	isGain(t, kinds(10), kinds(10), 110)
	isThird(10, 10, 6, -67, -67, false)
}

func TestPartsOfThreeLots(t *testing.T) {
	kinds := func(first, count int) []api.Token {
		return by(1024, func(i int) int { return first + i*i/3%count })
	}
	for a := range 5 {
		for b := range 5 {
			for c := range 5 {
				l := slices.Concat(kinds(40, 4<<a), kinds(50, 4<<b), kinds(40, 4<<c))
				isParts(t, l, rawOf(l), modelParts(t, l, rawOf(l)), api.OK)
			}
		}
	}
}

// Parts of matches have more bytes than tokens, each another number.
func TestPartsOfMatches(t *testing.T) {
	l := slices.Concat(again(1024, match(3, 1)), mixed(1024), again(1024, match(258, 20000)), mixed(1024))
	isParts(t, l, rawOf(l), []api.Part{
		{From: 0, To: 1024, Size: 3 * 1024, Kind: dynamic},
		{From: 1024, To: 2048, Size: 1024, Kind: stored},
		{From: 2048, To: 3072, Size: 258 * 1024, Kind: dynamic},
		{From: 3072, To: 4096, Size: 1024, Kind: stored},
	}, api.OK)
	isModel(t, l, rawOf(l))
}

// A stored block takes what its bytes take: here matches among them are fewer bits so.
func TestPartsOfMatchesThatAreStored(t *testing.T) {
	l := mixed(1024)
	for i, dist := range []int{8193, 12289, 16385, 24577} {
		l[200*i] = match(3, dist)
	}
	isParts(t, l, rawOf(l), []api.Part{{To: 1024, Size: 1032, Kind: stored}}, api.OK)
	l = again(3, l...)
	isParts(t, l, rawOf(l), modelParts(t, l, rawOf(l)), api.OK)
}

// manyTokens are lots one behind the other, each by its own chance, that begin about where parts do.
func manyTokens(r *rand.Rand) []api.Token {
	var l []api.Token
	earlier := someTokens(r, 700)
	for range 1 + r.IntN(7) {
		count := r.IntN(2048)
		if r.IntN(2) == 0 {
			count = 1024
		}
		lot := someTokens(r, count)
		if r.IntN(3) == 0 {
			// What stood there already, with a few others: it may be joined, or not.
			lot = again(1+count/700, earlier...)[:count]
			for i := range r.IntN(60) {
				if count > 0 {
					lot[r.IntN(count)] = api.Token{Lit: byte(i)}
				}
			}
		}
		l = append(l, lot...)
		if len(lot) >= 700 {
			earlier = lot[:700]
		}
	}
	return l
}

func TestPartsByChance(t *testing.T) {
	r := chance(3)
	seen, late := map[uint8]int{}, 0
	for range 150 {
		l := manyTokens(r)
		text := rawOf(l)
		if len(text) > api.MaxText {
			continue
		}
		isParts(t, l, text, modelParts(t, l, text), api.OK)
		parts, _ := split.Parts(l, text)
		for _, p := range parts {
			seen[p.Kind]++
			if p.From > 0 && p.To-p.From > 1024 {
				late++
			}
		}
	}
	if seen[stored] == 0 || seen[fixed] == 0 || seen[dynamic] == 0 || late == 0 {
		t.Errorf("chance brought too little: %v, %d joined late", seen, late)
	}
}

// Lots that are nearly alike gain a few bits or lose a few, so that all hangs on which bits are held against which.
func TestPartsThatAreNearlyAlike(t *testing.T) {
	r := chance(4)
	joined, apart := 0, 0
	for range 120 {
		kinds := 2 + r.IntN(30)
		var l []api.Token
		for range 3 + r.IntN(5) {
			kinds = max(2, kinds+r.IntN(7)-3)
			first := 97 + r.IntN(3)
			l = append(l, by(1024, func(int) int { return first + r.IntN(1+r.IntN(kinds)) })...)
		}
		l = l[:len(l)-r.IntN(1024)]
		text := rawOf(l)
		want := modelParts(t, l, text)
		isParts(t, l, text, want, api.OK)
		for _, p := range want {
			if p.To-p.From > 1024 {
				joined++
			} else {
				apart++
			}
		}
	}
	if joined < 20 || apart < 20 {
		t.Errorf("chance brought too little: %d joined, %d apart", joined, apart)
	}
}

// P14.3

func TestPartsFollowByChance(t *testing.T) {
	r := chance(5)
	for range 40 {
		l := manyTokens(r)
		if text := rawOf(l); len(text) <= api.MaxText {
			follows(t, l, text)
		}
	}
	for _, l := range [][]api.Token{nil, bytesOf("a"), full(), mixed(70000), stripes(30000)} {
		follows(t, l, rawOf(l))
	}
}

// texts have lots of several sorts, one behind the other.
func texts(r *rand.Rand) string {
	var b strings.Builder
	words := []string{"page", "store", "she", "sells", "sea", "shells", " ", " ", ", ", "\n", "0", "17", "\x00\x00\x00\x01"}
	for range 1 + r.IntN(6) {
		size, sort := r.IntN(20000), r.IntN(4)
		for end := b.Len() + size; b.Len() < end; {
			switch sort {
			case 0:
				b.WriteByte(byte(r.IntN(256)))
			case 1:
				b.WriteString(words[r.IntN(len(words))])
			case 2:
				b.WriteByte(byte(r.IntN(2)))
			default:
				b.WriteByte('a' + byte(r.IntN(1+r.IntN(26))))
			}
		}
	}
	return b.String()
}

// Parts of a text's tokens, each a block of its kind, are read by Go's own reader as the text.
func TestPartsAreRead(t *testing.T) {
	r := chance(6)
	for range 40 {
		text := texts(r)
		l, e := parse.Tokens("", text, r.IntN(8))
		if e != api.OK {
			t.Fatal(e)
		}
		follows(t, l, text)
		parts, _ := split.Parts(l, text)
		w, begin := bitw.New(far), 0
		for i, p := range parts {
			if e := block.Write(w, p.Kind, l[p.From:p.To], text[begin:begin+p.Size], i == len(parts)-1); e != api.OK {
				t.Fatal(e)
			}
			begin += p.Size
		}
		got, err := io.ReadAll(flate.NewReader(bytes.NewReader([]byte(w.Text()))))
		if err != nil || string(got) != text {
			t.Fatalf("%d bytes are read, not %d: %v", len(got), len(text), err)
		}
	}
}

// Of tokens that become their text, each part's bytes are its tokens' text behind all ahead.
func TestPartsAreTheirText(t *testing.T) {
	r := chance(7)
	for range 20 {
		text := texts(r)
		l, _ := parse.Tokens("", text, 1+r.IntN(6))
		parts, _ := split.Parts(l, text)
		begin := 0
		for _, p := range parts {
			own, e := token.Text(text[:begin], l[p.From:p.To])
			if e != api.OK || own != text[begin:begin+p.Size] {
				t.Fatalf("part %v: %d", p, e)
			}
			begin += p.Size
		}
	}
}

// As many tokens as can be, where all is joined, and where nothing is.
func TestPartsOfManyTokens(t *testing.T) {
	text := strings.Repeat("?", api.MaxText)
	l := mixed(api.MaxText)
	isParts(t, l, text, alone(l, stored), api.OK)
	l = stripes(api.MaxText)
	parts, e := split.Parts(l, text)
	if e != api.OK || len(parts) != 1024 {
		t.Fatalf("%d parts, %d", len(parts), e)
	}
	for i, p := range parts {
		want := api.Part{From: 1024 * i, To: 1024 * (i + 1), Size: 1024, Kind: stored}
		if i%2 == 1 {
			want.Kind = dynamic
		}
		if p != want {
			t.Fatalf("part %d is %v", i, p)
		}
	}
}

// R5: what is answered is nobody else's; R6: it is the same again, and nothing is kept from call to call.
func TestAnswersAreNewMemory(t *testing.T) {
	l := slices.Concat(stripes(3000), again(1500, match(30, 5)))
	text := rawOf(l)
	want, e := split.Parts(l, text)
	if e != api.OK {
		t.Fatal(e)
	}
	want = slices.Clone(want)
	for range 3 {
		parts, _ := split.Parts(l, text)
		parts = parts[:cap(parts)]
		for i := range parts {
			parts[i] = api.Part{From: 7, To: 7, Size: 7, Kind: 7}
		}
		// Other tokens, whose parts begin and end at the same places.
		split.Parts(mixed(len(l)), rawOf(mixed(len(l))))
		split.Kind(nil, "?")
	}
	isParts(t, l, text, want, api.OK)
	// Other tokens in the same memory have parts of their own.
	for i := range l {
		l[i] = api.Token{}
	}
	isParts(t, l, rawOf(l), alone(l, dynamic), api.OK)
}

// Nothing behind what is handed in is read, or changed.
func TestWhatStandsBehindIsNotTouched(t *testing.T) {
	all := append(mixed(2048), match(2, 2), match(-1, -1))
	kept := slices.Clone(all)
	isParts(t, all[:2048], rawOf(all[:2048]), alone(all[:2048], stored), api.OK)
	isKind(t, all[:2048], rawOf(all[:2048]), stored, 40+8*2048, api.OK)
	if !slices.Equal(all, kept) {
		t.Error("what stands behind was changed")
	}
}
