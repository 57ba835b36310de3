package token_test

import (
	"bytes"
	"math"
	"math/rand/v2"
	"slices"
	"strings"
	"testing"

	"platen/api"
	"platen/token"
)

const (
	window  = 32768
	maxText = 1048576
)

func chance() *rand.Rand {
	return rand.New(rand.NewPCG(9, 1951))
}

func lit(b byte) api.Token {
	return api.Token{Lit: b}
}

func match(size, dist int) api.Token {
	return api.Token{Len: size, Dist: dist}
}

// lits are the bytes of a text.
func lits(s string) []api.Token {
	var l []api.Token
	for i := range len(s) {
		l = append(l, lit(s[i]))
	}
	return l
}

// row puts tokens, and lists of them, one behind the other.
func row(parts ...any) []api.Token {
	var l []api.Token
	for _, p := range parts {
		switch x := p.(type) {
		case string:
			l = append(l, lits(x)...)
		case api.Token:
			l = append(l, x)
		case []api.Token:
			l = append(l, x...)
		}
	}
	return l
}

// numbers are those at which something changes, and the ends of what an int holds.
var numbers = []int{math.MinInt, math.MinInt + 1, -1 << 32, -window, -258, -3, -1, 0, 1, 2, 3, 4, 5, 100, 257, 258, 259, 260, 511, 512, 32766, 32767, 32768, 32769, 65535, 65536, 65537, 1 << 20, 1<<31 + 3, 1 << 32, 1<<32 + 1, 1<<32 + 3, 1<<62 + 3, math.MaxInt - 1, math.MaxInt}

var someBytes = []byte{0, 1, 'a', 127, 128, 254, 255}

// mayBe says it from what a token has besides.
func mayBe(t api.Token) bool {
	if t.Len == 0 || t.Dist == 0 {
		return t.Len == t.Dist
	}
	return t.Lit == 0 && 2 < t.Len && t.Len < 259 && 0 < t.Dist && t.Dist < 32769
}

// modelText has pieces that are repeated instead of bytes one by one.
func modelText(dict string, l []api.Token) (string, api.Errno) {
	s := []byte(dict)
	for _, t := range l {
		if !mayBe(t) {
			return "", api.ErrArg
		}
		piece := []byte{t.Lit}
		if t.Len > 0 {
			if t.Dist > len(s) {
				return "", api.ErrForm
			}
			piece = bytes.Repeat(s[len(s)-t.Dist:], t.Len/t.Dist+1)[:t.Len]
		}
		s = append(s, piece...)
		if len(s) > maxText+len(dict) {
			return "", api.ErrLong
		}
	}
	return string(s[len(dict):]), api.OK
}

func short(s string) string {
	if len(s) > 40 {
		return s[:40] + ".."
	}
	return s
}

func texts(t *testing.T, what, dict string, l []api.Token, want string, wantE api.Errno) {
	t.Helper()
	got, e := token.Text(dict, l)
	if got != want || e != wantE {
		t.Errorf("%s: Text behind %d bytes: %q (%d bytes), %d, not %q (%d bytes), %d", what, len(dict), short(got), len(got), e, short(want), len(want), wantE)
	}
}

// asModel asks for what the model tells, and tells it.
func asModel(t *testing.T, what, dict string, l []api.Token) (string, api.Errno) {
	t.Helper()
	want, e := modelText(dict, l)
	texts(t, what, dict, l, want, e)
	return want, e
}

func TestExample(t *testing.T) {
	l := []api.Token{{Lit: 'a'}, {Len: 4, Dist: 1}}
	texts(t, "the example", "", l, "aaaaa", api.OK)
	if n := token.Size(l); n != 5 {
		t.Errorf("Size: %d", n)
	}
	for _, x := range l {
		if !token.May(x) {
			t.Errorf("%v may not be", x)
		}
	}
	if !token.Same(l, []api.Token{{Lit: 'a'}, {Len: 4, Dist: 1}}) {
		t.Error("they are not the same")
	}
}

func TestMayByHand(t *testing.T) {
	for _, c := range []struct {
		what string
		t    api.Token
		want bool
	}{
		{"nothing but zero", api.Token{}, true},
		{"a byte", lit('a'), true},
		{"byte 127", lit(127), true},
		{"byte 128", lit(128), true},
		{"byte 255", lit(255), true},
		{"a byte with a Dist", api.Token{Lit: 'a', Dist: 1}, false},
		{"byte 0 with a Dist", api.Token{Dist: 1}, false},
		{"byte 0 with a great Dist", api.Token{Dist: window}, false},
		{"byte 0 with a Dist below 0", api.Token{Dist: -1}, false},
		{"a byte with a Len", api.Token{Lit: 'a', Len: 3}, false},
		{"byte 0 with a Len", api.Token{Len: 3}, false},
		{"byte 0 with Len 1", api.Token{Len: 1}, false},
		{"byte 0 with a Len below 0", api.Token{Len: -1}, false},
		{"the least match", match(3, 1), true},
		{"with a Lit", api.Token{Lit: 'a', Len: 3, Dist: 1}, false},
		{"with Lit 1", api.Token{Lit: 1, Len: 3, Dist: 1}, false},
		{"with Lit 128", api.Token{Lit: 128, Len: 258, Dist: window}, false},
		{"Len 1", match(1, 1), false},
		{"Len 2", match(2, 1), false},
		{"Len 258", match(258, 1), true},
		{"Len 259", match(259, 1), false},
		{"Len below 0", match(-3, 1), false},
		{"the least Len", match(math.MinInt, 1), false},
		{"the greatest Len", match(math.MaxInt, 1), false},
		{"the greatest Dist that may be", match(3, window), true},
		{"one more", match(3, window+1), false},
		{"Dist 0", match(3, 0), false},
		{"Dist below 0", match(3, -1), false},
		{"the least Dist", match(3, math.MinInt), false},
		{"the greatest Dist", match(3, math.MaxInt), false},
		{"both below 0", match(-3, -3), false},
		{"the greatest that may be", match(258, window), true},
		{"turned about", match(window, 258), false},
		{"Len of another width", match(1<<32+3, 1), false},
		{"Len of another width, 0", match(1<<32, 0), false},
		{"Dist of another width", match(3, 1<<32+1), false},
		{"Dist of another width, 0", match(0, 1<<32), false},
	} {
		if got := token.May(c.t); got != c.want {
			t.Errorf("%s: May: %v", c.what, got)
		}
		if got := mayBe(c.t); got != c.want {
			t.Errorf("%s: the model: %v", c.what, got)
		}
	}
}

// TestEachOne: May, Size and Text of each token of numbers at which something changes.
func TestEachOne(t *testing.T) {
	dict := strings.Repeat("abcdefg", window/7+1)
	for _, size := range numbers {
		for _, dist := range numbers {
			for _, b := range someBytes {
				x := api.Token{Lit: b, Len: size, Dist: dist}
				if got := token.May(x); got != mayBe(x) {
					t.Fatalf("May(%v): %v", x, got)
				}
				want := 0
				if mayBe(x) {
					want = max(size, 1)
				}
				if got := token.Size([]api.Token{x}); got != want {
					t.Fatalf("Size of %v: %d, not %d", x, got, want)
				}
				asModel(t, "one token", "", []api.Token{x})
				if s, e := asModel(t, "one token", dict, []api.Token{x}); (e == api.OK) != mayBe(x) || len(s) != want {
					t.Fatalf("Text of %v: %q, %d", x, s, e)
				}
			}
		}
	}
}

// TestMayOfAll: each Len near those that may be, with each Dist near the edges; and each Dist.
func TestMayOfAll(t *testing.T) {
	for size := -2; size < 600; size++ {
		for _, dist := range numbers {
			if x := match(size, dist); token.May(x) != mayBe(x) {
				t.Fatalf("May(%v): %v", x, token.May(x))
			}
		}
	}
	for dist := -2; dist < 3*window; dist++ {
		for _, size := range []int{0, 1, 2, 3, 4, 257, 258, 259} {
			if x := match(size, dist); token.May(x) != mayBe(x) {
				t.Fatalf("May(%v): %v", x, token.May(x))
			}
		}
	}
	for b := range 256 {
		if !token.May(lit(byte(b))) {
			t.Fatalf("byte %d may not be", b)
		}
		if x := (api.Token{Lit: byte(b), Len: 3, Dist: 1}); token.May(x) != (b == 0) {
			t.Fatalf("May(%v): %v", x, token.May(x))
		}
	}
}

func TestSizeByHand(t *testing.T) {
	bad := []api.Token{{Lit: 1, Dist: 1}, {Len: 3}, {Len: 2, Dist: 1}, {Len: 259, Dist: 1}, {Len: 3, Dist: window + 1}, {Lit: 1, Len: 9, Dist: 1}, {Len: -9, Dist: 1}, {Len: math.MaxInt, Dist: 1}, {Len: math.MinInt, Dist: math.MinInt}}
	for _, c := range []struct {
		what string
		l    []api.Token
		want int
	}{
		{"nil", nil, 0},
		{"none", []api.Token{}, 0},
		{"a byte", row("a"), 1},
		{"byte 0", row("\x00"), 1},
		{"byte 255", row("\xFF"), 1},
		{"bytes", row("abc\x80\xFF"), 5},
		{"the least match", row(match(3, 1)), 3},
		{"the greatest match", row(match(258, window)), 258},
		{"a match that reaches too far", row("a", match(9, 2)), 10},
		{"bytes and matches", row("ab", match(3, 1), "c", match(258, 7), match(4, 4)), 268},
		{"some that may not be", bad, 0},
		{"some that may not be first", row(bad, "ab", match(3, 1)), 5},
		{"some that may not be last", row("ab", match(3, 1), bad), 5},
		{"some that may not be between", row("a", bad, "b", bad, match(3, 1), bad, "c"), 6},
	} {
		if got := token.Size(c.l); got != c.want {
			t.Errorf("%s: Size: %d, not %d", c.what, got, c.want)
		}
	}
}

// TestSizeOfMany: more than a text may have.
func TestSizeOfMany(t *testing.T) {
	if got := token.Size(slices.Repeat(row(match(258, 1)), 100000)); got != 25800000 {
		t.Errorf("matches: %d", got)
	}
	if got := token.Size(make([]api.Token, 2*maxText+1)); got != 2*maxText+1 {
		t.Errorf("bytes: %d", got)
	}
}

func TestSameByHand(t *testing.T) {
	ab := row("ab", match(3, 2))
	for _, c := range []struct {
		what string
		a, b []api.Token
		want bool
	}{
		{"nil", nil, nil, true},
		{"none and nil", []api.Token{}, nil, true},
		{"none", []api.Token{}, []api.Token{}, true},
		{"none and one", nil, row("a"), false},
		{"none and the zero token", nil, []api.Token{{}}, false},
		{"one more zero token", row("a"), row("a\x00"), false},
		{"alike", ab, row("ab", match(3, 2)), true},
		{"one begins as the other one", ab, ab[:2], false},
		{"one ends as the other one", ab, ab[1:], false},
		{"another Lit", ab, row("ac", match(3, 2)), false},
		{"another first Lit", ab, row("bb", match(3, 2)), false},
		{"another Len", ab, row("ab", match(4, 2)), false},
		{"another Dist", ab, row("ab", match(3, 1)), false},
		{"turned about", ab, row("ba", match(3, 2)), false},
		{"another order", ab, row("a", match(3, 2), "b"), false},
		{"one text, other tokens", row("aaaaa"), row("a", match(4, 1)), false},
		{"one text, other distances", row("aaa", match(3, 1)), row("aaa", match(3, 2)), false},
		{"some that may not be", row(match(-1, 7), api.Token{Lit: 1, Len: 2}), row(match(-1, 7), api.Token{Lit: 1, Len: 2}), true},
		{"some that may not be, another Len", row(match(-1, 7)), row(match(-2, 7)), false},
		{"some that may not be, another Dist", row(match(1, -7)), row(match(1, 7)), false},
		{"some that may not be, another Lit", row(api.Token{Lit: 1, Len: 3, Dist: 1}), row(api.Token{Lit: 2, Len: 3, Dist: 1}), false},
		{"Len of another width", row(match(3, 1)), row(match(1<<32+3, 1)), false},
		{"Dist of another width", row(match(3, 1)), row(match(3, 1<<32+1)), false},
		{"great ones", row(match(math.MaxInt, math.MinInt)), row(match(math.MaxInt, math.MinInt)), true},
	} {
		if got := token.Same(c.a, c.b); got != c.want {
			t.Errorf("%s: Same: %v", c.what, got)
		}
		if got := token.Same(c.b, c.a); got != c.want {
			t.Errorf("%s, turned about: Same: %v", c.what, got)
		}
		if !token.Same(c.a, c.a) || !token.Same(c.b, slices.Clone(c.b)) {
			t.Errorf("%s: not the same as itself", c.what)
		}
	}
}

// TestSameOneChanged: wherever one of many is another one.
func TestSameOneChanged(t *testing.T) {
	l := slices.Repeat(row("ab", match(3, 2)), 20)
	for at := range l {
		for _, change := range []api.Token{{Lit: 1}, {Len: 1}, {Dist: 1}} {
			other := slices.Clone(l)
			other[at].Lit += change.Lit
			other[at].Len += change.Len
			other[at].Dist += change.Dist
			if token.Same(l, other) || token.Same(other, l) {
				t.Fatalf("the same, with another one at %d", at)
			}
		}
		if token.Same(l, l[:at]) || token.Same(l[:at], l) {
			t.Fatalf("the same as the first %d", at)
		}
	}
}

func TestTextByHand(t *testing.T) {
	for _, c := range []struct {
		what string
		dict string
		l    []api.Token
		want string
		e    api.Errno
	}{
		{"nil", "", nil, "", api.OK},
		{"none", "", []api.Token{}, "", api.OK},
		{"none behind a dictionary", "abc", nil, "", api.OK},
		{"a byte", "", row("a"), "a", api.OK},
		{"a byte behind a dictionary", "abc", row("d"), "d", api.OK},
		{"bytes", "", row("a\x00b\x7F\x80\xFF"), "a\x00b\x7F\x80\xFF", api.OK},
		{"the zero token", "", []api.Token{{}}, "\x00", api.OK},

		{"into itself by 1", "", row("a", match(3, 1)), "aaaa", api.OK},
		{"into itself by 1, far", "", row("a", match(258, 1)), strings.Repeat("a", 259), api.OK},
		{"into itself by 2", "", row("ab", match(5, 2)), "abababa", api.OK},
		{"into itself by 2, even", "", row("ab", match(4, 2)), "ababab", api.OK},
		{"into itself by 3", "", row("abc", match(7, 3)), "abcabcabca", api.OK},
		{"just as long as Dist", "", row("abc", match(3, 3)), "abcabc", api.OK},
		{"longer than Dist by one", "", row("abc", match(4, 3)), "abcabca", api.OK},
		{"less than Dist by one", "", row("abcd", match(3, 4)), "abcdabc", api.OK},
		{"less than Dist", "", row("abcdefg", match(3, 5)), "abcdefgcde", api.OK},
		{"byte 0 and bytes above 127", "", row("\x00\xFF\x80", match(6, 3)), "\x00\xFF\x80\x00\xFF\x80\x00\xFF\x80", api.OK},
		{"a match of a match", "", row("ab", match(3, 2), match(5, 4), "c", match(3, 2)), "ababa" + "babab" + "c" + "bcb", api.OK},
		{"bytes behind a match", "", row("abc", match(3, 3), "xyz"), "abcabcxyz", api.OK},

		{"the dictionary's last byte", "xyz", row(match(3, 1)), "zzz", api.OK},
		{"the dictionary's first byte", "xyz", row(match(3, 3)), "xyz", api.OK},
		{"from the dictionary over into the text", "xyz", row("a", match(6, 4)), "axyzaxy", api.OK},
		{"from the dictionary over into itself", "xyz", row(match(7, 2)), "yzyzyzy", api.OK},
		{"in the dictionary alone", "uvwxyz", row(match(3, 5)), "vwx", api.OK},
		{"the dictionary behind bytes", "xyz", row("abc", match(3, 6)), "abcxyz", api.OK},

		{"ahead of all", "", row(match(3, 1)), "", api.ErrForm},
		{"ahead of the dictionary by one", "xyz", row(match(3, 4)), "", api.ErrForm},
		{"ahead of the dictionary, behind a byte", "xyz", row("a", match(3, 5)), "", api.ErrForm},
		{"ahead of the text by one", "", row("a", match(3, 2)), "", api.ErrForm},
		{"far ahead", "xyz", row("a", match(3, window)), "", api.ErrForm},
		{"behind a match there is more", "", row("a", match(3, 1), match(3, 4)), "aaaaaaa", api.OK},
		{"behind a match there is not so much", "", row("a", match(3, 1), match(3, 5)), "", api.ErrForm},
		{"the last one reaches too far", "", row("abcdef", match(3, 6), match(3, 10)), "", api.ErrForm},

		{"a byte with a Dist", "abc", row("a", api.Token{Lit: 'a', Dist: 1}), "", api.ErrArg},
		{"a byte with a Len", "abc", row("a", api.Token{Lit: 'a', Len: 3}), "", api.ErrArg},
		{"a match with a Lit", "abc", row("a", api.Token{Lit: 'a', Len: 3, Dist: 1}), "", api.ErrArg},
		{"Len 2", "abc", row("a", match(2, 1)), "", api.ErrArg},
		{"Len 259", "abc", row("a", match(259, 1)), "", api.ErrArg},
		{"Len below 0", "abc", row("a", match(-1, 1)), "", api.ErrArg},
		{"Dist 0", "abc", row("a", match(3, 0)), "", api.ErrArg},
		{"Dist below 0", "abc", row("a", match(3, -1)), "", api.ErrArg},
		{"Dist above Window", "abc", row("a", match(3, window+1)), "", api.ErrArg},
		{"Dist above Window at the beginning", "", row(match(3, window+1)), "", api.ErrArg},

		{"one that may not be, then too far", "", row("a", match(2, 1), match(3, 2)), "", api.ErrArg},
		{"too far, then one that may not be", "", row("a", match(3, 2), match(2, 1)), "", api.ErrForm},
		{"one that may not be, and reaches too far", "", row("a", match(2, 9)), "", api.ErrArg},
		{"one that may not be, with a Lit, and reaches too far", "", row("a", api.Token{Lit: 1, Len: 3, Dist: 9}), "", api.ErrArg},
		{"too far, then bytes", "", row("a", match(3, 2), "bcd"), "", api.ErrForm},
		{"one that may not be, then bytes", "", row("a", match(3, 0), "bcd"), "", api.ErrArg},
		{"one that may not be first", "", row(match(3, 0), "bcd"), "", api.ErrArg},
	} {
		texts(t, c.what, c.dict, c.l, c.want, c.e)
		if got, e := modelText(c.dict, c.l); got != c.want || e != c.e {
			t.Errorf("%s: the model: %q, %d", c.what, got, e)
		}
	}
}

// spread is a text of n bytes, of which no long pieces are alike.
func spread(n int) string {
	r := chance()
	b := make([]byte, n)
	for i := range b {
		b[i] = byte(r.IntN(256))
	}
	return string(b)
}

// TestEachReach: matches of each Len about each Dist, from a dictionary and from a text.
func TestEachReach(t *testing.T) {
	s := spread(40)
	for have := range 14 {
		for inDict := range have + 1 {
			for dist := 1; dist < 16; dist++ {
				for size := 3; size < 34; size++ {
					dict := s[:inDict]
					l := row(s[inDict:have], match(size, dist), "end")
					if _, e := asModel(t, "reach", dict, l); (e == api.OK) != (dist <= have) {
						t.Fatalf("%d ahead, %d in the dictionary, match %d of %d: %d", have, inDict, size, dist, e)
					}
				}
			}
		}
	}
}

// TestByteByByte: each byte of a match is what stands Dist ahead of it.
func TestByteByByte(t *testing.T) {
	dict := spread(window)
	for _, size := range []int{3, 4, 100, 257, 258} {
		for _, dist := range []int{1, 2, 3, 4, 99, 100, 101, 257, 258, 259, 260, 1000, window - 2, window - 1, window} {
			s, e := token.Text(dict, row("xyz", match(size, dist)))
			if e != api.OK || len(s) != size+3 || s[:3] != "xyz" {
				t.Fatalf("match %d of %d: %q, %d", size, dist, short(s), e)
			}
			all := dict + s
			for i := len(dict) + 3; i < len(all); i++ {
				if all[i] != all[i-dist] {
					t.Fatalf("match %d of %d: another byte at %d", size, dist, i-len(dict))
				}
			}
		}
	}
}

// TestWindow: how far a match reaches into dictionaries of about a Window, and of far more.
func TestWindow(t *testing.T) {
	long := spread(maxText + 2*window + 7)
	for _, n := range []int{window - 2, window - 1, window, window + 1, window + 2, 2 * window, maxText - 1, maxText, maxText + 1, len(long)} {
		dict := long[len(long)-n:]
		for _, dist := range []int{1, 2, window - 2, window - 1, window} {
			want, e := "", api.ErrForm
			if dist <= n {
				from := n - dist
				want, e = strings.Repeat(dict[from:min(n, from+258)], 258)[:258], api.OK
			}
			texts(t, "the window", dict, row(match(258, dist)), want, e)
		}
		texts(t, "beyond the window", dict, row(match(3, window+1)), "", api.ErrArg)
		asModel(t, "the window", dict, row("ab", match(9, window), match(258, window), "c", match(3, 11)))
	}
	texts(t, "nothing behind a long dictionary", long, nil, "", api.OK)
}

// TestTextBehindItself: a match at the window's end, in a text far longer, without a dictionary.
func TestTextBehindItself(t *testing.T) {
	s := spread(window)
	for _, c := range []struct {
		have, dist int
		e          api.Errno
	}{{window - 1, window - 1, api.OK}, {window - 1, window, api.ErrForm}, {window, window, api.OK}} {
		l := row(s[:c.have], match(258, c.dist))
		want := s[:c.have] + s[:258]
		if c.e != api.OK {
			want = ""
		}
		texts(t, "behind itself", "", l, want, c.e)
	}
	l := row(s, match(200, window), match(100, window), match(200, window))
	texts(t, "far behind", "", l, s+s[:500], api.OK)
}

// full has just so many bytes: byte a, and matches of it, but for the last few.
func full(n int) []api.Token {
	l := row("a")
	for n--; n >= 300; n -= 258 {
		l = append(l, match(258, 1))
	}
	return append(l, lits(strings.Repeat("a", n))...)
}

func TestMaxText(t *testing.T) {
	whole := strings.Repeat("a", maxText)
	bad := api.Token{Len: 3}
	for _, c := range []struct {
		what string
		l    []api.Token
		want string
		e    api.Errno
	}{
		{"one less", full(maxText - 1), whole[1:], api.OK},
		{"just as many", full(maxText), whole, api.OK},
		{"a byte more", full(maxText + 1), "", api.ErrLong},
		{"bytes alone", lits(whole), whole, api.OK},
		{"bytes alone, one more", lits(whole + "a"), "", api.ErrLong},
		{"up to it by a match", row(full(maxText-258), match(258, 1)), whole, api.OK},
		{"up to it by a short match", row(full(maxText-3), match(3, window)), whole, api.OK},
		{"one more by a match", row(full(maxText-257), match(258, 1)), "", api.ErrLong},
		{"one more by a short match", row(full(maxText-2), match(3, window)), "", api.ErrLong},
		{"a match behind it", row(full(maxText), match(258, 9)), "", api.ErrLong},
		{"a short match behind it", row(full(maxText), match(3, 1)), "", api.ErrLong},
		{"byte 0 behind it", row(full(maxText), "\x00"), "", api.ErrLong},
		{"far more", full(3 * maxText), "", api.ErrLong},
		{"one that may not be behind it", row(full(maxText), bad), "", api.ErrArg},
		{"one that may not be, and is long, behind it", row(full(maxText), match(259, 1)), "", api.ErrArg},
		{"one that reaches beyond Window behind it", row(full(maxText), match(3, window+1)), "", api.ErrArg},
		{"one that may not be, then a byte", row(full(maxText), bad, "a"), "", api.ErrArg},
		{"a byte, then one that may not be", row(full(maxText), "a", bad), "", api.ErrLong},
		{"a match, then one that may not be", row(full(maxText-2), match(3, 1), bad), "", api.ErrLong},
		{"one that may not be ahead of the match", row(full(maxText-2), bad, match(3, 1)), "", api.ErrArg},
		{"too far, then too many", row(match(3, 1), full(maxText+1)), "", api.ErrForm},
		{"too far behind a byte, then too many", row("a", match(3, 2), full(maxText+1)), "", api.ErrForm},
		{"one that may not be, then too many", row(bad, full(maxText+1)), "", api.ErrArg},
		{"too many, then too far", row(full(maxText+1), match(3, window)), "", api.ErrLong},
	} {
		for _, dict := range []string{"", "b", whole[:window], whole + whole} {
			if strings.HasPrefix(c.what, "too far") && len(dict) > 0 {
				continue
			}
			texts(t, c.what, dict, c.l, c.want, c.e)
		}
	}
}

// TestDictionaryDoesNotCount: a dictionary is no part of the text, whatever its size.
func TestDictionaryDoesNotCount(t *testing.T) {
	for _, n := range []int{1, 258, window, maxText - 1, maxText, maxText + 1} {
		texts(t, "a byte", strings.Repeat("d", n), row("a"), "a", api.OK)
		texts(t, "a match", strings.Repeat("d", n), row(match(5, 1)), "ddddd", api.OK)
	}
}

// chanceTokens are some that have enough ahead of them, as long as bad is 0; else each bad-th has not, or may not be.
func chanceTokens(r *rand.Rand, ahead, n, bad int) []api.Token {
	l := []api.Token{}
	for range n {
		x := lit(byte(r.IntN(256)))
		if ahead > 0 && r.IntN(2) == 0 {
			x = match(3+r.IntN(12), 1+r.IntN(min(ahead, window)))
			if r.IntN(5) == 0 {
				x.Len = 3 + r.IntN(256)
			}
		}
		if bad > 0 && r.IntN(bad) == 0 {
			switch r.IntN(5) {
			case 0:
				x.Lit++
			case 1:
				x.Len += r.IntN(5) - 2
			case 2:
				x.Dist += r.IntN(5) - 2
			case 3:
				x = match(3+r.IntN(3), ahead+r.IntN(3))
			case 4:
				x = match(numbers[r.IntN(len(numbers))], numbers[r.IntN(len(numbers))])
			}
		}
		l = append(l, x)
		ahead += token.Size([]api.Token{x})
	}
	return l
}

func TestChance(t *testing.T) {
	r := chance()
	seen := map[api.Errno]int{}
	for range 20000 {
		dict := spread(r.IntN(20))
		l := chanceTokens(r, len(dict), r.IntN(30), r.IntN(3)*20)
		s, e := asModel(t, "chance", dict, l)
		if e == api.OK && len(s) != token.Size(l) {
			t.Fatalf("Size: %d, of %d bytes", token.Size(l), len(s))
		}
		seen[e]++
		if t.Failed() {
			return
		}
	}
	if min(seen[api.OK], seen[api.ErrArg], seen[api.ErrForm]) < 500 {
		t.Errorf("too few of a kind: %v", seen)
	}
}

// TestOneBehindTheOther is what follows (P9.3), cut at each place: what stood ahead may be shortened to a Window.
func TestOneBehindTheOther(t *testing.T) {
	r := chance()
	for range 200 {
		dict := spread(r.IntN(9))
		l := chanceTokens(r, len(dict), 60, 0)
		cutAtEach(t, dict, l)
	}
	long := spread(window + 50)
	cutAtEach(t, long, row("ab", match(258, window), match(9, window), "c", match(100, 258), match(258, 1), match(3, window)))
	cutAtEach(t, long[:window], row(match(4, window), match(258, window-3), match(5, 5)))
}

func cutAtEach(t *testing.T, dict string, l []api.Token) {
	t.Helper()
	whole, e := token.Text(dict, l)
	if e != api.OK {
		t.Fatalf("the whole text: %d", e)
	}
	for at := range len(l) + 1 {
		first, e := token.Text(dict, l[:at])
		if e != api.OK || len(first) != token.Size(l[:at]) || !strings.HasPrefix(whole, first) {
			t.Fatalf("the first %d: %q, %d", at, short(first), e)
		}
		ahead := dict + first
		texts(t, "the rest", ahead, l[at:], whole[len(first):], api.OK)
		texts(t, "the rest, behind a Window", ahead[max(0, len(ahead)-window):], l[at:], whole[len(first):], api.OK)
		if token.Size(l[:at])+token.Size(l[at:]) != token.Size(l) {
			t.Fatalf("Size of both parts, cut at %d", at)
		}
	}
}

// TestFirstFaultAnswers: what stands behind a token that is refused changes nothing.
func TestFirstFaultAnswers(t *testing.T) {
	faults := []struct {
		t api.Token
		e api.Errno
	}{{match(2, 1), api.ErrArg}, {match(3, 30), api.ErrForm}, {api.Token{Dist: 1}, api.ErrArg}, {match(258, window), api.ErrForm}, {match(3, window+1), api.ErrArg}}
	good := row("abc", match(3, 2), "d", match(4, 1))
	for at := range len(good) + 1 {
		for _, first := range faults {
			for _, second := range faults {
				l := row(good[:at], first.t, good[at:], second.t)
				texts(t, "two faults", "", l, "", first.e)
				texts(t, "two faults", "dict", l, "", first.e)
			}
		}
	}
}

func TestArgumentsStay(t *testing.T) {
	l := row("abc", match(3, 2), match(2, 1), api.Token{Lit: 1, Dist: 1}, "d", match(258, 1))
	kept := slices.Clone(l)
	other := slices.Clone(l)
	for range 2 {
		token.Text("dict", l)
		token.Text("", l[:4])
		token.Size(l)
		token.Same(l, other)
		for _, x := range l {
			token.May(x)
		}
	}
	if !slices.Equal(l, kept) || !slices.Equal(other, kept) {
		t.Errorf("changed: %v, %v", l, other)
	}
}

// TestAlikeAgain: what is asked twice is answered alike, whatever was asked between.
func TestAlikeAgain(t *testing.T) {
	l := row("abc", match(9, 3))
	first, _ := token.Text("dict", l)
	token.Text("another one", row("x", match(200, 1)))
	token.Text("", row(match(3, 1)))
	l[0] = lit('x')
	second, _ := token.Text("dict", l)
	l[0] = lit('a')
	third, _ := token.Text("dict", l)
	if first != "abcabcabcabc" || second != "xbcxbcxbcxbc" || third != first {
		t.Errorf("%q, %q, %q", first, second, third)
	}
}
