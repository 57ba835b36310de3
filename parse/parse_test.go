package parse_test

import (
	"math"
	"math/rand/v2"
	"slices"
	"strings"
	"testing"

	"platen/api"
	"platen/parse"
	"platen/token"
)

const (
	window   = 32768
	maxText  = 1048576
	maxMatch = 258
)

// settings are the levels of the document.
var settings = []struct{ depth, nice, lazy int }{
	{0, 0, 0},
	{4, 8, 0},
	{8, 16, 0},
	{16, 32, 0},
	{8, 16, 4},
	{16, 32, 16},
	{64, 128, 16},
	{128, 128, 32},
	{512, 258, 128},
	{2048, 258, 258},
}

// noLevels are numbers beside those of levels.
var noLevels = []int{math.MinInt, math.MinInt + 1, -1 << 32, -10, -9, -2, -1, 10, 11, 12, 99, 255, 256, 1 << 16, 1 << 31, 1 << 32, 1<<32 + 6, 1<<62 + 9, math.MaxInt - 1, math.MaxInt}

func chance() *rand.Rand {
	return rand.New(rand.NewPCG(10, 1951))
}

func lit(b byte) api.Token {
	return api.Token{Lit: b}
}

func match(size, dist int) api.Token {
	return api.Token{Len: size, Dist: dist}
}

// row puts tokens, lists of them, and the bytes of texts one behind the other.
func row(parts ...any) []api.Token {
	var l []api.Token
	for _, p := range parts {
		switch x := p.(type) {
		case string:
			for i := range len(x) {
				l = append(l, lit(x[i]))
			}
		case api.Token:
			l = append(l, x)
		case []api.Token:
			l = append(l, x...)
		}
	}
	return l
}

// distinct is a text of bytes below 200 in which no three bytes stand twice; bytes from 200 on part pieces of it.
func distinct(n int) string {
	r := chance()
	seen := map[string]bool{}
	var b []byte
	for len(b) < n {
		b = append(b, byte(r.IntN(200)))
		if at := len(b) - 3; at >= 0 {
			if seen[string(b[at:])] {
				b = b[:len(b)-1]
				continue
			}
			seen[string(b[at:])] = true
		}
	}
	return string(b)
}

// pieces stand one behind the other, each with a byte behind it that stands nowhere else.
func pieces(l ...string) string {
	return strings.Join(l, "\xFE") + "\xFE"
}

// few shortens a list that is told.
func few(l []api.Token) []api.Token {
	return l[:min(len(l), 12)]
}

func short(s string) string {
	return s[:min(len(s), 40)]
}

func tokens(t *testing.T, what, dict, text string, level int, want []api.Token) {
	t.Helper()
	got, e := parse.Tokens(dict, text, level)
	if !slices.Equal(got, want) || e != api.OK {
		t.Errorf("%s: Tokens of %d bytes behind %d by level %d: %v (%d tokens), %d, not %v (%d tokens)", what, len(text), len(dict), level, few(got), len(got), e, few(want), len(want))
	}
	follows(t, what, dict, text, level, got)
}

// follows is P10.2: the tokens may be, and are the text.
func follows(t *testing.T, what, dict, text string, level int, l []api.Token) {
	t.Helper()
	if s, e := token.Text(dict, l); s != text || e != api.OK {
		t.Errorf("%s: the tokens by level %d are %q (%d bytes), %d, not %q (%d bytes)", what, level, short(s), len(s), e, short(text), len(text))
	}
}

// allLevels asks by each level but 0, which has the text's bytes.
func allLevels(t *testing.T, what, dict, text string, want []api.Token) {
	t.Helper()
	tokens(t, what, dict, text, 0, row(text))
	for level := 1; level < 10; level++ {
		tokens(t, what, dict, text, level, want)
	}
}

// alike tells how many bytes are the same at two places, a text's end and the greatest length kept.
func alike(s string, a, b int) int {
	n := 0
	for n < maxMatch && b+n < len(s) && s[a+n] == s[b+n] {
		n++
	}
	return n
}

// modelFind goes through each distance, with nothing kept.
func modelFind(s string, at, level, over int) api.Match {
	var m api.Match
	left := settings[level].depth
	for dist := 1; dist <= min(at, window) && left > 0; dist++ {
		n := alike(s, at-dist, at)
		if n < 3 {
			continue
		}
		left--
		if n > max(over, m.Len) {
			m = api.Match{Len: n, Dist: dist}
		}
		if n >= settings[level].nice {
			break
		}
	}
	return m
}

// modelTokens takes a token at each turn; what the turn ahead found for the place is kept. The whole dictionary stays.
func modelTokens(dict, text string, level int) []api.Token {
	s := dict + text
	var l []api.Token
	var kept api.Match
	for at := len(dict); at < len(s); {
		m := kept
		if m.Len == 0 {
			m = modelFind(s, at, level, 2)
		}
		kept = api.Match{}
		if m.Len > 0 && m.Len < settings[level].lazy && at+1 < len(s) {
			kept = modelFind(s, at+1, level, m.Len)
		}
		if m.Len == 0 || kept.Len > 0 {
			l = append(l, lit(s[at]))
			at++
			continue
		}
		l = append(l, match(m.Len, m.Dist))
		at += m.Len
	}
	return l
}

func TestLevel(t *testing.T) {
	for level, s := range settings {
		depth, nice, lazy, is := parse.Level(level)
		if depth != s.depth || nice != s.nice || lazy != s.lazy || !is {
			t.Errorf("Level(%d): %d, %d, %d, %v", level, depth, nice, lazy, is)
		}
	}
	for _, level := range noLevels {
		depth, nice, lazy, is := parse.Level(level)
		if depth != 0 || nice != 0 || lazy != 0 || is {
			t.Errorf("Level(%d): %d, %d, %d, %v", level, depth, nice, lazy, is)
		}
	}
	if len(settings) != api.Levels {
		t.Errorf("%d levels", api.Levels)
	}
}

func TestExample(t *testing.T) {
	tokens(t, "the example", "", "abcabcabc", 6, []api.Token{{Lit: 'a'}, {Lit: 'b'}, {Lit: 'c'}, {Len: 6, Dist: 3}})
}

func refused(t *testing.T, what, dict, text string, level int, want api.Errno) {
	t.Helper()
	if l, e := parse.Tokens(dict, text, level); len(l) != 0 || e != want {
		t.Errorf("%s: Tokens of %d bytes behind %d by level %d: %v, %d", what, len(text), len(dict), level, few(l), e)
	}
}

func TestRefused(t *testing.T) {
	whole := strings.Repeat("a", maxText)
	for _, level := range noLevels {
		refused(t, "no text by no level", "", "", level, api.ErrArg)
		refused(t, "a text by no level", "", "abcabcabc", level, api.ErrArg)
		refused(t, "behind a dictionary by no level", "abc", "abc", level, api.ErrArg)
		refused(t, "a great text by no level", "", whole, level, api.ErrArg)
		refused(t, "too many bytes by no level", "", whole+"a", level, api.ErrArg)
		refused(t, "far too many bytes by no level", whole+whole, whole+whole, level, api.ErrArg)
	}
	for level := range 10 {
		refused(t, "one more", "", whole+"a", level, api.ErrLong)
		refused(t, "one more behind a dictionary", "abc", whole+"a", level, api.ErrLong)
		refused(t, "one more behind a long one", whole+whole, "b"+whole, level, api.ErrLong)
		refused(t, "twice as many", "", whole+whole, level, api.ErrLong)
	}
}

// TestMaxText: a text of just so many bytes, whatever the dictionary has.
func TestMaxText(t *testing.T) {
	whole := strings.Repeat("a", maxText)
	// 1048576 is 1, 4064 times 258, and 63; or 4064 times 258, and 64.
	tail := slices.Repeat(row(match(258, 1)), 4064)
	for level := range 10 {
		alone, behind := row("a", tail, match(63, 1)), row(tail, match(64, 1))
		if level == 0 {
			alone, behind = row(whole), row(whole)
		}
		tokens(t, "alone", "", whole, level, alone)
		tokens(t, "behind one byte", "a", whole, level, behind)
		if level%3 == 0 {
			tokens(t, "behind as many", whole, whole, level, behind)
			tokens(t, "behind more", whole+"a", whole, level, behind)
		}
	}
	s := distinct(window)
	dict := strings.Repeat(s, 2*maxText/window+1)
	allLevels(t, "behind more than MaxText", dict, s[:9], row(match(9, window)))
	allLevels(t, "one byte behind more than MaxText", dict, "\xFE", row("\xFE"))
	allLevels(t, "none behind more than MaxText", dict, "", nil)
}

func TestByHand(t *testing.T) {
	for _, c := range []struct {
		what       string
		dict, text string
		want       []api.Token
	}{
		{"no text", "", "", nil},
		{"no text behind a dictionary", "abc", "", nil},
		{"no text behind what is alike", "aaaaaaaa", "", nil},
		{"one byte", "", "a", row("a")},
		{"byte 0", "", "\x00", row("\x00")},
		{"byte 255", "", "\xFF", row("\xFF")},
		{"two bytes", "", "aa", row("aa")},
		{"three bytes", "", "aaa", row("aaa")},
		{"four bytes", "", "aaaa", row("a", match(3, 1))},
		{"four bytes, two and two", "", "abab", row("abab")},
		{"five bytes, two and two", "", "ababa", row("ab", match(3, 2))},
		{"three bytes behind one", "a", "aaa", row(match(3, 1))},
		{"two bytes behind one", "a", "aa", row("aa")},
		{"two bytes behind many", "aaaaaa", "aa", row("aa")},
		{"two bytes behind the same", "ab", "ab", row("ab")},
		{"one byte behind many", "aaaaaa", "a", row("a")},
		{"nothing is alike", "", "abcdefghijklm", row("abcdefghijklm")},
		{"two bytes are alike", "", "abxabyabz", row("abxabyabz")},

		{"the example", "", "abcabcabc", row("abc", match(6, 3))},
		{"at the last place but two", "", "abcXabc", row("abcX", match(3, 4))},
		{"with one byte behind", "", "abcXabcY", row("abcX", match(3, 4), "Y")},
		{"with two bytes behind", "", "abcXabcYZ", row("abcX", match(3, 4), "YZ")},
		{"a match that ends with the text", "", "abcdefXabcdef", row("abcdefX", match(6, 7))},
		{"two bytes at the end", "", "abcXab", row("abcXab")},
		{"the nearest of two as long", "", "abcXabcYabc", row("abcX", match(3, 4), "Y", match(3, 4))},
		{"the longer of two, further", "", "abcdXabcYabcd", row("abcdX", match(3, 5), "Y", match(4, 9))},
		{"the longer of two, nearer", "", "abcXabcdYabcd", row("abcX", match(3, 4), "dY", match(4, 5))},
		{"matches one behind the other", "", "abcXdefYabcdef", row("abcXdefY", match(3, 8), match(3, 7))},
		{"in what a match put", "", "abcdefgabcdefg-cdef", row("abcdefg", match(7, 7), "-", match(4, 6))},
		{"at a match's last places", "", "abcdefgabcdefghij-fghi", row("abcdefg", match(7, 7), "hij-", match(4, 6))},

		{"bytes 0", "", "\x00\x00\x00\x00\x00", row("\x00", match(4, 1))},
		{"bytes 255", "", "\xFF\xFF\xFF\xFF\xFF", row("\xFF", match(4, 1))},
		{"bytes above 127", "", "\x80\xFF\xC3\x00\x80\xFF\xC3\x00", row("\x80\xFF\xC3\x00", match(4, 4))},
		{"another byte above 127", "", "\x80\xFF\xC3-\x00\xFF\xC3-\x80\xFF\x43", row("\x80\xFF\xC3-\x00", match(3, 4), "\x80\xFF\x43")},
		{"runes", "", "äöüäöü", row("äöü", match(6, 6))},

		{"a dictionary of none", "", "abcab", row("abcab")},
		{"of one byte", "a", "bcabc", row("bc", match(3, 3))},
		{"of one byte, another one", "x", "bcabc", row("bcabc")},
		{"of one byte, alike", "a", "aaaaa", row(match(5, 1))},
		{"of two bytes", "ab", "cabc", row("c", match(3, 3))},
		{"of two bytes, by two", "ab", "abab", row(match(4, 2))},
		{"of two bytes, the last one", "ba", "aaaa", row(match(4, 1))},
		{"of three bytes", "abc", "abc", row(match(3, 3))},
		{"of three bytes, and on", "abc", "abcabcab", row(match(8, 3))},
		{"of three bytes, from its second", "xbc", "dbcd", row("d", match(3, 3))},
		{"of three bytes, two of them", "abc", "bcx", row("bcx")},
		{"its first place", "abcdefgh", "abcX", row(match(3, 8), "X")},
		{"its middle", "abcdefgh", "cdeX", row(match(3, 6), "X")},
		{"its last three bytes", "abcdefgh", "fghX", row(match(3, 3), "X")},
		{"from it over into the text", "abcdefgh", "XghX", row("X", match(3, 3))},
		{"from it over far into the text", "abc", "defXabcdefXa", row("defX", match(8, 7))},
		{"from its last byte over", "zzzza", "bcXabc", row("bcX", match(3, 4))},
		{"the text's own is nearer", "abcX", "abcYabc", row(match(3, 4), "Y", match(3, 4))},
		{"the dictionary's is longer", "abcdX", "abcYabcd", row(match(3, 5), "Y", match(4, 9))},
		{"the whole dictionary", "hello, world", "hello, world", row(match(12, 12))},
	} {
		allLevels(t, c.what, c.dict, c.text, c.want)
	}
}

// TestOneByte: a byte again and again, of lengths about MaxMatch and its multiples.
func TestOneByte(t *testing.T) {
	again := func(n int) []api.Token {
		l := slices.Repeat(row(match(maxMatch, 1)), n/maxMatch)
		if n %= maxMatch; n < 3 {
			return row(l, strings.Repeat("q", n))
		}
		return row(l, match(n, 1))
	}
	for _, about := range []int{4, maxMatch, 2 * maxMatch, 3 * maxMatch, 5 * maxMatch} {
		for n := about - 4; n < about+6; n++ {
			text := strings.Repeat("q", n)
			allLevels(t, "again and again", text[:0], text, row(text[:min(n, 1)], again(max(n-1, 0))))
			for _, dict := range []string{"q", "qq", "qqq", "xq", "qqqqqqqqqq"} {
				allLevels(t, "again and again behind it", dict, text, again(n))
			}
		}
	}
}

// TestDepth: a long one stands behind as many short ones as a level goes through, or behind one less.
func TestDepth(t *testing.T) {
	for level, s := range settings[1:] {
		level++
		dict := "abcdefgh" + strings.Repeat("abc.", s.depth-1)
		tokens(t, "the last one", dict, "abcdefgh", level, row(match(8, len(dict))))
		dict += "abc."
		want := row(match(3, 4), match(5, len(dict)))
		if s.lazy > 3 {
			want = row("a", match(7, len(dict)))
		}
		tokens(t, "behind the last one", dict, "abcdefgh", level, want)
	}
}

// TestDepthAtNext: so is it where the next place is looked at.
func TestDepthAtNext(t *testing.T) {
	for level, s := range settings[1:] {
		level++
		dict := "bcdefgh" + strings.Repeat("bcd.", s.depth-1) + "abc-"
		// At place 3 stand the long one and no other.
		left := row(match(3, 4), match(5, len(dict)+1))
		want := left
		if s.lazy > 3 {
			want = row("a", match(7, len(dict)+1))
		}
		tokens(t, "the last one", dict, "abcdefgh", level, want)
		dict = dict[:7] + "bcd." + dict[7:]
		left[1].Dist += 4
		tokens(t, "behind the last one", dict, "abcdefgh", level, left)
	}
}

// TestNice: a near one that has nice bytes ends the going through, one with a byte less does not.
func TestNice(t *testing.T) {
	for level, s := range settings[1:] {
		level++
		text := distinct(s.nice + 5)
		dict := pieces(text, text[:s.nice])
		tokens(t, "just nice", dict, text, level, row(match(s.nice, s.nice+1), match(5, len(dict))))
		dict = pieces(text, text[:s.nice-1])
		want := row(match(s.nice+5, len(dict)))
		if s.nice == maxMatch {
			want = row(match(maxMatch, len(dict)), match(5, len(dict)))
		}
		tokens(t, "a byte less", dict, text, level, want)
		dict = pieces(text, text[:s.nice+1])
		n := min(s.nice+1, maxMatch)
		tokens(t, "a byte more", dict, text, level, row(match(n, s.nice+2), match(s.nice+5-n, len(dict))))
	}
}

// TestNiceAtNext: so is it where the next place is looked at.
func TestNiceAtNext(t *testing.T) {
	for level, s := range settings[4:] {
		level += 4
		text := distinct(s.nice + 6)
		dict := pieces(text[1:], text[1:s.nice+1], text[:3])
		tokens(t, "just nice", dict, text, level, row(text[:1], match(s.nice, s.nice+6), match(5, len(dict)+1)))
		dict = pieces(text[1:], text[1:s.nice], text[:3])
		want := row(text[:1], match(s.nice+5, len(dict)+1))
		if s.nice == maxMatch {
			want = row(text[:1], match(maxMatch, len(dict)+1), match(5, len(dict)+1))
		}
		tokens(t, "a byte less", dict, text, level, want)
	}
}

// TestLazy: the next place is looked at behind a match below lazy, not behind one of just lazy.
func TestLazy(t *testing.T) {
	for level, s := range settings[4:] {
		level += 4
		for size := 3; size < maxMatch; size++ {
			text := distinct(size + 2)
			dict := pieces(text[:size], text[1:])
			want := row(match(size, len(dict)), text[size:])
			if size < s.lazy {
				want = row(text[:1], match(size+1, size+3))
			}
			tokens(t, "one longer", dict, text, level, want)
		}
	}
	for level, s := range settings[1:] {
		level++
		text := distinct(20)
		dict := pieces(text[:3], text[1:])
		want := row(match(3, 24), match(17, 21))
		if s.lazy > 3 {
			want = row(text[:1], match(19, 21))
		}
		tokens(t, "far longer", dict, text, level, want)
	}
}

// TestNotLonger: one at the next place that is as long, or shorter, changes nothing.
func TestNotLonger(t *testing.T) {
	for level := 1; level < 10; level++ {
		for _, size := range []int{4, 5, 14, 15, 16, 17, 30, 31, 32, 33, 126, 127, 128, 129, 256, 257} {
			text := distinct(size + 2)
			for _, less := range []int{0, 1} {
				dict := pieces(text[1:size+1-less], text[:size])
				want := row(match(size, size+1), text[size:])
				tokens(t, "not longer", dict, text, level, want)
			}
		}
	}
}

// TestNextButOne: a longer one behind the next place is not looked at, if there is none at the next place.
func TestNextButOne(t *testing.T) {
	text := distinct(20)
	dict := pieces(text[:3], text[2:])
	allLevels(t, "the next but one", dict, text, row(match(3, len(dict)), match(17, 21)))
	for level, s := range settings[1:] {
		level++
		// At the next place is one that is longer, behind it one that is as long, and then a far longer one.
		dict := pieces(text[:3], text[1:5], text[2:6], text[3:])
		want := row(match(3, 32), match(17, 21))
		if s.lazy > 3 {
			want = row(text[:1], match(4, 29), match(15, 21))
		}
		tokens(t, "as long behind a longer one", dict, text, level, want)
	}
}

// TestStairs: at each next place is one that is longer by one, further than lazy.
func TestStairs(t *testing.T) {
	text := distinct(400)
	for level, s := range settings[4:] {
		level += 4
		least := max(3, s.lazy-40)
		up := s.lazy - least
		var l []string
		for i := range up + 9 {
			l = append(l, text[i:i+least+i])
		}
		dict := pieces(l...)
		// The last stair has just lazy bytes; what is behind it stands in the last piece of all.
		end := up + s.lazy
		first := len(dict) + up - strings.Index(dict, text[up:end])
		rest := len(dict) + end - strings.LastIndex(dict, text[end:end+4])
		tokens(t, "stairs", dict, text[:end+4], level, row(text[:up], match(s.lazy, first), match(4, rest)))
	}
	for level := 1; level < 4; level++ {
		tokens(t, "no stairs", "abc|bcde|cdefg|", "abcdefg", level, row(match(3, 15), match(4, 8)))
	}
	for level := 5; level < 10; level++ {
		tokens(t, "two stairs", "abc|bcde|cdefg|", "abcdefg", level, row("ab", match(5, 8)))
	}
	tokens(t, "one stair", "abc|bcde|cdefg|", "abcdefg", 4, row("a", match(4, 12), "fg"))
}

// TestLastStair: the next places are looked at up to the text's end.
func TestLastStair(t *testing.T) {
	for level, s := range settings[1:] {
		level++
		want := row(match(3, 9), "d")
		tokens(t, "three bytes at the last place but two", "abc|bcd|_", "abcd", level, want)
		want = row(match(3, 10), "de")
		if s.lazy > 3 {
			want = row("a", match(4, 7))
		}
		tokens(t, "four bytes at the last place but three", "abc|bcde|_", "abcde", level, want)
	}
}

// TestWindow: the same bytes just a Window ahead, a byte less far, and a byte further.
func TestWindow(t *testing.T) {
	s := distinct(window + 9)
	for _, c := range []struct {
		what       string
		dict, text string
		want       []api.Token
	}{
		{"a byte less than a Window", s[:window-1], s[:9], row(match(9, window-1))},
		{"a Window", s[:window], s[:9], row(match(9, window))},
		{"a byte more than a Window", s[:window+1], s[:9], row(s[:9])},
		{"a Window, from its second place", s[:window], s[1:9], row(match(8, window-1))},
		{"a byte more, from its second place", s[:window+1], s[1:9], row(match(8, window))},
		{"a byte more, and the byte itself", s[:window+1], s[:1] + s[1:9], row(s[:9])},
		{"a Window, but behind a byte", s[:window], "\xFE" + s[:9], row("\xFE" + s[:9])},
		{"a byte less, behind a byte", s[:window-1], "\xFE" + s[:9], row("\xFE", match(9, window))},
		{"a Window, its last three bytes", s[:window], s[window-3 : window], row(match(3, 3))},
		{"far behind a Window", strings.Repeat(s[:9], 20) + s[9:window+9], s[:9], row(s[:9])},
		{"in a Window too", s[:9] + s[9:window] + s[:9], s[:9], row(match(9, 9))},
		{"far behind, and less of it in a Window", s[:9] + s[9:window] + s[:5] + "\xFE", s[:9], row(match(5, 6), s[5:9])},
	} {
		allLevels(t, c.what, c.dict, c.text, c.want)
	}
	for level := 1; level < 10; level++ {
		tokens(t, "in the text, a byte less", "", s[:window-1]+s[:7], level, row(s[:window-1], match(7, window-1)))
		tokens(t, "in the text, a Window", "", s[:window]+s[:7], level, row(s[:window], match(7, window)))
		tokens(t, "in the text, a byte more", "", s[:window+1]+s[:7], level, row(s[:window+1]+s[:7]))
		tokens(t, "from both, a Window", s[:5], s[5:window]+s[:7], level, row(s[5:window], match(7, window)))
		tokens(t, "from both, a byte more", s[:5], s[5:window+1]+s[:7], level, row(s[5:window+1]+s[:7]))
	}
}

// TestFarBehind: what a dictionary has ahead of its last Window bytes changes nothing.
func TestFarBehind(t *testing.T) {
	s := distinct(window)
	text := s[100:400] + "\xFE" + s[5:90] + s[:9] + s[window-20:]
	for level := range 10 {
		want, _ := parse.Tokens(s, text, level)
		for _, ahead := range []string{"a", s[window-1:], text, text + text, "\xFE" + s[5:90] + s[:9] + s[window-20:], s, s + s, strings.Repeat("a", 3*window)} {
			tokens(t, "far behind", ahead+s, text, level, want)
		}
	}
}

// byModel asks for what the model tells.
func byModel(t *testing.T, what, dict, text string, level int) []api.Token {
	t.Helper()
	want := modelTokens(dict, text, level)
	tokens(t, what, dict, text, level, want)
	return want
}

// TestModel: it tells what stands above by hand.
func TestModel(t *testing.T) {
	if l := modelTokens("abc|bcde|cdefg|", "abcdefg", 9); !slices.Equal(l, row("ab", match(5, 8))) {
		t.Error(l)
	}
	if l := modelTokens("abc|bcde|cdefg|", "abcdefg", 4); !slices.Equal(l, row("a", match(4, 12), "fg")) {
		t.Error(l)
	}
	if l := modelTokens("", "abcabcabc", 1); !slices.Equal(l, row("abc", match(6, 3))) {
		t.Error(l)
	}
	if l := modelTokens("abc", "abc", 0); !slices.Equal(l, row("abc")) {
		t.Error(l)
	}
}

// TestSmall: each text of two bytes up to a size, and of three, by each level, cut into a dictionary and a text at each place.
func TestSmall(t *testing.T) {
	for _, c := range []struct {
		bytes string
		most  int
	}{{"ab", 10}, {"\x00\xFFa", 6}} {
		var each func(s string)
		each = func(s string) {
			for cut := range len(s) + 1 {
				for level := range 10 {
					byModel(t, "small", s[:cut], s[cut:], level)
				}
			}
			if t.Failed() || len(s) == c.most {
				return
			}
			for i := range len(c.bytes) {
				each(s + c.bytes[i:i+1])
			}
		}
		each("")
	}
}

// chanceText has bytes by chance, of so many kinds, and pieces that stood ahead, some of them with another byte within.
func chanceText(r *rand.Rand, n, kinds, piece int) string {
	var b []byte
	for len(b) < n {
		if len(b) == 0 || r.IntN(3) == 0 {
			for range 1 + r.IntN(9) {
				b = append(b, byte(r.IntN(kinds)))
			}
			continue
		}
		from := r.IntN(len(b))
		b = append(b, b[from:min(len(b), from+3+r.IntN(piece))]...)
		if r.IntN(4) == 0 {
			b[len(b)-1-r.IntN(min(len(b), 9))] = byte(r.IntN(kinds))
		}
	}
	return string(b[:n])
}

func TestChance(t *testing.T) {
	r := chance()
	differ := 0
	for range 1500 {
		s := chanceText(r, r.IntN(900), 1+r.IntN(8), 1+r.IntN(80))
		cut := r.IntN(len(s)/2 + 1)
		var before []api.Token
		for level := range 10 {
			l := byModel(t, "chance", s[:cut], s[cut:], level)
			if !slices.Equal(l, before) {
				differ++
			}
			before = l
		}
		if t.Failed() {
			return
		}
	}
	if differ < 6000 {
		t.Errorf("levels differ %d times alone", differ)
	}
}

// TestLongChance: texts of more than a Window, behind more than one.
func TestLongChance(t *testing.T) {
	r := chance()
	for i, kinds := range []int{256, 40} {
		s := chanceText(r, 3*window+50, kinds, 1200)
		dict, text := s[:window+40], s[window+40:]
		for level := 1 + i; level < 10; level += 4 {
			byModel(t, "long", dict, text, level)
		}
	}
}

// TestFollows is P10.2 alone, of longer texts of each kind.
func TestFollows(t *testing.T) {
	r := chance()
	for _, kinds := range []int{1, 2, 3, 10, 256} {
		for _, piece := range []int{1, 30, 300, 5000} {
			s := chanceText(r, 100000, kinds, piece)
			for level := range 10 {
				l, e := parse.Tokens(s[:40000], s[40000:], level)
				if e != api.OK || token.Size(l) != 60000 {
					t.Fatalf("level %d: %d bytes, %d", level, token.Size(l), e)
				}
				follows(t, "each kind", s[:40000], s[40000:], level, l)
			}
		}
	}
}

// TestAnswersLieApart: who writes to an answer changes no other one.
func TestAnswersLieApart(t *testing.T) {
	for level := range 10 {
		first, _ := parse.Tokens("abc", "xabcabcyabcabc", level)
		second, _ := parse.Tokens("abc", "xabcabcyabcabc", level)
		kept := slices.Clone(first)
		for i := range first {
			first[i] = match(9, 9)
		}
		_ = append(first, lit('z'))
		third, _ := parse.Tokens("abc", "xabcabcyabcabc", level)
		if !slices.Equal(second, kept) || !slices.Equal(third, kept) {
			t.Errorf("level %d: %v, %v, not %v", level, second, third, kept)
		}
	}
}

// TestAlikeAgain: what is asked twice is answered alike, whatever was asked between.
func TestAlikeAgain(t *testing.T) {
	r := chance()
	s := chanceText(r, 3000, 5, 60)
	var first [][]api.Token
	for level := range 10 {
		l, _ := parse.Tokens(s[:500], s[500:], level)
		first = append(first, l)
	}
	for _, level := range []int{9, 0, 4, 8, 1, 5, 7, 2, 6, 3} {
		parse.Tokens(s, "abcabc", 9-level)
		parse.Tokens("", s, -1)
		parse.Level(level + 5)
		tokens(t, "again", s[:500], s[500:], level, first[level])
	}
}
