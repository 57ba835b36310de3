package chain_test

import (
	"math"
	"math/rand/v2"
	"slices"
	"sort"
	"strings"
	"testing"

	"platen/api"
	"platen/chain"
)

const (
	window   = 32768
	maxMatch = 258
	minMatch = 3
)

func chance() *rand.Rand {
	return rand.New(rand.NewPCG(8, 1951))
}

// model is the chapter's words: a text, and which of its places were put.
type model struct {
	text string
	put  []bool
	last int
}

func newModel(text string) *model {
	return &model{text: text, put: make([]bool, len(text)), last: -1}
}

func (m *model) isPlace(at int) bool {
	return at >= 0 && at < len(m.text)
}

func (m *model) lay(at int) api.Errno {
	if !m.isPlace(at) {
		return api.ErrArg
	}
	if slices.Contains(m.put[at:], true) {
		return api.ErrHave
	}
	m.put[at], m.last = true, at
	return api.OK
}

// candidates are all of them, the nearest first.
func (m *model) candidates(at int) []int {
	if !m.isPlace(at) || len(m.text[at:]) < 3 {
		return nil
	}
	var l []int
	for ahead := 1; ahead <= window && ahead <= at; ahead++ {
		if m.put[at-ahead] && strings.HasPrefix(m.text[at-ahead:], m.text[at:at+3]) {
			l = append(l, at-ahead)
		}
	}
	return l
}

func (m *model) places(at, depth int) []int {
	l := m.candidates(at)
	return l[:min(len(l), max(depth, 0))]
}

// size tells how long a candidate is: with one byte more it does not stand there, or may not be.
func (m *model) size(candidate, at int) int {
	return sort.Search(min(maxMatch, len(m.text)-at), func(n int) bool {
		return m.text[candidate:candidate+n+1] != m.text[at:at+n+1]
	})
}

// gone are the candidates that are gone through.
func (m *model) gone(at, depth, nice int) []int {
	l := m.places(at, depth)
	end := slices.IndexFunc(l, func(c int) bool { return m.size(c, at) >= nice })
	if end >= 0 {
		l = l[:end+1]
	}
	return l
}

// find is the nearest of the longest that are gone through, if it is longer than over.
func (m *model) find(at, depth, nice, over int) api.Match {
	best := api.Match{}
	for _, c := range slices.Backward(m.gone(at, depth, nice)) {
		if n := m.size(c, at); n > over && n >= best.Len {
			best = api.Match{Len: n, Dist: at - c}
		}
	}
	return best
}

// pair is a finder and its model.
type pair struct {
	f *chain.Finder
	m *model
}

// newPair has these places put.
func newPair(t *testing.T, text string, places ...int) pair {
	t.Helper()
	p := pair{chain.New(text), newModel(text)}
	for _, at := range places {
		p.putOne(t, at)
	}
	return p
}

// upTo are the places from 0 to below n.
func upTo(n int) []int {
	l := make([]int, n)
	for at := range l {
		l[at] = at
	}
	return l
}

func allPut(t *testing.T, text string) pair {
	t.Helper()
	p := pair{chain.New(text), newModel(text)}
	for at := range len(text) {
		if e := p.f.Put(at); e != api.OK {
			t.Fatalf("Put(%d): %d", at, e)
		}
		p.m.put[at], p.m.last = true, at
	}
	return p
}

// putOne puts a place, which may be refused, and asks what was put last.
func (p pair) putOne(t *testing.T, at int) {
	t.Helper()
	want := p.m.lay(at)
	if e := p.f.Put(at); e != want {
		t.Fatalf("Put(%d) of %q: %d, not %d", at, short(p.m.text), e, want)
	}
	p.asksLast(t)
}

func (p pair) asksLast(t *testing.T) {
	t.Helper()
	if got := p.f.Last(); got != p.m.last {
		t.Fatalf("Last of %q: %d, not %d", short(p.m.text), got, p.m.last)
	}
}

func (p pair) asksPlaces(t *testing.T, at, depth int) {
	t.Helper()
	placesAre(t, p.f, at, depth, p.m.places(at, depth))
}

func (p pair) asksFind(t *testing.T, at, depth, nice, over int) {
	t.Helper()
	finds(t, p.f, at, depth, nice, over, p.m.find(at, depth, nice, over))
}

func placesAre(t *testing.T, f *chain.Finder, at, depth int, want []int) {
	t.Helper()
	if got := f.Places(at, depth); !slices.Equal(got, want) {
		t.Fatalf("Places(%d, %d): %d of them %d, not %d of them %d", at, depth, len(got), few(got), len(want), few(want))
	}
}

func finds(t *testing.T, f *chain.Finder, at, depth, nice, over int, want api.Match) {
	t.Helper()
	if got := f.Find(at, depth, nice, over); got != want {
		t.Fatalf("Find(%d, %d, %d, %d): %v, not %v", at, depth, nice, over, got, want)
	}
}

func short(s string) string {
	if len(s) > 40 {
		return s[:40] + ".."
	}
	return s
}

func few(l []int) []int {
	return l[:min(len(l), 20)]
}

// edges are numbers that may be asked for anything.
var edges = []int{math.MinInt, math.MinInt + 1, -1 << 40, -window - 1, -window, -window + 1, -258, -3, -2, -1, 0, 1, 2, 3, 4, 5, 9, 257, 258, 259, window - 1, window, window + 1, 1 << 20, 1 << 40, math.MaxInt - 1, math.MaxInt}

// chanceText has n bytes, of so many kinds, and pieces that stood ahead.
func chanceText(r *rand.Rand, n, kinds int) string {
	var b []byte
	for len(b) < n {
		if len(b) > 0 && r.IntN(3) == 0 {
			from := r.IntN(len(b))
			for range 1 + r.IntN(20) {
				b = append(b, b[from])
				from++
			}
			continue
		}
		b = append(b, byte(r.IntN(kinds)*(255/kinds)))
	}
	return string(b[:n])
}

// somePlaces are rising places of a text of n bytes: nearly all, or few.
func somePlaces(r *rand.Rand, n int) []int {
	left := r.IntN(4)
	return slices.DeleteFunc(upTo(n), func(int) bool { return r.IntN(4) < left })
}

func TestExample(t *testing.T) {
	p := newPair(t, "abcabcab", 0, 1, 2)
	finds(t, p.f, 3, 9, 9, 2, api.Match{Len: 5, Dist: 3})
	placesAre(t, p.f, 3, 9, []int{0})
	if got := p.f.Last(); got != 2 {
		t.Errorf("Last: %d", got)
	}
}

func TestPutByHand(t *testing.T) {
	type put struct {
		at   int
		want api.Errno
		last int
	}
	arg, have, ok := api.ErrArg, api.ErrHave, api.OK
	cases := []struct {
		text string
		puts []put
	}{
		{"", []put{{0, arg, -1}, {-1, arg, -1}, {1, arg, -1}}},
		{"a", []put{{-1, arg, -1}, {1, arg, -1}, {0, ok, 0}, {0, have, 0}, {1, arg, 0}, {-1, arg, 0}}},
		{"ab", []put{{2, arg, -1}, {1, ok, 1}, {0, have, 1}, {1, have, 1}, {2, arg, 1}, {-1, arg, 1}}},
		{"ab", []put{{0, ok, 0}, {1, ok, 1}, {2, arg, 1}, {1, have, 1}}},
		{"abc", []put{{0, ok, 0}, {2, ok, 2}, {1, have, 2}, {0, have, 2}, {2, have, 2}, {3, arg, 2}}},
		{"abcabc", []put{{3, ok, 3}, {0, have, 3}, {2, have, 3}, {3, have, 3}, {-1, arg, 3}, {6, arg, 3}, {5, ok, 5}, {4, have, 5}, {6, arg, 5}}},
		{"abcabc", []put{{math.MinInt, arg, -1}, {math.MaxInt, arg, -1}, {5, ok, 5}, {math.MinInt, arg, 5}, {math.MaxInt, arg, 5}, {1 << 32, arg, 5}, {1<<32 + 5, arg, 5}, {-1 << 32, arg, 5}}},
	}
	for _, c := range cases {
		f := chain.New(c.text)
		if got := f.Last(); got != -1 {
			t.Errorf("Last ahead of any Put: %d", got)
		}
		for _, x := range c.puts {
			if e := f.Put(x.at); e != x.want {
				t.Errorf("Put(%d) of %q: %d, not %d", x.at, c.text, e, x.want)
			}
			if got := f.Last(); got != x.last {
				t.Errorf("Last behind Put(%d) of %q: %d, not %d", x.at, c.text, got, x.last)
			}
		}
	}
}

// TestRefusedPutsCountForNothing: what was refused is neither a candidate nor one twice.
func TestRefusedPutsCountForNothing(t *testing.T) {
	f := chain.New("abcabcabcabc")
	for _, at := range []int{-1, 3, 0, 3, 12, 3, 6, 99, 6, -9} {
		f.Put(at)
	}
	placesAre(t, f, 9, 99, []int{6, 3})
	placesAre(t, f, 6, 99, []int{3})
	finds(t, f, 3, 99, 99, 2, api.Match{})
}

func TestPlacesByHand(t *testing.T) {
	cases := []struct {
		what  string
		text  string
		put   []int
		at    int
		depth int
		want  []int
	}{
		{"the empty text", "", nil, 0, 9, nil},
		{"one byte", "a", upTo(1), 0, 9, nil},
		{"two bytes", "aa", upTo(2), 1, 9, nil},
		{"three bytes", "aaa", upTo(3), 0, 9, nil},
		{"three bytes", "aaa", upTo(3), 1, 9, nil},
		{"three bytes", "aaa", upTo(3), 2, 9, nil},
		{"four bytes", "aaaa", upTo(4), 1, 9, []int{0}},
		{"four bytes", "aaaa", upTo(4), 2, 9, nil},
		{"four bytes", "aaaa", upTo(1), 1, 9, []int{0}},
		{"four bytes", "aaaa", nil, 1, 9, nil},
		{"the first place", "aaaaaa", upTo(6), 0, 9, nil},
		{"the nearest first", "aaaaaa", upTo(6), 3, 9, []int{2, 1, 0}},
		{"the last place that has three bytes", "abcabcabc", upTo(9), 6, 9, []int{3, 0}},
		{"two bytes behind", "abcabcabc", upTo(9), 7, 9, nil},
		{"one byte behind", "abcabcabc", upTo(9), 8, 9, nil},
		{"behind all", "abcabcabc", upTo(9), 9, 9, nil},
		{"ahead of all", "abcabcabc", upTo(9), -1, 9, nil},
		{"depth below 0", "abcabcabc", upTo(9), 6, -1, nil},
		{"depth 0", "abcabcabc", upTo(9), 6, 0, nil},
		{"depth 1", "abcabcabc", upTo(9), 6, 1, []int{3}},
		{"as many as there are", "abcabcabc", upTo(9), 6, 2, []int{3, 0}},
		{"more", "abcabcabc", upTo(9), 6, 3, []int{3, 0}},
		{"the place itself put", "abcabcabc", upTo(7), 6, 9, []int{3, 0}},
		{"the place itself not put", "abcabcabc", upTo(6), 6, 9, []int{3, 0}},
		{"places put behind", "abcabcabc", upTo(9), 3, 9, []int{0}},
		{"left out", "abcabcabcabc", []int{0, 1, 2, 6}, 9, 9, []int{6, 0}},
		{"left out", "abcabcabcabc", []int{0, 1, 2, 6}, 3, 9, []int{0}},
		{"left out", "abcabcabcabc", []int{0, 1, 2, 6}, 6, 9, []int{0}},
		{"left out", "abcabcabcabc", []int{5}, 9, 9, nil},
		{"one alike", "a..abc", upTo(6), 3, 9, nil},
		{"two alike", "ab.abc", upTo(6), 3, 9, nil},
		{"the last two alike", ".bcabc", upTo(6), 3, 9, nil},
		{"the outer two alike", "a.cabc", upTo(6), 3, 9, nil},
		{"turned", "cbaabc", upTo(6), 3, 9, nil},
		{"moved", "bcaabc", upTo(6), 3, 9, nil},
		{"bytes 0", "\x00\x00\x00\x00\x00", upTo(5), 2, 9, []int{1, 0}},
		{"a byte 0 among others", "a\x00ba\x00b", upTo(6), 3, 9, []int{0}},
		{"a byte 0 behind two", "ab\x00ab", upTo(5), 3, 9, nil},
		{"bytes above 127", "\xFF\x80\xC3\xFF\x80\xC3", upTo(6), 3, 9, []int{0}},
		{"bytes that are no runes", "\xFF\xFE\xFD\xFE\xFD\xFF\xFF\xFE\xFD", upTo(9), 6, 9, []int{0}},
		{"unlike bytes that are no runes", "\xFF\xFF\xFF\xFE\xFE\xFE", upTo(6), 3, 9, nil},
		{"7 bits alike", "\x61\x62\x63\xE1\xE2\xE3", upTo(6), 3, 9, nil},
		{"runes", "äöäö", upTo(8), 4, 9, []int{0}},
	}
	for _, c := range cases {
		p := newPair(t, c.text, c.put...)
		if got := p.f.Places(c.at, c.depth); !slices.Equal(got, c.want) {
			t.Errorf("%s: Places(%d, %d): %d, not %d", c.what, c.at, c.depth, got, c.want)
		}
		if got := p.m.places(c.at, c.depth); !slices.Equal(got, c.want) {
			t.Errorf("%s: the model: %d, not %d", c.what, got, c.want)
		}
	}
}

// steps has five candidates of its last abc, which stands at 32: at 26, 20, 14, 9 and 0, of 3, 4, 4, 3 and 6 bytes.
const steps = "abcdef..." + "abc-." + "abcd!?" + "abcd+." + "abc,;/" + "abcdefg"

func TestFindByHand(t *testing.T) {
	last := len(steps) - 7
	whole := func(n int) string { return strings.Repeat("a", n) }
	none := api.Match{}
	cases := []struct {
		what  string
		text  string
		put   []int
		at    int
		depth int
		nice  int
		over  int
		want  api.Match
	}{
		{"the empty text", "", nil, 0, 9, 9, 2, none},
		{"one byte", "a", upTo(1), 0, 9, 9, 0, none},
		{"two bytes", "aa", upTo(2), 1, 9, 9, 0, none},
		{"three bytes", "aaa", upTo(3), 1, 9, 9, 0, none},
		{"four bytes", "aaaa", upTo(4), 1, 9, 9, 2, api.Match{Len: 3, Dist: 1}},
		{"four bytes", "aaaa", upTo(4), 2, 9, 9, 0, none},
		{"behind all", "aaaa", upTo(4), 4, 9, 9, 0, none},
		{"ahead of all", "aaaa", upTo(4), -1, 9, 9, 0, none},
		{"none alike", "abcdef", upTo(6), 3, 9, 9, 0, none},
		{"two alike", "ab.abc", upTo(6), 3, 9, 9, 0, none},
		{"not put", "abcabc", []int{1, 2}, 3, 9, 9, 0, none},
		{"not put itself", "abcabc", []int{0}, 3, 9, 9, 0, api.Match{Len: 3, Dist: 3}},
		{"places put behind", "abcabcabc", upTo(9), 3, 9, 9, 2, api.Match{Len: 6, Dist: 3}},
		{"beyond the place itself", "aaaaaaaa", upTo(1), 1, 9, 9, 2, api.Match{Len: 7, Dist: 1}},
		{"beyond the place itself", "ababababa", upTo(2), 2, 9, 9, 2, api.Match{Len: 7, Dist: 2}},
		{"ends with the text", "abcd.abcd", upTo(5), 5, 9, 9, 2, api.Match{Len: 4, Dist: 5}},
		{"ends ahead of the text's end", "abcd.abcde", upTo(5), 5, 9, 9, 2, api.Match{Len: 4, Dist: 5}},
		{"left out", "abcdabcdabcd", []int{0}, 8, 9, 9, 2, api.Match{Len: 4, Dist: 8}},

		{"the longest", steps, upTo(last), last, 9, 9, 2, api.Match{Len: 6, Dist: last}},
		{"just as deep", steps, upTo(last), last, 5, 9, 2, api.Match{Len: 6, Dist: last}},
		{"ends ahead of the longest", steps, upTo(last), last, 4, 9, 2, api.Match{Len: 4, Dist: last - 20}},
		{"the nearest of one length", steps, upTo(last), last, 3, 9, 2, api.Match{Len: 4, Dist: last - 20}},
		{"depth 1", steps, upTo(last), last, 1, 9, 2, api.Match{Len: 3, Dist: 6}},
		{"depth 0", steps, upTo(last), last, 0, 9, 2, none},
		{"depth below 0", steps, upTo(last), last, -1, 9, 2, none},
		{"over below 0", steps, upTo(last), last, 9, 9, -1, api.Match{Len: 6, Dist: last}},
		{"over far below 0", steps, upTo(last), last, 9, 9, math.MinInt, api.Match{Len: 6, Dist: last}},
		{"over 0", steps, upTo(last), last, 1, 9, 0, api.Match{Len: 3, Dist: 6}},
		{"over one less", steps, upTo(last), last, 9, 9, 5, api.Match{Len: 6, Dist: last}},
		{"over just as long", steps, upTo(last), last, 9, 9, 6, none},
		{"over the nearest alone", steps, upTo(last), last, 4, 9, 3, api.Match{Len: 4, Dist: last - 20}},
		{"over all that are gone through", steps, upTo(last), last, 4, 9, 4, none},
		{"over all", steps, upTo(last), last, 9, 9, math.MaxInt, none},
		{"nice below 0", steps, upTo(last), last, 9, -1, 2, api.Match{Len: 3, Dist: 6}},
		{"nice far below 0", steps, upTo(last), last, 9, math.MinInt, 2, api.Match{Len: 3, Dist: 6}},
		{"nice 0", steps, upTo(last), last, 9, 0, 2, api.Match{Len: 3, Dist: 6}},
		{"nice reached by the nearest", steps, upTo(last), last, 9, 3, 2, api.Match{Len: 3, Dist: 6}},
		{"nice one above the nearest", steps, upTo(last), last, 9, 4, 2, api.Match{Len: 4, Dist: last - 20}},
		{"nice reached by the last", steps, upTo(last), last, 9, 5, 2, api.Match{Len: 6, Dist: last}},
		{"nice above all", steps, upTo(last), last, 9, math.MaxInt, 2, api.Match{Len: 6, Dist: last}},
		{"nice reached by one that is not longer than over", steps, upTo(last), last, 9, 3, 3, none},
		{"nice 0 at one that is not longer than over", steps, upTo(last), last, 9, 0, 5, none},
		{"nice reached by two that are not longer than over", steps, upTo(last), last, 9, 4, 4, none},

		{"MaxMatch", whole(maxMatch + 1), upTo(1), 1, 9, 999, 2, api.Match{Len: maxMatch, Dist: 1}},
		{"one less than MaxMatch", whole(maxMatch), upTo(1), 1, 9, 999, 2, api.Match{Len: maxMatch - 1, Dist: 1}},
		{"it could be longer", whole(maxMatch + 2), upTo(1), 1, 9, 999, 2, api.Match{Len: maxMatch, Dist: 1}},
		{"it could be far longer", whole(2000), upTo(2000), 1000, 9, 999, 2, api.Match{Len: maxMatch, Dist: 1}},
		{"over MaxMatch", whole(2000), upTo(2000), 1000, 9, 999, maxMatch, none},
		{"over one less than MaxMatch", whole(2000), upTo(2000), 1000, 9, 999, maxMatch - 1, api.Match{Len: maxMatch, Dist: 1}},
		{"MaxMatch, unlike behind it", whole(maxMatch) + "b" + whole(maxMatch) + "c", upTo(1), maxMatch + 1, 9, 999, 2, api.Match{Len: maxMatch, Dist: maxMatch + 1}},
		{"one less, unlike behind it", whole(maxMatch-1) + "bb" + whole(maxMatch-1) + "c", upTo(1), maxMatch + 1, 9, 999, 2, api.Match{Len: maxMatch - 1, Dist: maxMatch + 1}},

		{"bytes 0", "\x00\x00\x00\x00\x01\x00\x00\x00\x00\x00", upTo(5), 5, 9, 9, 2, api.Match{Len: 4, Dist: 5}},
		{"bytes above 127", "\xFF\x80\xC3\x28.\xFF\x80\xC3\xA8", upTo(5), 5, 9, 9, 2, api.Match{Len: 3, Dist: 5}},
	}
	for _, c := range cases {
		p := newPair(t, c.text, c.put...)
		if got := p.f.Find(c.at, c.depth, c.nice, c.over); got != c.want {
			t.Errorf("%s: Find(%d, %d, %d, %d): %v, not %v", c.what, c.at, c.depth, c.nice, c.over, got, c.want)
		}
		if got := p.m.find(c.at, c.depth, c.nice, c.over); got != c.want {
			t.Errorf("%s: the model: %v, not %v", c.what, got, c.want)
		}
	}
}

// TestWindow: three bytes alike that stand so far ahead, and none between.
func TestWindow(t *testing.T) {
	for _, c := range []struct {
		far  int
		want bool
	}{{window - 1, true}, {window, true}, {window + 1, false}, {window + 2, false}, {2 * window, false}, {65536 + 3, false}} {
		for _, ahead := range []int{0, 1, 700} {
			text := strings.Repeat("<", ahead) + "abc" + strings.Repeat("-", c.far-3) + "abcd"
			f := allPut(t, text).f
			at := ahead + c.far
			var places []int
			var m api.Match
			if c.want {
				places, m = []int{ahead}, api.Match{Len: 3, Dist: c.far}
			}
			placesAre(t, f, at, 9, places)
			placesAre(t, f, at, 1, places)
			finds(t, f, at, 9, 9, 2, m)
			finds(t, f, at, 1, 0, 0, m)
		}
	}
}

// TestWindowOfMany: of many candidates those are wanting that stand more than Window ahead, and no other ones.
func TestWindowOfMany(t *testing.T) {
	n := 2*window + 5000
	f := allPut(t, strings.Repeat("a", n)).f
	for _, at := range []int{0, 1, 2, 100, window - 1, window, window + 1, window + 2, 2 * window, n - 4, n - 3} {
		want := upTo(at)
		slices.Reverse(want)
		want = want[:min(at, window)]
		for _, depth := range []int{1, 2, window - 1, window, window + 1, math.MaxInt} {
			placesAre(t, f, at, depth, want[:min(len(want), depth)])
		}
	}
	placesAre(t, f, n-2, 9, nil)
	placesAre(t, f, n-1, 9, nil)
	placesAre(t, f, n, 9, nil)
}

// TestLongestAtTheWindow: the longest stands just Window ahead, or one more; a shorter one between, or none.
func TestLongestAtTheWindow(t *testing.T) {
	for _, near := range []int{0, 9, 1000} {
		for _, far := range []int{window, window + 1} {
			b := []byte("abcdef" + strings.Repeat("-", far-6) + "abcdef")
			want := api.Match{}
			if near > 0 {
				copy(b[far-near:], "abcd")
				want = api.Match{Len: 4, Dist: near}
			}
			if far == window {
				want = api.Match{Len: 6, Dist: window}
			}
			p := allPut(t, string(b))
			finds(t, p.f, far, 9, 9, 2, want)
			finds(t, p.f, far, 9, 6, 3, want)
		}
	}
}

// texts are all of n bytes, of so many kinds of bytes.
func texts(n, kinds int) []string {
	l := []string{""}
	for range n {
		var more []string
		for _, s := range l {
			for kind := range kinds {
				more = append(more, s+string(rune('a'+kind)))
			}
		}
		l = more
	}
	return l
}

// TestShortTexts: all texts of two kinds of bytes, with all places put, at all of them, whatever is asked.
func TestShortTexts(t *testing.T) {
	for n := range 11 {
		for _, text := range texts(n, 2) {
			p := allPut(t, text)
			for at := -1; at <= n; at++ {
				for depth := -1; depth < 6; depth++ {
					p.asksPlaces(t, at, depth)
				}
				for depth := range 4 {
					for nice := 2; nice < 6; nice++ {
						for over := 1; over < 6; over++ {
							p.asksFind(t, at, depth*depth, nice, over)
						}
					}
				}
			}
		}
	}
}

// TestSomePut: all texts of two kinds of bytes, whichever of their places are put.
func TestSomePut(t *testing.T) {
	r := chance()
	for n := range 8 {
		for _, text := range texts(n, 2) {
			for put := range 1 << n {
				p := newPair(t, text, slices.DeleteFunc(upTo(n), func(at int) bool { return put>>at&1 == 0 })...)
				for at := range n {
					p.asksPlaces(t, at, 9)
					p.asksPlaces(t, at, 1+r.IntN(3))
					p.asksFind(t, at, 9, 9, 2)
					p.asksFind(t, at, 1+r.IntN(4), 2+r.IntN(4), 1+r.IntN(4))
				}
			}
		}
	}
}

// asksAt asks at a place by chance numbers, many of which are reached just.
func (p pair) asksAt(t *testing.T, r *rand.Rand, at int) {
	t.Helper()
	depths, sizes := []int{0, 1, 2, 1000, math.MaxInt}, []int{-1, 0, 2, 3, maxMatch, math.MaxInt}
	l := p.m.candidates(at)
	depths = append(depths, len(l)-1, len(l), len(l)+1)
	for _, c := range l[:min(len(l), 8)] {
		n := p.m.size(c, at)
		sizes = append(sizes, n-1, n, n+1)
	}
	for range 6 {
		depth := depths[r.IntN(len(depths))]
		p.asksPlaces(t, at, depth)
		p.asksFind(t, at, depth, sizes[r.IntN(len(sizes))], sizes[r.IntN(len(sizes))])
	}
}

// TestChanceTexts: calls by chance, one behind the other: Puts that are refused, and asking below what was put, among them.
func TestChanceTexts(t *testing.T) {
	r := chance()
	for i := range 400 {
		text := chanceText(r, r.IntN(300), 1+i%7)
		p := newPair(t, text)
		p.asksLast(t)
		for _, next := range somePlaces(r, len(text)) {
			if r.IntN(3) == 0 {
				p.putOne(t, r.IntN(len(text)+4)-2)
			}
			p.putOne(t, next)
			p.asksAt(t, r, r.IntN(len(text)+4)-2)
			p.asksAt(t, r, next+1)
		}
	}
}

// TestLongTexts: beyond Window, and with matches that are as long as can be.
func TestLongTexts(t *testing.T) {
	r := chance()
	for _, kinds := range []int{1, 2, 3, 16, 255} {
		text := chanceText(r, window+9000+r.IntN(9000), kinds)
		half := text[:len(text)/2]
		for _, s := range []string{text, half + half, half + strings.Repeat("x", 300) + half[:9000]} {
			p := allPut(t, s)
			for range 12 {
				at := r.IntN(len(s))
				depth := 1 + r.IntN(200)
				p.asksPlaces(t, at, depth)
				p.asksFind(t, at, depth, 1+r.IntN(300), r.IntN(9))
				p.asksFind(t, at, 1+depth/50, maxMatch, 2)
			}
		}
	}
}

// TestMatchStandsThere: what follows, asked of the text itself.
func TestMatchStandsThere(t *testing.T) {
	r := chance()
	met := 0
	for i := range 300 {
		text := chanceText(r, 20+r.IntN(900), 1+i%5)
		p := newPair(t, text, somePlaces(r, len(text))...)
		for range 60 {
			at, depth, nice, over := r.IntN(len(text)), r.IntN(20), r.IntN(12), r.IntN(12)
			m := p.f.Find(at, depth, nice, over)
			if m == (api.Match{}) {
				continue
			}
			met++
			from := at - m.Dist
			if m.Dist < 1 || m.Dist > window || from < 0 || !p.m.put[from] {
				t.Fatalf("Find(%d): %v: that is no place that was put ahead", at, m)
			}
			if m.Len < minMatch || m.Len > maxMatch || m.Len <= over || at+m.Len > len(text) || text[from:from+m.Len] != text[at:at+m.Len] {
				t.Fatalf("Find(%d), over %d: %v does not stand there", at, over, m)
			}
			if end := at + m.Len; m.Len < maxMatch && end < len(text) && text[end] == text[from+m.Len] {
				t.Fatalf("Find(%d): %v is longer", at, m)
			}
			for _, c := range p.m.gone(at, depth, nice) {
				if n := p.m.size(c, at); n > m.Len || n == m.Len && c > from {
					t.Fatalf("Find(%d): %v, but at %d are %d bytes", at, m, c, n)
				}
			}
		}
	}
	if met < 3000 {
		t.Errorf("only %d matches", met)
	}
}

// TestEdges: any numbers, in all calls, of texts that have something to find and of such that have nothing.
func TestEdges(t *testing.T) {
	for _, text := range []string{"", "a", "ab", "abc", "aaaa", steps, strings.Repeat("ab", 300), strings.Repeat("abc", 90) + "\xFF"} {
		p := newPair(t, text)
		for _, at := range edges {
			p.putOne(t, at)
		}
		for _, at := range edges {
			for _, x := range edges {
				p.asksPlaces(t, at, x)
				for _, y := range []int{math.MinInt, -1, 0, 2, 3, 9, math.MaxInt} {
					p.asksFind(t, at, x, y, 2)
					p.asksFind(t, at, 9, x, y)
				}
			}
		}
		p.asksLast(t)
	}
}

// TestNotMade: of nil, and of a finder that New did not make: that one has no place put either.
func TestNotMade(t *testing.T) {
	var none *chain.Finder
	for _, f := range []*chain.Finder{none, new(chain.Finder), {}} {
		for range 2 {
			for _, x := range edges {
				if e := f.Put(x); e != api.ErrNil {
					t.Errorf("Put(%d): %d", x, e)
				}
				placesAre(t, f, x, 9, nil)
				placesAre(t, f, 0, x, nil)
				finds(t, f, x, 9, 9, 2, api.Match{})
				finds(t, f, 0, x, x, -x, api.Match{})
				if got := f.Last(); got != -1 {
					t.Errorf("Last: %d", got)
				}
			}
		}
	}
}

// TestAnswersLieApart: places that were answered may be changed, and grown, and no other answer is.
func TestAnswersLieApart(t *testing.T) {
	p := allPut(t, strings.Repeat("abcd", 40))
	for _, depth := range []int{1, 2, 5, 99} {
		a, b := p.f.Places(80, depth), p.f.Places(80, depth)
		kept := slices.Clone(b)
		a = a[:cap(a)]
		for i := range a {
			a[i] = 7
		}
		if !slices.Equal(b, kept) {
			t.Fatalf("depth %d: another answer is %d, not %d", depth, b, kept)
		}
		p.asksPlaces(t, 80, depth)
		p.asksPlaces(t, 80, 99)
		p.asksPlaces(t, 84, 99)
		p.asksFind(t, 80, 9, 999, 2)
	}
}

// TestAskingChangesNothing: a finder that is asked between its Puts answers as one that is not.
func TestAskingChangesNothing(t *testing.T) {
	r := chance()
	for i := range 60 {
		text := chanceText(r, 200, 1+i%4)
		asked, quiet := chain.New(text), chain.New(text)
		for _, next := range somePlaces(r, len(text)) {
			for range 3 {
				at, n := r.IntN(len(text)+2)-1, edges[r.IntN(len(edges))]
				asked.Places(at, n)
				asked.Find(at, 99, n, 2)
				asked.Find(next, n, 9, 2)
				asked.Last()
			}
			if e, e2 := asked.Put(next), quiet.Put(next); e != api.OK || e2 != api.OK || asked.Last() != next {
				t.Fatalf("Put(%d): %d, %d, Last %d", next, e, e2, asked.Last())
			}
		}
		for at := range text {
			for range 2 {
				placesAre(t, asked, at, 99, quiet.Places(at, 99))
				finds(t, asked, at, 9, 30, 2, quiet.Find(at, 9, 30, 2))
			}
		}
	}
}

// TestFindersLieApart: two of one text, with other places put, in turns.
func TestFindersLieApart(t *testing.T) {
	text := strings.Repeat("abc", 60)
	a, b, c := newPair(t, text), newPair(t, text), newPair(t, text)
	for at := range text {
		if at%2 == 0 {
			a.putOne(t, at)
		} else {
			b.putOne(t, at)
		}
		for _, p := range []pair{a, b, c} {
			p.asksLast(t)
			p.asksPlaces(t, at, 99)
			p.asksPlaces(t, at+1, 3)
			p.asksFind(t, at, 9, 999, 2)
		}
	}
}

// TestAlikeAgain: the same calls, of the same bytes in other memory, are answered alike.
func TestAlikeAgain(t *testing.T) {
	r := chance()
	for i := range 40 {
		text := chanceText(r, 300, 1+i%6)
		places := somePlaces(r, len(text))
		a := newPair(t, text, places...).f
		b := newPair(t, ("x" + text + "abc")[1:len(text)+1], places...).f
		for at := range text {
			placesAre(t, a, at, 50, b.Places(at, 50))
			finds(t, a, at, 50, 60, 2, b.Find(at, 50, 60, 2))
		}
	}
}

// TestLeftOutAreNone: each place alone is put: just those behind it have it.
func TestLeftOutAreNone(t *testing.T) {
	text := strings.Repeat("a", 40)
	for put := range text {
		p := newPair(t, text, put)
		for at := range text {
			var want []int
			if put < at && at <= len(text)-3 {
				want = []int{put}
			}
			placesAre(t, p.f, at, 99, want)
		}
	}
}

// TestGreatTexts: all places of a text that is as long as may be, with few kinds of starts and with many.
func TestGreatTexts(t *testing.T) {
	const most = 1 << 20
	r := chance()
	bytes := make([]byte, most)
	for i := range bytes {
		bytes[i] = byte(r.Uint32())
	}
	for _, text := range []string{strings.Repeat("\x00", most), strings.Repeat("ab", most/2), string(bytes)} {
		p := allPut(t, text)
		p.asksLast(t)
		for at := 0; at < most; at++ {
			p.f.Find(at, 4, 8, 2)
		}
		for _, at := range []int{3, window, window + 1, most / 2, most - 260, most - 4, most - 3, most - 2, most - 1, most} {
			p.asksPlaces(t, at, 5)
			p.asksFind(t, at, 5, 999, 2)
		}
	}
}
