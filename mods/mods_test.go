package mods_test

import (
	"math"
	"math/rand/v2"
	"slices"
	"strings"
	"testing"

	"platen/api"
	"platen/mods"
)

func chance(n uint64) *rand.Rand {
	return rand.New(rand.NewPCG(18, n))
}

func alike(n int) string {
	return strings.Repeat("a", n)
}

func noise(r *rand.Rand, n int) string {
	b := make([]byte, n)
	for i := range b {
		b[i] = byte(r.IntN(256))
	}
	return string(b)
}

// sizes are all that there are, by hand.
var sizes = []int{1024, 2048, 4096, 8192, 16384}

// noSizes are none of them.
func noSizes() []int {
	l := []int{math.MinInt, -16384, -1024, -1, 0, 1, 2, 512, 1000, 1023, 1025, 1536, 2047, 2049, 3072, 10000, 16383, 16385, 32768, 65536, 1 << 20, 1 << 32, 1 << 62, math.MaxInt}
	for _, n := range sizes {
		l = append(l, -n, n-1, n+1, n+n/2, 1<<32+n, math.MinInt+n)
	}
	return l
}

// good are modifications that may be, of each size.
func good(page int) []api.Mod {
	return []api.Mod{
		{At: 0, Text: "a"}, {At: 0, Text: "\x00"}, {At: 1, Text: "bc"}, {At: 258, Text: "ab"}, {At: 3, Text: "\u00fc\xff"},
		{At: page - 1, Text: "z"}, {At: page - 3, Text: "xyz"}, {At: page / 2, Text: alike(page / 2)},
		{At: 0, Text: alike(page)}, {At: 1, Text: alike(page - 1)}, {At: 0, Text: alike(page - 1)}, {At: 255, Text: alike(256)},
	}
}

// bad are modifications that may not be, of that size.
func bad(page int) []api.Mod {
	return []api.Mod{
		{}, {At: -1, Text: "a"}, {At: -1, Text: alike(page)}, {At: math.MinInt, Text: "a"}, {At: -page, Text: alike(page)},
		{At: 0}, {At: 5}, {At: page - 1}, {At: page}, {At: page, Text: "a"}, {At: page - 1, Text: "ab"}, {At: page - 2, Text: "abc"},
		{At: 0, Text: alike(page + 1)}, {At: 1, Text: alike(page)}, {At: page / 2, Text: alike(page/2 + 1)}, {At: -1, Text: "ab"},
		{At: 65536, Text: "a"}, {At: 1 << 32, Text: "a"}, {At: 0, Text: alike(65536)}, {At: 0, Text: alike(65537)}, {At: 65536, Text: alike(65536)},
		{At: math.MaxInt, Text: "a"}, {At: math.MaxInt, Text: "ab"}, {At: math.MaxInt, Text: alike(page)}, {At: math.MaxInt - page + 1, Text: alike(page)},
	}
}

// record is a modification's, by hand: numbers of two bytes, the lowest one first.
func record(m api.Mod) string {
	n := len(m.Text)
	return string([]byte{byte(m.At % 256), byte(m.At / 256), byte(n % 256), byte(n / 256)}) + m.Text
}

func records(l []api.Mod) string {
	s := ""
	for _, m := range l {
		s += record(m)
	}
	return s
}

// applied is the text, byte by byte: each is the last modification's that reaches it.
func applied(text string, l []api.Mod) string {
	b := make([]byte, len(text))
	for i := range b {
		b[i] = text[i]
		for _, m := range slices.Backward(l) {
			if i >= m.At && i < m.At+len(m.Text) {
				b[i] = m.Text[i-m.At]
				break
			}
		}
	}
	return string(b)
}

// apart are the modifications of a difference: a place that differs goes on with the one ahead, if that ends close by.
func apart(a, b string) []api.Mod {
	var l []api.Mod
	for i := range len(a) {
		if a[i] == b[i] {
			continue
		}
		if n := len(l); n > 0 {
			ahead := l[n-1].At + len(l[n-1].Text)
			if i-ahead < 5 {
				l[n-1].Text += b[ahead : i+1]
				continue
			}
		}
		l = append(l, api.Mod{At: i, Text: b[i : i+1]})
	}
	return l
}

// some are modifications by chance that may be.
func some(r *rand.Rand, page, n, most int) []api.Mod {
	var l []api.Mod
	for range n {
		size := 1 + r.IntN(most)
		l = append(l, api.Mod{At: r.IntN(page - size + 1), Text: noise(r, size)})
	}
	return l
}

// turned has other bytes at these places.
func turned(text string, places ...int) string {
	b := []byte(text)
	for _, at := range places {
		b[at] ^= 0x55
	}
	return string(b)
}

// What is held.

func isLog(t *testing.T, page int, l []api.Mod, want string, wantE api.Errno) {
	t.Helper()
	kept := slices.Clone(l)
	s, e := mods.Encode(page, l...)
	if s != want || e != wantE {
		t.Errorf("Encode of %d for %d: %.30x (%d bytes), %d, not %.30x (%d bytes), %d", len(l), page, s, len(s), e, want, len(want), wantE)
	}
	if !slices.Equal(l, kept) {
		t.Error("Encode changed its arguments")
	}
}

func isDecoded(t *testing.T, page int, s string, want []api.Mod, wantE api.Errno) {
	t.Helper()
	l, e := mods.Decode(page, s)
	if !slices.Equal(l, want) || e != wantE {
		t.Errorf("Decode of %.30x (%d bytes) for %d: %d mods, %d, not %d mods, %d", s, len(s), page, len(l), e, len(want), wantE)
	}
}

func isApplied(t *testing.T, text string, l []api.Mod, want string, wantE api.Errno) {
	t.Helper()
	kept := slices.Clone(l)
	s, e := mods.Apply(text, l...)
	if s != want || e != wantE {
		t.Errorf("Apply of %d to %d bytes: %.30x (%d bytes), %d, not %.30x (%d bytes), %d", len(l), len(text), s, len(s), e, want, len(want), wantE)
	}
	if !slices.Equal(l, kept) {
		t.Error("Apply changed its arguments")
	}
}

func isReplayed(t *testing.T, text, log, want string, wantE api.Errno) {
	t.Helper()
	s, e := mods.Replay(text, log)
	if s != want || e != wantE {
		t.Errorf("Replay of %.30x (%d bytes) on %d bytes: %.30x (%d bytes), %d, not %.30x (%d bytes), %d", log, len(log), len(text), s, len(s), e, want, len(want), wantE)
	}
}

func isDiff(t *testing.T, a, b string, want []api.Mod, wantE api.Errno) {
	t.Helper()
	l, e := mods.Diff(a, b)
	if !slices.Equal(l, want) || e != wantE {
		t.Errorf("Diff of %d bytes and %d: %.100v, %d, not %.100v, %d", len(a), len(b), l, e, want, wantE)
	}
}

// P18.1

func TestPage(t *testing.T) {
	for _, n := range sizes {
		if !mods.Page(n) {
			t.Error("no size:", n)
		}
	}
	for _, n := range noSizes() {
		if mods.Page(n) {
			t.Error("a size:", n)
		}
	}
	have := 0
	for n := -40000; n <= 40000; n++ {
		if mods.Page(n) {
			have++
		}
	}
	if have != len(sizes) {
		t.Error("sizes in all:", have)
	}
}

func TestMay(t *testing.T) {
	for _, page := range sizes {
		for _, m := range good(page) {
			if !mods.May(page, m) {
				t.Errorf("for %d may not be: at %d %d bytes", page, m.At, len(m.Text))
			}
		}
		for _, m := range bad(page) {
			if mods.May(page, m) {
				t.Errorf("for %d may be: at %d %d bytes", page, m.At, len(m.Text))
			}
		}
	}
}

func TestMayOfNoPage(t *testing.T) {
	for _, page := range noSizes() {
		for _, m := range []api.Mod{{}, {At: 0, Text: "a"}, {At: 3, Text: "abc"}, {At: -1, Text: "a"}, {At: 1000, Text: "a"}} {
			if mods.May(page, m) {
				t.Errorf("for %d may be: at %d %d bytes", page, m.At, len(m.Text))
			}
		}
	}
}

func TestMayAtEachEnd(t *testing.T) {
	const page = 1024
	for at := -2; at <= page+2; at++ {
		for size := range 5 {
			want := at >= 0 && size > 0 && at+size <= page
			if mods.May(page, api.Mod{At: at, Text: "abcd"[:size]}) != want {
				t.Errorf("at %d %d bytes: not %v", at, size, want)
			}
		}
	}
}

func TestSize(t *testing.T) {
	of := func(want int, l ...api.Mod) {
		t.Helper()
		if n := mods.Size(l...); n != want {
			t.Errorf("of %d mods: %d, not %d", len(l), n, want)
		}
	}
	of(0)
	of(0, []api.Mod{}...)
	of(5, api.Mod{Text: "a"})
	of(6, api.Mod{At: 258, Text: "ab"})
	of(11, api.Mod{At: 258, Text: "ab"}, api.Mod{At: 258, Text: "a"})
	of(4+16384, api.Mod{Text: alike(16384)})
	// Whether a modification may be counts for nothing: no page's size is told.
	of(4, api.Mod{})
	of(4+5, api.Mod{At: -1}, api.Mod{At: math.MaxInt, Text: "a"})
	of(4+70000, api.Mod{Text: alike(70000)})
	r := chance(1)
	for range 200 {
		l := some(r, 2048, r.IntN(9), 600)
		of(len(records(l)), l...)
	}
}

func TestEncodeByHand(t *testing.T) {
	isLog(t, 1024, []api.Mod{{At: 258, Text: "ab"}}, "\x02\x01\x02\x00ab", api.OK)
	isLog(t, 1024, []api.Mod{{At: 0, Text: "\x00"}}, "\x00\x00\x01\x00\x00", api.OK)
	isLog(t, 1024, []api.Mod{{At: 1023, Text: "z"}}, "\xff\x03\x01\x00z", api.OK)
	isLog(t, 1024, []api.Mod{{At: 0, Text: alike(1024)}}, "\x00\x00\x00\x04"+alike(1024), api.OK)
	isLog(t, 16384, []api.Mod{{At: 0, Text: alike(16384)}}, "\x00\x00\x00\x40"+alike(16384), api.OK)
	isLog(t, 16384, []api.Mod{{At: 16383, Text: "z"}}, "\xff\x3f\x01\x00z", api.OK)
	isLog(t, 1024, []api.Mod{{At: 258, Text: "ab"}, {At: 1, Text: "c"}, {At: 258, Text: "ab"}}, "\x02\x01\x02\x00ab\x01\x00\x01\x00c\x02\x01\x02\x00ab", api.OK)
}

func TestEncode(t *testing.T) {
	for _, page := range sizes {
		all := good(page)
		isLog(t, page, nil, "", api.OK)
		isLog(t, page, []api.Mod{}, "", api.OK)
		isLog(t, page, all, records(all), api.OK)
		for _, m := range all {
			isLog(t, page, []api.Mod{m}, record(m), api.OK)
		}
		for _, m := range bad(page) {
			isLog(t, page, []api.Mod{m}, "", api.ErrArg)
			isLog(t, page, append(slices.Clone(all), m), "", api.ErrArg)
			isLog(t, page, append([]api.Mod{m}, all...), "", api.ErrArg)
			isLog(t, page, slices.Insert(slices.Clone(all), 3, m), "", api.ErrArg)
		}
	}
}

func TestEncodeOfNoPage(t *testing.T) {
	for _, page := range noSizes() {
		isLog(t, page, []api.Mod{{At: 0, Text: "a"}}, "", api.ErrArg)
		isLog(t, page, []api.Mod{{At: 0, Text: "a"}, {At: 3, Text: "b"}}, "", api.ErrArg)
		// There is none that may not be.
		isLog(t, page, nil, "", api.OK)
	}
}

func TestDecodeByHand(t *testing.T) {
	isDecoded(t, 1024, "\x02\x01\x02\x00ab", []api.Mod{{At: 258, Text: "ab"}}, api.OK)
	isDecoded(t, 1024, "\x02\x01\x02\x00ab\xff\x03\x01\x00z", []api.Mod{{At: 258, Text: "ab"}, {At: 1023, Text: "z"}}, api.OK)
	isDecoded(t, 1024, "\x00\x00\x00\x04"+alike(1024), []api.Mod{{At: 0, Text: alike(1024)}}, api.OK)
	isDecoded(t, 1024, "", nil, api.OK)
	isDecoded(t, 1024, "\x00\x04\x01\x00z", nil, api.ErrForm)                         // behind the page
	isDecoded(t, 2048, "\x00\x04\x01\x00z", []api.Mod{{At: 1024, Text: "z"}}, api.OK) // of a greater one within
	isDecoded(t, 1024, "\xff\x03\x02\x00yz", nil, api.ErrForm)                        // its last byte is behind
	isDecoded(t, 1024, "\x00\x00\x00\x00", nil, api.ErrForm)                          // no byte
	isDecoded(t, 1024, "\x00\x00\x00\x00\x00\x00\x01\x00a", nil, api.ErrForm)
	isDecoded(t, 1024, "\x00\x00\x01\x00ab", nil, api.ErrForm) // a byte more
	isDecoded(t, 1024, "\xff\xff\xff\xff", nil, api.ErrForm)
	isDecoded(t, 1024, "\xff\xff\xff\xff"+alike(65535), nil, api.ErrForm)
	isDecoded(t, 1024, "\x00\x00\x01\x04"+alike(1025), nil, api.ErrForm)
}

func TestDecodeOfNoPage(t *testing.T) {
	for _, page := range noSizes() {
		for _, s := range []string{"", "a", "\x00\x00\x01\x00a", "\x00\x00\x01\x00", "\xff\xff\x01\x00a"} {
			isDecoded(t, page, s, nil, api.ErrArg)
		}
	}
}

func TestDecodeOfWrongOnes(t *testing.T) {
	for _, page := range sizes {
		all := good(page)[:5]
		for _, m := range bad(page) {
			if m.At < 0 || m.At > 65535 || len(m.Text) > 65535 {
				continue // it has no record
			}
			isDecoded(t, page, record(m), nil, api.ErrForm)
			isDecoded(t, page, records(all)+record(m), nil, api.ErrForm)
			isDecoded(t, page, record(m)+records(all), nil, api.ErrForm)
			isDecoded(t, page, records(all[:2])+record(m)+records(all[2:]), nil, api.ErrForm)
		}
	}
}

// TestDecodeOfAnyHead tries each head of a record with few bytes behind.
func TestDecodeOfAnyHead(t *testing.T) {
	const page = 1024
	for at := range 65536 {
		for size := range 4 {
			m := api.Mod{At: at, Text: "xyz"[:size]}
			if size > 0 && at+size <= page {
				isDecoded(t, page, record(m), []api.Mod{m}, api.OK)
			} else {
				isDecoded(t, page, record(m), nil, api.ErrForm)
			}
		}
	}
	for size := range 65536 {
		s := string([]byte{1, 0, byte(size % 256), byte(size / 256)}) + alike(1023)
		if size == 1023 {
			isDecoded(t, page, s, []api.Mod{{At: 1, Text: alike(1023)}}, api.OK)
		} else if _, e := mods.Decode(page, s); e != api.ErrForm && size > 1018 {
			t.Error("of a text of", size, "bytes, where 1023 are:", e)
		}
	}
}

// P18.2

func TestApplyByHand(t *testing.T) {
	isApplied(t, alike(1024), []api.Mod{{At: 2, Text: "bc"}}, "aabc"+alike(1020), api.OK)
	isApplied(t, alike(1024), []api.Mod{{At: 1022, Text: "bc"}}, alike(1022)+"bc", api.OK)
	isApplied(t, alike(1024), []api.Mod{{At: 0, Text: "b"}}, "b"+alike(1023), api.OK)
	isApplied(t, alike(1024), []api.Mod{{At: 1, Text: "bcd"}, {At: 2, Text: "xyz"}}, "abxyz"+alike(1019), api.OK)
	isApplied(t, alike(1024), []api.Mod{{At: 2, Text: "xyz"}, {At: 1, Text: "bcd"}}, "abcdz"+alike(1019), api.OK)
	isApplied(t, alike(1024), []api.Mod{{At: 1, Text: "b"}, {At: 1, Text: "c"}}, "ac"+alike(1022), api.OK)
	isApplied(t, alike(1024), []api.Mod{{At: 1, Text: "bcd"}, {At: 2, Text: "x"}}, "abxd"+alike(1020), api.OK)
	isApplied(t, alike(1024), []api.Mod{{At: 2, Text: "x"}, {At: 1, Text: "bcd"}}, "abcd"+alike(1020), api.OK)
}

func TestApply(t *testing.T) {
	r := chance(2)
	for _, page := range sizes {
		text := noise(r, page)
		all := good(page)
		isApplied(t, text, nil, text, api.OK)
		isApplied(t, text, []api.Mod{}, text, api.OK)
		isApplied(t, text, all, applied(text, all), api.OK)
		slices.Reverse(all)
		isApplied(t, text, all, applied(text, all), api.OK)
		for _, m := range all {
			isApplied(t, text, []api.Mod{m}, text[:m.At]+m.Text+text[m.At+len(m.Text):], api.OK)
		}
		for _, m := range bad(page) {
			isApplied(t, text, []api.Mod{m}, "", api.ErrArg)
			isApplied(t, text, append(slices.Clone(all), m), "", api.ErrArg)
			isApplied(t, text, append([]api.Mod{m}, all...), "", api.ErrArg)
		}
	}
}

func TestApplyToNoPage(t *testing.T) {
	for _, n := range []int{0, 1, 5, 512, 1000, 1023, 1025, 3072, 16383, 16385, 32768} {
		isApplied(t, alike(n), nil, "", api.ErrArg)
		isApplied(t, alike(n), []api.Mod{{At: 0, Text: "b"}}, "", api.ErrArg)
		isApplied(t, alike(n), []api.Mod{{At: -1, Text: "b"}}, "", api.ErrArg)
	}
}

func TestApplyByChance(t *testing.T) {
	r := chance(3)
	for range 300 {
		text := noise(r, 1024)
		// Long ones lie one over the other.
		l := some(r, 1024, r.IntN(8), 1+r.IntN(1024))
		want := applied(text, l)
		isApplied(t, text, l, want, api.OK)
		isReplayed(t, text, records(l), want, api.OK)
		one := text
		for _, m := range l {
			one, _ = mods.Apply(one, m)
		}
		if one != want {
			t.Error("one by one they make another page")
		}
	}
}

func TestReplay(t *testing.T) {
	text := alike(1024)
	isReplayed(t, text, "", text, api.OK)
	isReplayed(t, text, "\x02\x00\x02\x00bc", "aabc"+alike(1020), api.OK)
	isReplayed(t, text, "\x01\x00\x03\x00bcd\x02\x00\x03\x00xyz", "abxyz"+alike(1019), api.OK)
	isReplayed(t, text, "\x02\x00\x03\x00xyz\x01\x00\x03\x00bcd", "abcdz"+alike(1019), api.OK)
	isReplayed(t, text, "\x00\x04\x01\x00z", "", api.ErrForm)
	isReplayed(t, text, "\x02\x00\x02\x00bc\x00\x00\x00\x00", "", api.ErrForm)
	isReplayed(t, text, "\x02\x00\x02\x00bc\x00", "", api.ErrForm)
	isReplayed(t, alike(2048), "\x00\x04\x01\x00z", alike(1024)+"z"+alike(1023), api.OK)
	for _, n := range []int{0, 1, 512, 1023, 1025, 3072, 16385, 32768} {
		isReplayed(t, alike(n), "", "", api.ErrArg)
		isReplayed(t, alike(n), "\x00\x00\x01\x00z", "", api.ErrArg)
		isReplayed(t, alike(n), "\x00\x00\x01", "", api.ErrArg)
		isReplayed(t, alike(n), "\xff\xff\x01\x00z", "", api.ErrArg)
	}
}

// P18.3

func TestDiffByHand(t *testing.T) {
	a := alike(1024)
	isDiff(t, a, a, nil, api.OK)
	isDiff(t, a, "aaabac"+alike(14)+"d"+alike(1003), []api.Mod{{At: 3, Text: "bac"}, {At: 20, Text: "d"}}, api.OK)
	isDiff(t, a, "b"+alike(1023), []api.Mod{{At: 0, Text: "b"}}, api.OK)
	isDiff(t, a, alike(1023)+"b", []api.Mod{{At: 1023, Text: "b"}}, api.OK)
	isDiff(t, a, "b"+alike(1022)+"b", []api.Mod{{At: 0, Text: "b"}, {At: 1023, Text: "b"}}, api.OK)
	isDiff(t, a, strings.Repeat("b", 1024), []api.Mod{{At: 0, Text: strings.Repeat("b", 1024)}}, api.OK)
	// What stays the same within: three bytes, four, and five of them.
	isDiff(t, a, "ab"+"aaa"+"c"+alike(1018), []api.Mod{{At: 1, Text: "baaac"}}, api.OK)
	isDiff(t, a, "ab"+"aaaa"+"c"+alike(1017), []api.Mod{{At: 1, Text: "baaaac"}}, api.OK)
	isDiff(t, a, "ab"+"aaaaa"+"c"+alike(1016), []api.Mod{{At: 1, Text: "b"}, {At: 7, Text: "c"}}, api.OK)
	isDiff(t, a, alike(1018)+"b"+"aaaa"+"c", []api.Mod{{At: 1018, Text: "baaaac"}}, api.OK)
	isDiff(t, a, alike(1017)+"b"+"aaaaa"+"c", []api.Mod{{At: 1017, Text: "b"}, {At: 1023, Text: "c"}}, api.OK)
	// Gaps are not summed: each has four at most.
	isDiff(t, a, strings.Repeat("baaaa", 200)+alike(24), []api.Mod{{At: 0, Text: strings.Repeat("baaaa", 199) + "b"}}, api.OK)
	// Both what stands in a and in b may be any byte.
	isDiff(t, strings.Repeat("\x00", 1024), "\xff"+strings.Repeat("\x00", 1023), []api.Mod{{At: 0, Text: "\xff"}}, api.OK)
	isDiff(t, "\xff"+strings.Repeat("\x00", 1023), strings.Repeat("\x00", 1024), []api.Mod{{At: 0, Text: "\x00"}}, api.OK)
}

func TestDiffOfEachGap(t *testing.T) {
	for _, page := range sizes {
		a := alike(page)
		for gap := range 12 {
			for _, at := range []int{0, 1, 7, page/2 - 3, page - 2 - gap} {
				b := turned(a, at, at+1+gap)
				want := []api.Mod{{At: at, Text: b[at : at+1]}, {At: at + 1 + gap, Text: b[at+1+gap : at+2+gap]}}
				if gap <= api.ModGap {
					want = []api.Mod{{At: at, Text: b[at : at+2+gap]}}
				}
				isDiff(t, a, b, want, api.OK)
				back := slices.Clone(want)
				for i, m := range back {
					back[i].Text = a[m.At : m.At+len(m.Text)]
				}
				isDiff(t, b, a, back, api.OK)
			}
		}
	}
}

func TestDiffOfEachPlace(t *testing.T) {
	for _, page := range sizes[:2] {
		a := noise(chance(4), page)
		for at := range page {
			b := turned(a, at)
			isDiff(t, a, b, []api.Mod{{At: at, Text: b[at : at+1]}}, api.OK)
		}
	}
}

func TestDiffOfNoPages(t *testing.T) {
	for _, n := range sizes {
		for _, m := range []int{0, 1, 512, 1023, 1024, 1025, 2048, 3072, 4096, 8192, 16384, 16385, 32768} {
			if m != n {
				isDiff(t, alike(n), alike(m), nil, api.ErrArg)
				isDiff(t, alike(m), alike(n), nil, api.ErrArg)
			}
		}
	}
	for _, n := range []int{0, 1, 512, 1000, 1023, 1025, 3072, 16385, 32768} {
		isDiff(t, alike(n), alike(n), nil, api.ErrArg)
		isDiff(t, alike(n), strings.Repeat("b", n), nil, api.ErrArg)
	}
}

// alter is a page with other bytes here and there, close together and far apart.
func alter(r *rand.Rand, text string) string {
	b := []byte(text)
	for at := r.IntN(20); at < len(b); at += 1 + r.IntN(9) {
		if r.IntN(12) == 0 {
			at += r.IntN(len(b))
			continue
		}
		b[at] = byte(r.IntN(256))
	}
	return string(b)
}

func TestDiffByChance(t *testing.T) {
	r := chance(5)
	for range 400 {
		a := noise(r, sizes[r.IntN(len(sizes))])
		b := alter(r, a)
		isDiff(t, a, b, apart(a, b), api.OK)
		isDiff(t, b, a, apart(b, a), api.OK)
		isDiff(t, a, a, nil, api.OK)
		isApart(t, a, b)
	}
	// Few different bytes: gaps of each length, by chance.
	for range 400 {
		a, b := make([]byte, 1024), make([]byte, 1024)
		of := 1 + r.IntN(12)
		for i := range a {
			a[i], b[i] = byte(r.IntN(of)/max(1, of-1)), byte(r.IntN(of)/max(1, of-1))
		}
		isDiff(t, string(a), string(b), apart(string(a), string(b)), api.OK)
		isApart(t, string(a), string(b))
	}
}

// isApart holds what the promise says of each modification, and of each two.
func isApart(t *testing.T, a, b string) {
	t.Helper()
	l, e := mods.Diff(a, b)
	if e != api.OK {
		t.Fatal("no difference:", e)
	}
	left := []byte(a)
	end := -api.ModGap - 1
	for _, m := range l {
		last := m.At + len(m.Text) - 1
		if m.At-end <= api.ModGap {
			t.Error("too close to what is ahead:", m.At, end)
		}
		if a[m.At] == b[m.At] || a[last] == b[last] {
			t.Error("it begins, or ends, with a byte that is the same:", m.At, last)
		}
		same := 0
		for at := m.At; at <= last; at++ {
			same++
			if a[at] != b[at] {
				same = 0
			}
			if same > api.ModGap {
				t.Error("too many bytes stay the same, up to", at)
			}
		}
		copy(left[m.At:], m.Text)
		end = last + 1
	}
	if string(left) != b {
		t.Error("they make another page")
	}
}

// P18.4

func TestWrittenIsRead(t *testing.T) {
	r := chance(6)
	for _, page := range sizes {
		all := good(page)
		for i := range all {
			isDecoded(t, page, records(all[:i]), all[:i], api.OK)
		}
		for range 60 {
			l := some(r, page, r.IntN(20), 1+r.IntN(page))
			s, e := mods.Encode(page, l...)
			if e != api.OK || len(s) != mods.Size(l...) {
				t.Error("written:", e, len(s))
			}
			isDecoded(t, page, s, l, api.OK)
			text := noise(r, page)
			isReplayed(t, text, s, applied(text, l), api.OK)
		}
	}
}

// TestLogsOfLogs holds that two logs, one behind the other, are the log of both.
func TestLogsOfLogs(t *testing.T) {
	r := chance(7)
	for range 100 {
		l, m := some(r, 4096, r.IntN(9), 50), some(r, 4096, r.IntN(9), 50)
		s, _ := mods.Encode(4096, l...)
		u, _ := mods.Encode(4096, m...)
		isDecoded(t, 4096, s+u, slices.Concat(l, m), api.OK)
		text := noise(r, 4096)
		first, _ := mods.Replay(text, s)
		both, _ := mods.Replay(text, s+u)
		isReplayed(t, first, u, both, api.OK)
	}
}

func TestCutLogs(t *testing.T) {
	l := []api.Mod{{At: 258, Text: "ab"}, {At: 0, Text: "\x00\x00\x00\x00\x00\x00"}, {At: 1023, Text: "z"}, {At: 515, Text: "a page"}}
	whole := records(l)
	n := 0
	for cut := range len(whole) + 1 {
		for n < len(l) && len(records(l[:n+1])) <= cut {
			n++
		}
		if cut == len(records(l[:n])) {
			isDecoded(t, 1024, whole[:cut], l[:n], api.OK)
			continue
		}
		isDecoded(t, 1024, whole[:cut], nil, api.ErrForm)
		isReplayed(t, alike(1024), whole[:cut], "", api.ErrForm)
	}
}

// TestAnyBytes holds that what is read is what would be written.
func TestAnyBytes(t *testing.T) {
	r := chance(8)
	read := 0
	for range 20000 {
		b := []byte(noise(r, r.IntN(14)))
		for i := range b {
			if i%5 != 0 {
				b[i] %= 2
			}
		}
		s := string(b)
		l, e := mods.Decode(1024, s)
		switch e {
		case api.OK:
			read++
			isLog(t, 1024, l, s, api.OK)
		case api.ErrForm:
			if l != nil {
				t.Error("beside an error:", l)
			}
		default:
			t.Error("of any bytes:", e)
		}
	}
	if read < 100 {
		t.Error("logs among them:", read)
	}
}

func TestDifferenceIsApplied(t *testing.T) {
	r := chance(9)
	for range 300 {
		a := noise(r, sizes[r.IntN(len(sizes))])
		for _, b := range []string{alter(r, a), noise(r, len(a)), a, turned(a, 0), turned(a, len(a)-1), alike(len(a))} {
			l, e := mods.Diff(a, b)
			if e != api.OK {
				t.Fatal("no difference:", e)
			}
			isApplied(t, a, l, b, api.OK)
			isApplied(t, b, l, b, api.OK)
			log, e := mods.Encode(len(a), l...)
			if e != api.OK {
				t.Fatal("no log:", e)
			}
			isReplayed(t, a, log, b, api.OK)
		}
	}
}

func TestOrderOfThoseThatDoNotMeet(t *testing.T) {
	r := chance(10)
	text := alike(1024)
	// They stand side by side.
	isApplied(t, text, []api.Mod{{At: 0, Text: "bcd"}, {At: 3, Text: "xyz"}}, "bcdxyz"+alike(1018), api.OK)
	isApplied(t, text, []api.Mod{{At: 3, Text: "xyz"}, {At: 0, Text: "bcd"}}, "bcdxyz"+alike(1018), api.OK)
	for range 200 {
		a := noise(r, 2048)
		b := alter(r, a)
		l, _ := mods.Diff(a, b)
		r.Shuffle(len(l), func(i, j int) { l[i], l[j] = l[j], l[i] })
		isApplied(t, a, l, b, api.OK)
	}
}

// R4, R5 and R6

func TestTheSameAgain(t *testing.T) {
	r := chance(11)
	for range 50 {
		a := noise(r, 1024)
		b := alter(r, a)
		l, _ := mods.Diff(a, b)
		log, _ := mods.Encode(1024, l...)
		read, _ := mods.Decode(1024, log)
		// What is done with one answer is not seen in another.
		for i := range read {
			read[i] = api.Mod{At: -1}
		}
		isDecoded(t, 1024, log, l, api.OK)
		clear(l)
		isDiff(t, a, b, apart(a, b), api.OK)
		isReplayed(t, a, log, b, api.OK)
	}
}

func TestNothingBesideErrors(t *testing.T) {
	l, e := mods.Decode(1024, "\x02\x01\x02\x00ab\x00")
	if l != nil || e != api.ErrForm {
		t.Error("Decode:", l, e)
	}
	l, e = mods.Decode(1000, "\x02\x01\x02\x00ab")
	if l != nil || e != api.ErrArg {
		t.Error("Decode:", l, e)
	}
	l, e = mods.Diff(alike(1024), alike(2048))
	if l != nil || e != api.ErrArg {
		t.Error("Diff:", l, e)
	}
}
