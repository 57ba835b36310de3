package inflate_test

import (
	"bytes"
	"compress/flate"
	"io"
	"math"
	"math/rand/v2"
	"slices"
	"strings"
	"sync"
	"testing"

	"platen/api"
	"platen/deflate"
	"platen/inflate"
)

// far is a limit that no test here comes to.
const far = 1 << 30

func chance(n uint64) *rand.Rand {
	return rand.New(rand.NewPCG(16, n))
}

func alike(n int) string {
	return strings.Repeat("a", n)
}

func noise(r *rand.Rand, n int) string {
	b := make([]byte, n)
	for i := range b {
		b[i] = byte(r.IntN(256))
	}
	return string(b)
}

// words have matches, near and far, and bytes alone.
func words(r *rand.Rand, size int) string {
	some := []string{"page", "store", "she", "sells", "sea", "shells", " ", " ", ", ", "\n", "0", "17", "\x00\x00\x00\x01"}
	var b strings.Builder
	for b.Len() < size {
		if r.IntN(4) == 0 {
			b.WriteByte(byte(r.IntN(256)))
			continue
		}
		b.WriteString(some[r.IntN(len(some))])
	}
	return b.String()[:size]
}

// lots are of several sorts, one behind the other, and so become blocks of several kinds.
func lots(r *rand.Rand) string {
	var b strings.Builder
	for range 1 + r.IntN(4) {
		size := r.IntN(3000)
		switch r.IntN(4) {
		case 0:
			b.WriteString(noise(r, size))
		case 1:
			b.WriteString(words(r, size))
		case 2:
			b.WriteString(alike(r.IntN(600)))
		default:
			for range size {
				b.WriteByte('a' + byte(r.IntN(1+r.IntN(26))))
			}
		}
	}
	return b.String()
}

// Streams are built as rows of 0s and 1s, by RFC 1951's words.

// low has the bits of n, the lowest one first.
func low(n, size int) string {
	var b strings.Builder
	for range size {
		b.WriteByte('0' + byte(n%2))
		n /= 2
	}
	return b.String()
}

// high has the bits of n, the highest one first.
func high(n, size int) string {
	b := []byte(low(n, size))
	slices.Reverse(b)
	return string(b)
}

func lowText(s string) string {
	var b strings.Builder
	for i := range len(s) {
		b.WriteString(low(int(s[i]), 8))
	}
	return b.String()
}

// packed is the text whose bits these are, with 0s behind.
func packed(bits string) string {
	var b []byte
	for len(bits) > 0 {
		n := min(8, len(bits))
		sum := 0
		for i := range n {
			sum += int(bits[i]-'0') << i
		}
		b = append(b, byte(sum))
		bits = bits[n:]
	}
	return string(b)
}

// Each kind of block, as one of several, and as the last one.
const (
	oneStored, lastStored   = "000", "100"
	oneFixed, lastFixed     = "010", "110"
	oneDynamic, lastDynamic = "001", "101"
	oneNone, lastNone       = "011", "111"
)

// stored puts a stored block's bytes behind bits, of which the last three are its head; fill stands up to the whole byte.
func stored(bits, raw, fill string) string {
	if rest := len(bits) % 8; rest > 0 {
		bits += fill[:8-rest]
	}
	return bits + low(len(raw), 16) + low(65535-len(raw), 16) + lowText(raw)
}

const noughts, ones = "00000000", "11111111"

// lit is a symbol by the fixed code of literals and lengths.
func lit(sym int) string {
	switch {
	case sym < 144:
		return high(0b00110000+sym, 8)
	case sym < 256:
		return high(0b110010000+sym-144, 9)
	case sym < 280:
		return high(sym-256, 7)
	}
	return high(0b11000000+sym-280, 8)
}

// dist is a symbol by the fixed code of distances.
func dist(sym int) string {
	return high(sym, 5)
}

func lits(s string) string {
	var b strings.Builder
	for i := range len(s) {
		b.WriteString(lit(int(s[i])))
	}
	return b.String()
}

// three is a match of three bytes, one ahead.
var three = lit(257) + dist(0)

var end = lit(256)

// behind puts a block ahead of bits, such that all of them are n more than whole bytes; and tells that block's text.
func behind(n int, bits string) (all, text string) {
	// Each of these bytes takes nine bits: with seven of them at most, any n comes out.
	for k := range 8 {
		all, text = oneFixed+strings.Repeat(lit(200), k)+end+bits, strings.Repeat("\xc8", k)
		if len(all)%8 == n {
			break
		}
	}
	return all, text
}

// flush are bits behind a block, such that no bit stands behind them.
func flush(bits string) string {
	all, _ := behind(0, bits)
	return packed(all)
}

// RFC 1951's tables.

var lengthLeast = []int{3, 4, 5, 6, 7, 8, 9, 10, 11, 13, 15, 17, 19, 23, 27, 31, 35, 43, 51, 59, 67, 83, 99, 115, 131, 163, 195, 227, 258}

var lengthBits = []int{0, 0, 0, 0, 0, 0, 0, 0, 1, 1, 1, 1, 2, 2, 2, 2, 3, 3, 3, 3, 4, 4, 4, 4, 5, 5, 5, 5, 0}

var distLeast = []int{1, 2, 3, 4, 5, 7, 9, 13, 17, 25, 33, 49, 65, 97, 129, 193, 257, 385, 513, 769, 1025, 1537, 2049, 3073, 4097, 6145, 8193, 12289, 16385, 24577}

var distBits = []int{0, 0, 0, 0, 1, 1, 2, 2, 3, 3, 4, 4, 5, 5, 6, 6, 7, 7, 8, 8, 9, 9, 10, 10, 11, 11, 12, 12, 13, 13}

var order = []int{16, 17, 18, 0, 8, 7, 9, 6, 10, 5, 11, 4, 12, 3, 13, 2, 14, 1, 15}

// place is the last row whose least is not above n.
func place(least []int, n int) int {
	at := 0
	for i, first := range least {
		if first <= n {
			at = i
		}
	}
	return at
}

// match is one by the fixed codes.
func match(size, far int) string {
	i, j := place(lengthLeast, size), place(distLeast, far)
	return lit(257+i) + low(size-lengthLeast[i], lengthBits[i]) + dist(j) + low(far-distLeast[j], distBits[j])
}

// rows are the codes of such lengths, each with its first bit first: numbers, counted up by rising lengths.
func rows(lens []uint8) []string {
	all := make([]string, len(lens))
	next := 0
	for size := 1; size <= 15; size++ {
		next *= 2
		for sym, n := range lens {
			if int(n) == size {
				all[sym] = high(next, size)
				next++
			}
		}
	}
	return all
}

// every are lengths of the codes of lengths by which each symbol has one: of 4 bits up to 12, of 5 from there on.
func every() []uint8 {
	return slices.Concat(slices.Repeat([]uint8{4}, 13), slices.Repeat([]uint8{5}, 6))
}

// counted is how many lengths a dynamic block has: of literals and lengths, of distances, of the codes of lengths.
func counted(lit, dist, lens int) string {
	return low(lit-257, 5) + low(dist-1, 5) + low(lens-4, 4)
}

// ordered are the first n lengths of the codes of lengths, as they stand there.
func ordered(lens []uint8, n int) string {
	var b strings.Builder
	for _, sym := range order[:n] {
		b.WriteString(low(int(lens[sym]), 3))
	}
	return b.String()
}

// head is what stands ahead of the lengths of a block, where every symbol has a code.
func head(block string, lit, dist int) string {
	return block + counted(lit, dist, 19) + ordered(every(), 19)
}

// says is a symbol of lengths, and its bits besides.
func says(sym, extra int) string {
	code := rows(every())[sym]
	switch sym {
	case 16:
		return code + low(extra, 2)
	case 17:
		return code + low(extra, 3)
	case 18:
		return code + low(extra, 7)
	}
	return code
}

// saysAll tells lengths one by one.
func saysAll(lens []uint8) string {
	var b strings.Builder
	for _, n := range lens {
		b.WriteString(says(int(n), 0))
	}
	return b.String()
}

// dynamic is a block's head, and all its lengths.
func dynamic(block string, lit, dist []uint8) string {
	return head(block, len(lit), len(dist)) + saysAll(lit) + saysAll(dist)
}

// lensOf are n lengths, 0 but of those symbols that are told.
func lensOf(n int, some map[int]uint8) []uint8 {
	lens := make([]uint8, n)
	for sym, size := range some {
		lens[sym] = size
	}
	return lens
}

// The model reads a row of 0s and 1s; behind the first fault it reads nothing more.

type model struct {
	bits  string
	at    int
	ahead int
	all   []byte
	limit int
	e     api.Errno
}

// book has codes, and all that some code begins with.
type book struct {
	syms   map[string]int
	begins map[string]bool
}

func bookOf(lens []uint8) book {
	b := book{map[string]int{}, map[string]bool{}}
	for sym, row := range rows(lens) {
		if row == "" {
			continue
		}
		b.syms[row] = sym
		for n := range row {
			b.begins[row[:n]] = true
		}
	}
	return b
}

// shape is how much of all rows of 15 bits codes of such lengths have, and how many codes there are.
func shape(lens []uint8) (part, codes int) {
	for _, n := range lens {
		if n > 0 {
			part += 1 << (15 - n)
			codes++
		}
	}
	return part, codes
}

func isWhole(lens []uint8) bool {
	part, _ := shape(lens)
	return part == 1<<15
}

func isOne(lens []uint8) bool {
	part, codes := shape(lens)
	return part == 1<<14 && codes == 1
}

func isNone(lens []uint8) bool {
	_, codes := shape(lens)
	return codes == 0
}

func (m *model) fault(e api.Errno) {
	if m.e == api.OK {
		m.e = e
	}
}

func (m *model) number(size int) int {
	if m.e == api.OK && len(m.bits)-m.at < size {
		m.e = api.ErrEnd
	}
	if m.e != api.OK {
		return 0
	}
	n := 0
	for i := range size {
		n += int(m.bits[m.at+i]-'0') << i
	}
	m.at += size
	return n
}

func (m *model) symbol(b book) int {
	for n := 0; m.e == api.OK; n++ {
		if m.at+n > len(m.bits) {
			m.e = api.ErrEnd
			break
		}
		row := m.bits[m.at : m.at+n]
		if sym, is := b.syms[row]; is {
			m.at += n
			return sym
		}
		if !b.begins[row] {
			m.e = api.ErrCode
		}
	}
	return 256
}

func (m *model) add(piece string) {
	if m.e == api.OK && len(m.all)-m.ahead+len(piece) > m.limit {
		m.e = api.ErrLong
	}
	if m.e == api.OK {
		m.all = append(m.all, piece...)
	}
}

func (m *model) stored() {
	for m.at%8 != 0 {
		m.at++
	}
	n, other := m.number(16), m.number(16)
	if n+other != 65535 {
		m.fault(api.ErrStored)
	}
	if len(m.bits)-m.at < 8*n {
		m.fault(api.ErrEnd)
	}
	if m.e == api.OK {
		m.add(packed(m.bits[m.at : m.at+8*n]))
		m.at += 8 * n
	}
}

func (m *model) dynamic() (lit, dist []uint8) {
	lits, dists, n := 257+m.number(5), 1+m.number(5), 4+m.number(4)
	if lits > 286 || dists > 30 {
		m.fault(api.ErrLens)
	}
	some := make([]uint8, 19)
	for _, sym := range order[:n] {
		some[sym] = uint8(m.number(3))
	}
	if !isWhole(some) {
		m.fault(api.ErrLens)
	}
	var lens []uint8
	for b := bookOf(some); m.e == api.OK && len(lens) < lits+dists; {
		lens = append(lens, m.run(b, lens)...)
	}
	if len(lens) != lits+dists {
		m.fault(api.ErrLens)
	}
	if m.e != api.OK {
		return nil, nil
	}
	lit, dist = lens[:lits], lens[lits:]
	if lit[256] == 0 || !isWhole(lit) && !isOne(lit) || !isWhole(dist) && !isOne(dist) && !isNone(dist) {
		m.fault(api.ErrLens)
	}
	return lit, dist
}

func (m *model) run(b book, lens []uint8) []uint8 {
	switch sym := m.symbol(b); sym {
	case 16:
		n := 3 + m.number(2)
		if len(lens) == 0 {
			m.fault(api.ErrLens)
			return nil
		}
		return slices.Repeat(lens[len(lens)-1:], n)
	case 17:
		return make([]uint8, 3+m.number(3))
	case 18:
		return make([]uint8, 11+m.number(7))
	default:
		return []uint8{uint8(sym)}
	}
}

func (m *model) symbols(lit, dist book) {
	for m.e == api.OK {
		sym := m.symbol(lit)
		if sym == 256 {
			return
		}
		if sym < 256 {
			m.add(string([]byte{byte(sym)}))
			continue
		}
		if sym > 285 {
			m.fault(api.ErrCode)
			return
		}
		extra := m.number(lengthBits[sym-257])
		if sym == 284 && extra == 31 {
			m.fault(api.ErrCode)
		}
		m.match(lengthLeast[sym-257]+extra, dist)
	}
}

func (m *model) match(size int, dist book) {
	sym := m.symbol(dist)
	if m.e != api.OK {
		return
	}
	if sym > 29 {
		m.e = api.ErrCode
		return
	}
	far := distLeast[sym] + m.number(distBits[sym])
	if far > len(m.all) {
		m.fault(api.ErrDist)
		return
	}
	piece := m.all[len(m.all)-far:]
	for len(piece) < size {
		piece = append(slices.Clone(piece), piece...)
	}
	m.add(string(piece[:size]))
}

var modelFixed = sync.OnceValues(func() (lit, dist book) {
	lens := slices.Concat(slices.Repeat([]uint8{8}, 144), slices.Repeat([]uint8{9}, 112), slices.Repeat([]uint8{7}, 24), slices.Repeat([]uint8{8}, 8))
	return bookOf(lens), bookOf(slices.Repeat([]uint8{5}, 32))
})

func modelOf(dict, s string, limit int) (string, int, api.Errno) {
	if limit < 0 {
		return "", 0, api.ErrArg
	}
	m := &model{bits: lowText(s), ahead: len(dict), all: []byte(dict), limit: limit}
	for last := 0; last == 0 && m.e == api.OK; {
		last = m.number(1)
		switch kind := m.number(2); {
		case m.e != api.OK:
		case kind == 0:
			m.stored()
		case kind == 1:
			lit, dist := modelFixed()
			m.symbols(lit, dist)
		case kind == 2:
			lit, dist := m.dynamic()
			m.symbols(bookOf(lit), bookOf(dist))
		default:
			m.fault(api.ErrBlock)
		}
	}
	if m.e != api.OK {
		return "", 0, m.e
	}
	return string(m.all[m.ahead:]), (m.at + 7) / 8, api.OK
}

// What is held.

func is(t *testing.T, dict, s string, limit int, want string, wantUsed int, wantE api.Errno) {
	t.Helper()
	text, used, e := inflate.Inflate(dict, s, limit)
	if text != want || used != wantUsed || e != wantE {
		t.Errorf("%.40x (%d bytes) behind %d, limit %d: %d bytes, %d, %d, not %d bytes, %d, %d", s, len(s), len(dict), limit, len(text), used, e, len(want), wantUsed, wantE)
	}
}

// fails holds that nothing stands beside the error.
func fails(t *testing.T, s string, want api.Errno) {
	t.Helper()
	is(t, "", s, far, "", 0, want)
}

// reads holds that a stream is all used, whatever stands behind it, that it is wanting without its last byte, and that Go's own reader has the same text.
func reads(t *testing.T, dict, s, want string) {
	t.Helper()
	is(t, dict, s, far, want, len(s), api.OK)
	for _, more := range []string{"\x00", "\xff", s, "abcdefghi"} {
		is(t, dict, s+more, far, want, len(s), api.OK)
	}
	is(t, dict, s[:len(s)-1], far, "", 0, api.ErrEnd)
	isRead(t, dict, s, want)
}

// isRead holds that Go's own reader takes all of a stream, and reads it as the text.
func isRead(t *testing.T, dict, s, want string) {
	t.Helper()
	r := bytes.NewReader([]byte(s))
	got, err := io.ReadAll(flate.NewReaderDict(r, []byte(dict)))
	if err != nil || string(got) != want || r.Len() != 0 {
		t.Errorf("Go reads %.40x (%d bytes) as %d bytes, not %d, and %d stand behind: %v", s, len(s), len(got), len(want), r.Len(), err)
	}
}

// agrees holds any bytes against the model, and tells what came of them.
func agrees(t *testing.T, dict, s string, limit int) api.Errno {
	t.Helper()
	text, used, e := modelOf(dict, s, limit)
	is(t, dict, s, limit, text, used, e)
	if e == api.OK {
		isRead(t, dict, s[:used], text)
	}
	return e
}

// isCutAnywhere holds that a stream is wanting ahead of each of its bytes.
func isCutAnywhere(t *testing.T, dict, s string) {
	t.Helper()
	for n := range len(s) {
		is(t, dict, s[:n], far, "", 0, api.ErrEnd)
	}
}

// hasLimit holds that a stream's text is read with just the room it has need of.
func hasLimit(t *testing.T, dict, s, want string) {
	t.Helper()
	for _, limit := range []int{math.MinInt, math.MinInt + 1, -1 << 32, -len(want) - 1, -2, -1} {
		is(t, dict, s, limit, "", 0, api.ErrArg)
	}
	for _, limit := range []int{0, 1, len(want) / 2, len(want) - 2, len(want) - 1} {
		if limit >= 0 && limit < len(want) {
			is(t, dict, s, limit, "", 0, api.ErrLong)
		}
	}
	for _, limit := range []int{len(want), len(want) + 1, 2 * len(want), 1 << 31, 1 << 32, 1 << 60, math.MaxInt - 1, math.MaxInt} {
		is(t, dict, s, limit, want, len(s), api.OK)
	}
}

// small has code lengths for a, b, EndSymbol, and matches of three bytes, and of 227 and more; distances 1 and 5, 6.
func small(block string) string {
	lit := lensOf(285, map[int]uint8{'a': 2, 'b': 2, 256: 3, 257: 3, 284: 2})
	return dynamic(block, lit, []uint8{1, 0, 0, 0, 1})
}

const (
	smallA, smallB, smallMany = "00", "01", "10" // 227 bytes and more by five bits behind it
	smallEnd, smallThree      = "110", "111"
	smallOne, smallFive       = "0", "1" // distances: of five and six by a bit behind it
)

// stream is one, what stands ahead of it, and the text that it is.
type stream struct {
	dict, s, text string
}

// streams are some of each kind of block.
func streams() []stream {
	a, b := small(oneDynamic)+smallA, small(oneDynamic)+smallB
	last := small(lastDynamic)
	rows := []stream{
		{"", lastFixed + end, ""},
		{"", stored(lastStored, "", noughts), ""},
		{"", stored(lastStored, "abc", noughts), "abc"},
		{"", stored(stored(oneStored, "ab", noughts)+lastStored, "cd", noughts), "abcd"},
		{"", stored(stored(oneStored, "", ones)+lastStored, "", ones), ""},
		{"", lastFixed + lits("abc\xff\x90") + end, "abc\xff\x90"},
		{"", lastFixed + lits("ab") + match(10, 2) + end, "abababababab"},
		{"", lastFixed + lits("a") + match(258, 1) + match(258, 259) + end, alike(517)},
		{"", lastFixed + lits("0123456789") + match(3, 10) + match(4, 6) + match(5, 1) + end, "0123456789012789000000"},
		{"", oneFixed + end + oneFixed + lits("x") + end + oneFixed + end + lastFixed + end, "x"},
		{"", last + smallEnd, ""},
		{"", last + smallA + smallB + smallThree + smallOne + smallEnd, "abbbb"},
		{"", last + smallB + smallMany + low(30, 5) + smallOne + smallEnd, strings.Repeat("b", 258)},
		{"", last + smallA + smallA + smallB + smallB + smallA + smallThree + smallFive + "0" + smallEnd, "aabbaaab"},
		{"", last + smallA + smallB + smallB + smallB + smallB + smallA + smallThree + smallFive + "1" + smallEnd, "abbbbaabb"},
		{"", a + smallEnd + last + smallB + smallEnd, "ab"},
		{"", oneFixed + lits("abc") + end + last + smallThree + smallOne + smallEnd, "abcccc"},
		{"", a + smallEnd + oneFixed + three + end + lastFixed + end, "aaaa"},
		{"", stored(b+smallEnd+oneStored, "cd", ones) + lastFixed + match(5, 2) + lits("e") + end, "bcdcdcdce"},
		{"xyz", lastFixed + match(3, 3) + match(3, 6) + end, "xyzxyz"},
		{"xyz", last + smallThree + smallOne + smallEnd, "zzz"},
		{"xyz", stored(oneStored, "ab", noughts) + last + smallThree + smallFive + "0" + smallEnd, "abxyz"},
	}
	for i := range rows {
		rows[i].s = packed(rows[i].s)
	}
	return rows
}

// The chapter's examples.

func TestExamples(t *testing.T) {
	is(t, "", "\x03\x00", far, "", 2, api.OK)
	is(t, "", "\x03\x00", 0, "", 2, api.OK)
	fails(t, "\x07", api.ErrBlock)
}

// P16.1

func TestByHand(t *testing.T) {
	is(t, "", "K\x04\x00", far, "a", 3, api.OK)
	is(t, "", "K\x84\x03\x00", far, "aaaaaaaaaa", 4, api.OK)
	is(t, "", "\x01\x02\x00\xfd\xffab", far, "ab", 7, api.OK)
	is(t, "bcd", "\x03\xa2D\x00", far, "bcda", 4, api.OK)
	for _, row := range streams() {
		reads(t, row.dict, row.s, row.text)
		isCutAnywhere(t, row.dict, row.s)
		hasLimit(t, row.dict, row.s, row.text)
		if e := agrees(t, row.dict, row.s, far); e != api.OK {
			t.Errorf("the model has %d of %x", e, row.s)
		}
	}
}

func TestNothing(t *testing.T) {
	for _, dict := range []string{"", "abc", alike(40000)} {
		for _, limit := range []int{0, 1, far, math.MaxInt} {
			is(t, dict, "", limit, "", 0, api.ErrEnd)
		}
		for _, limit := range []int{-1, -2, math.MinInt} {
			is(t, dict, "", limit, "", 0, api.ErrArg)
			is(t, dict, "\x07", limit, "", 0, api.ErrArg)
			is(t, dict, "\x03\x00", limit, "", 0, api.ErrArg)
		}
	}
}

// All that one byte, two, and three that begin a last block can be.
func TestAllSmall(t *testing.T) {
	for a := range 256 {
		agrees(t, "", string([]byte{byte(a)}), far)
		for b := range 256 {
			s := string([]byte{byte(a), byte(b)})
			agrees(t, "", s, far)
			if a%8 == 3 {
				agrees(t, "xyz", s+"\x42\x00", 4)
			}
		}
	}
}

// Blocks of kind 3: as the first one, and behind others of each kind.
func TestKindThree(t *testing.T) {
	for _, head := range []string{oneNone, lastNone} {
		fails(t, packed(head), api.ErrBlock)
		fails(t, packed(head+"11111"), api.ErrBlock)
		fails(t, packed(head+strings.Repeat("10", 90)), api.ErrBlock)
		fails(t, packed(oneFixed+end+head), api.ErrBlock)
		fails(t, packed(oneFixed+lits("abc")+end+head), api.ErrBlock)
		fails(t, packed(stored(oneStored, "ab", noughts)+head), api.ErrBlock)
		fails(t, packed(small(oneDynamic)+smallA+smallEnd+head), api.ErrBlock)
		// Behind the last one it counts for nothing.
		is(t, "", packed(lastFixed+end+head), far, "", 2, api.OK)
		is(t, "", packed(stored(lastStored, "ab", noughts)+head), far, "ab", 7, api.OK)
	}
	// Two bits alone are left of a byte: of a kind there is one bit.
	bits := strings.Repeat(oneFixed+end, 3)
	fails(t, packed(bits+"01"), api.ErrEnd)
	fails(t, packed(bits+"00"), api.ErrEnd)
	fails(t, packed(strings.Repeat(bits, 4)), api.ErrEnd)
}

func TestStoredBehindBits(t *testing.T) {
	r := chance(1)
	some := []string{"", "a", "abc", noise(r, 300), noise(r, 65534), noise(r, 65535)}
	for n := range 8 {
		last, text := behind(n, lastStored)
		one, _ := behind(n, oneStored)
		if len(last)%8 != n || len(one)%8 != n {
			t.Fatalf("nothing has %d bits", n)
		}
		for _, raw := range some {
			for _, fill := range []string{noughts, ones, "10110100"} {
				s := packed(stored(last, raw, fill))
				is(t, "", s, far, text+raw, len(s), api.OK)
				isRead(t, "", s, text+raw)
				is(t, "", s+"\x00", far, text+raw, len(s), api.OK)
				is(t, "", s[:len(s)-1], far, "", 0, api.ErrEnd)
				is(t, "", s, len(text+raw), text+raw, len(s), api.OK)
				more := packed(stored(one, raw, fill) + lastFixed + lits("z") + end)
				is(t, "", more, far, text+raw+"z", len(more), api.OK)
			}
			if len(raw) > 0 {
				is(t, "", packed(stored(last, raw, ones)), len(text+raw)-1, "", 0, api.ErrLong)
			}
		}
	}
}

// A length and its turning about don't agree: by any one of their bits, the same, and one too many.
func TestStoredLengthsThatDoNotAgree(t *testing.T) {
	for _, n := range []int{0, 1, 3, 255, 256, 65534, 65535} {
		raw := alike(n)
		for n := range 8 {
			last, _ := behind(n, lastStored)
			good := packed(stored(last, raw, noughts))
			at := len(good) - len(raw) - 4
			for bit := range 32 {
				b := []byte(good)
				b[at+bit/8] ^= 1 << (bit % 8)
				fails(t, string(b), api.ErrStored)
				fails(t, string(b[:at+4]), api.ErrStored)
			}
			same := []byte(good)
			copy(same[at+2:], same[at:at+2])
			fails(t, string(same), api.ErrStored)
			// Without all of both there is nothing to be held against each other.
			for cut := range at + 4 {
				fails(t, string(same[:cut]), api.ErrEnd)
			}
		}
	}
	fails(t, "\x01\x05\x00\xfb\xff", api.ErrStored)
	fails(t, "\x01\xfb\xff\xfb\xff", api.ErrStored)
}

// Fewer bytes are left than a stored block says: that is told ahead of there being no room for them.
func TestStoredWithoutItsBytes(t *testing.T) {
	for _, n := range []int{1, 2, 3, 300, 65535} {
		s := packed(stored(lastStored, alike(n), noughts))
		for _, cut := range []int{1, (n + 1) / 2, n} {
			for _, limit := range []int{0, 1, n - 1, n, far} {
				is(t, "", s[:len(s)-cut], limit, "", 0, api.ErrEnd)
			}
		}
		is(t, "", s, n-1, "", 0, api.ErrLong)
		is(t, "", s, 0, "", 0, api.ErrLong)
	}
}

// Texts may be longer than MaxText, and matches reach over blocks.
func TestManyStored(t *testing.T) {
	raw := noise(chance(2), 65535)
	bits := strings.Repeat("\x00\xff\xff\x00\x00"+raw, 20)
	s := bits + packed(lastFixed+match(258, 32768)+match(258, 1)+end)
	text := strings.Repeat(raw, 20)
	text += text[len(text)-32768:][:258]
	text += strings.Repeat(text[len(text)-1:], 258)
	reads(t, "", s, text)
	hasLimit(t, "", s, text)
	is(t, "", s, api.MaxText, "", 0, api.ErrLong)
	is(t, "", s, 20*65535, "", 0, api.ErrLong)
	is(t, "", s, 20*65535+258, "", 0, api.ErrLong)
}

func TestFixedEachByte(t *testing.T) {
	var all strings.Builder
	for n := range 256 {
		c := string([]byte{byte(n)})
		s := packed(lastFixed + lits(c) + end)
		reads(t, "", s, c)
		hasLimit(t, "", s, c)
		isCutAnywhere(t, "", s)
		all.WriteString(c)
	}
	reads(t, "", packed(lastFixed+lits(all.String())+end), all.String())
}

func TestFixedEachLength(t *testing.T) {
	for n := 3; n <= 258; n++ {
		text := alike(1 + n)
		s := packed(lastFixed + lits("a") + match(n, 1) + end)
		reads(t, "", s, text)
		isCutAnywhere(t, "", s)
		is(t, "", s, n, "", 0, api.ErrLong)
		is(t, "", s, n+1, text, len(s), api.OK)
		is(t, "", s, 0, "", 0, api.ErrLong)
	}
	// Each symbol with all that its bits hold.
	for i, size := range lengthBits {
		for extra := range 1 << size {
			n := lengthLeast[i] + extra
			s := packed(lastFixed + lits("ab") + lit(257+i) + low(extra, size) + dist(1) + end)
			if i == 27 && extra == 31 {
				fails(t, s, api.ErrCode)
				continue
			}
			is(t, "", s, far, strings.Repeat("ab", 130)[:2+n], len(s), api.OK)
		}
	}
}

// Length 258 has a symbol of its own: by the one ahead of it there is none, whatever its distance is.
func TestLengthThatIsNone(t *testing.T) {
	none := lit(284) + low(31, 5)
	for _, more := range []string{dist(0) + end, dist(1) + end, dist(29) + low(8191, 13) + end, dist(30), dist(31), ""} {
		fails(t, packed(lastFixed+lits("a")+none+more), api.ErrCode)
		is(t, "", packed(lastFixed+lits("a")+none+more), 1, "", 0, api.ErrCode)
	}
	fails(t, packed(lastFixed+none), api.ErrCode)
	fails(t, packed(small(lastDynamic)+smallA+smallMany+low(31, 5)), api.ErrCode)
	fails(t, packed(small(lastDynamic)+smallA+smallMany+low(31, 5)+smallOne+smallEnd), api.ErrCode)
	// A bit less, and it is not yet known.
	fails(t, flush(lastFixed+lits("a")+lit(284)+"1111"), api.ErrEnd)
	fails(t, flush(lastFixed+lits("a")+none), api.ErrCode)
}

func TestFixedSymbolsThatAreNone(t *testing.T) {
	for _, sym := range []int{286, 287} {
		for _, more := range []string{"", end, dist(0) + end, ones + ones} {
			fails(t, packed(lastFixed+lit(sym)+more), api.ErrCode)
			fails(t, packed(oneFixed+lit(sym)+more), api.ErrCode)
			fails(t, packed(lastFixed+lits("abc")+lit(sym)+more), api.ErrCode)
			is(t, "", packed(lastFixed+lits("abc")+lit(sym)+more), 3, "", 0, api.ErrCode)
			is(t, "", packed(lastFixed+lits("abc")+lit(sym)+more), 2, "", 0, api.ErrLong)
		}
		// A bit less, and it is not yet known.
		fails(t, flush(lastFixed+lit(sym)), api.ErrCode)
		fails(t, flush(lastFixed+lit(sym)[:7]), api.ErrEnd)
	}
	for _, sym := range []int{30, 31} {
		for _, more := range []string{"", end, ones + ones} {
			fails(t, packed(lastFixed+lits("a")+lit(257)+dist(sym)+more), api.ErrCode)
			fails(t, packed(lastFixed+lit(285)+dist(sym)+more), api.ErrCode)
			// That it may not be is told ahead of there being no room.
			is(t, "", packed(lastFixed+lits("a")+lit(257)+dist(sym)+more), 1, "", 0, api.ErrCode)
		}
	}
}

// Each symbol of distances, at its least, in the midst, and at its most: just as far as there is something ahead, and one more.
func TestDistances(t *testing.T) {
	raw := noise(chance(3), 32768)
	for i, least := range distLeast {
		most := least + 1<<distBits[i] - 1
		for _, far := range []int{least, (least + most) / 2, most} {
			held(t, raw, far)
		}
	}
}

func held(t *testing.T, raw string, dist int) {
	t.Helper()
	piece := func(ahead string) string {
		ahead = ahead[len(ahead)-dist:]
		return strings.Repeat(ahead, 1+5/dist)[:5]
	}
	code := match(5, dist)
	// In the text, in the dictionary, and in both.
	text := raw[:dist]
	s := packed(stored(oneStored, text, noughts) + lastFixed + code + end)
	is(t, "", s, far, text+piece(text), len(s), api.OK)
	isRead(t, "", s, text+piece(text))
	less := packed(stored(oneStored, text[1:], noughts) + lastFixed + code + end)
	is(t, "", less, far, "", 0, api.ErrDist)
	is(t, "", less, dist-1, "", 0, api.ErrDist)
	is(t, "x", less, far, text[1:]+piece("x"+text[1:]), len(less), api.OK)
	alone := packed(lastFixed + code + end)
	is(t, text, alone, far, piece(text), len(alone), api.OK)
	is(t, text[1:], alone, far, "", 0, api.ErrDist)
	is(t, text[1:], alone, 0, "", 0, api.ErrDist)
	is(t, text, alone, 4, "", 0, api.ErrLong)
	is(t, "", alone, far, "", 0, api.ErrDist)
	behind := packed(lastFixed + lits("q") + code + end)
	is(t, text[1:], behind, far, "q"+piece(text[1:]+"q"), len(behind), api.OK)
	if dist > 1 {
		is(t, text[2:], behind, far, "", 0, api.ErrDist)
	}
}

// A match that reaches from the dictionary into the text, and into itself.
func TestDictionaries(t *testing.T) {
	s := packed(lastFixed + lits("xy") + match(9, 4) + match(4, 13) + end)
	reads(t, "ab", s, "xyabxyabxyaabxy")
	reads(t, "zzab", s, "xyabxyabxyaabxy")
	is(t, "b", s, far, "", 0, api.ErrDist)
	is(t, "", s, far, "", 0, api.ErrDist)
	// One that is not asked for changes nothing.
	for _, row := range streams() {
		if row.dict == "" {
			is(t, "abc", row.s, far, row.text, len(row.s), api.OK)
			is(t, alike(50000), row.s, far, row.text, len(row.s), api.OK)
		}
	}
	// Longer than Window: its last bytes count.
	dict := noise(chance(4), 40000)
	long := packed(lastFixed + match(258, 32768) + match(3, 32768) + match(3, 1) + end)
	text := dict[40000-32768:][:261]
	text += strings.Repeat(text[260:], 3)
	for _, n := range []int{32768, 32769, 40000} {
		reads(t, dict[40000-n:], long, text)
		hasLimit(t, dict[40000-n:], long, text)
	}
	is(t, dict[40000-32767:], long, far, "", 0, api.ErrDist)
	// A dictionary has no room to take of the text's, and no limit of its own.
	huge := strings.Repeat(dict, 50)
	is(t, huge, long, len(text), text, len(long), api.OK)
}

// Each number of literals and lengths, and of distances, that can be told.
func TestCounts(t *testing.T) {
	for lit := 257; lit <= 288; lit++ {
		for dist := 1; dist <= 32; dist++ {
			lens := lensOf(lit, map[int]uint8{'a': 1, 256: 1})
			s := packed(dynamic(lastDynamic, lens, make([]uint8, dist)) + "001")
			if lit > 286 || dist > 30 {
				fails(t, s, api.ErrLens)
				continue
			}
			is(t, "", s, far, "aa", len(s), api.OK)
		}
	}
	// It is told when all three of them are there: these are 14 bits.
	for _, counts := range []string{counted(287, 1, 19), counted(288, 1, 4), counted(257, 31, 19), counted(257, 32, 4), counted(288, 32, 19)} {
		fails(t, packed(lastDynamic + counts)[:1], api.ErrEnd)
		fails(t, packed(lastDynamic + counts)[:2], api.ErrEnd)
		fails(t, packed(lastDynamic+counts), api.ErrLens)
		fails(t, packed(oneDynamic+counts+ordered(every(), 19)), api.ErrLens)
	}
	fails(t, packed(lastDynamic+counted(286, 30, 19)), api.ErrEnd)
}

// The codes of lengths must be whole, of whatever number of them; those that are not told have no code.
func TestLensOfLens(t *testing.T) {
	for n := 4; n <= 19; n++ {
		told := func(lens ...uint8) string {
			all := make([]uint8, 19)
			for i, size := range lens {
				all[order[n-len(lens)+i]] = size
			}
			return lastDynamic + counted(257, 1, n) + ordered(all, n)
		}
		for _, bits := range []string{
			told(), told(1), told(2), told(7), told(1, 2), told(2, 2, 2), told(3, 1), told(1, 2, 3), told(7, 7, 7, 7),
			told(1, 1, 1), told(1, 1, 7), told(1, 2, 2, 3), told(2, 2, 2, 1),
		} {
			fails(t, packed(bits), api.ErrLens)
			fails(t, packed(bits+ones+ones), api.ErrLens)
			is(t, "", packed(bits), 0, "", 0, api.ErrLens)
		}
		for _, bits := range []string{told(1, 1), told(1, 2, 2), told(2, 2, 2, 2), told(2, 1, 3, 3)} {
			fails(t, packed(bits)[:len(bits)/8], api.ErrEnd)
			if e := agrees(t, "", packed(bits+noughts+noughts), far); e == api.OK {
				t.Error("lengths that are wanting are read")
			}
		}
	}
	// All of them by each number that tells what is asked for: 18 (a run of 0s), 1, and 0.
	for n := 18; n <= 19; n++ {
		lens := lensOf(19, map[int]uint8{18: 1, 1: 2, 0: 2})
		code := rows(lens)
		bits := lastDynamic + counted(257, 2, n) + ordered(lens, n)
		bits += code[18] + low(127, 7) + code[18] + low(118-11, 7) + code[1] + code[1] + code[0]
		reads(t, "", packed(bits+"0"), "")
		// EndSymbol alone has a code: the other bit is none's.
		fails(t, packed(bits+"1"), api.ErrCode)
	}
	// Seven bits are the most: 1, 2, .. 6, 7, 7.
	lens := lensOf(19, map[int]uint8{0: 1, 18: 2, 17: 3, 16: 4, 2: 5, 3: 6, 1: 7, 4: 7})
	code := rows(lens)
	bits := lastDynamic + counted(257, 1, 19) + ordered(lens, 19)
	bits += code[18] + low(127, 7) + code[18] + low(118-11, 7) + code[1] + code[1]
	reads(t, "", packed(bits+"0"), "")
}

// Runs that tell just as many lengths, one more, and those that repeat nothing.
func TestRuns(t *testing.T) {
	// 257 and 1 are 258 lengths, of which EndSymbol's is the last but one.
	bits := head(lastDynamic, 257, 1)
	full := bits + says(18, 127) + says(18, 118-11) + says(1, 0)
	reads(t, "", packed(full+says(1, 0)+"0"), "")
	reads(t, "", packed(full+says(0, 0)+"0"), "")
	for extra := range 4 {
		fails(t, packed(full+says(16, extra)), api.ErrLens)
	}
	for extra := range 8 {
		fails(t, packed(full+says(17, extra)), api.ErrLens)
	}
	for extra := range 128 {
		fails(t, packed(full+says(18, extra)), api.ErrLens)
	}
	// One symbol goes just up to the end, or one beyond it; it reaches from one list into the other.
	for dist := 1; dist <= 30; dist++ {
		bits := head(lastDynamic, 257, dist) + says(18, 127) + says(18, 117-11) + says(1, 0) + says(1, 0)
		for extra := range 4 {
			saysRest(t, bits, 16, extra, 3+extra, dist)
		}
		for extra := range 8 {
			saysRest(t, bits, 17, extra, 3+extra, dist)
		}
		for extra := range 128 {
			saysRest(t, bits, 18, extra, 11+extra, dist)
		}
	}
}

// saysRest holds that a run is refused that goes beyond the lengths that are left, there and then.
func saysRest(t *testing.T, bits string, sym, extra, times, left int) {
	t.Helper()
	s := bits + says(sym, extra)
	switch {
	case times > left:
		fails(t, packed(s), api.ErrLens)
		fails(t, packed(s+ones+ones), api.ErrLens)
	case times < left:
		agrees(t, "", packed(s), far)
		agrees(t, "", packed(s+strings.Repeat(says(0, 0), left-times)+"010"), far)
	case sym == 16:
		// So many distances of one bit each are too many, but for two.
		fails(t, packed(s+"1"), api.ErrLens)
	default:
		reads(t, "", packed(s+"01"), "\xff")
	}
}

// Symbol 16 says a length once more: from the first list into the second, but not as the first of all.
func TestAgain(t *testing.T) {
	bits := head(lastDynamic, 257, 4)
	for extra := range 4 {
		for _, more := range []string{"", ones, noughts, says(16, 0), saysAll(make([]uint8, 300))} {
			fails(t, packed(bits+says(16, extra)+more), api.ErrLens)
		}
	}
	// The bits besides are wanted first.
	cut := bits + rows(every())[16]
	fails(t, flush(cut), api.ErrEnd)
	fails(t, flush(cut+"0"), api.ErrEnd)
	fails(t, flush(cut+"01"), api.ErrLens)
	// Nothing of the code ahead is said again, if a block is the second one.
	fails(t, packed(small(oneDynamic)+smallEnd+bits+says(16, 0)), api.ErrLens)
	// A 0 may be said again.
	zeros := head(lastDynamic, 257, 1) + says(0, 0) + says(16, 3) + says(16, 0) + says(18, 127) + says(18, 108-11) + says(1, 0) + says(0, 0)
	reads(t, "", packed(zeros+"0"), "")
	// Four of two bits, of which the last three are distances; then the fourth distance.
	over := bits + says(18, 127) + says(18, 115-11) + says(2, 0) + says(2, 0) + says(2, 0) + says(2, 0) + says(16, 0) + says(2, 0)
	reads(t, "", packed(over+"00"+"01"+"10"+"11"), "\xfd\xfe\xff")
}

// Lists of lengths of each kind, of literals and lengths, and of distances.
func TestLens(t *testing.T) {
	none := []uint8{0}
	good := []map[int]uint8{
		{256: 1}, {'a': 1, 256: 1}, {'a': 1, 'b': 2, 256: 2}, {'a': 2, 'b': 1, 256: 2}, {'a': 2, 'b': 2, 'c': 2, 256: 2},
		{256: 1, 257: 2, 285: 2}, {1: 1, 2: 2, 3: 3, 4: 4, 5: 5, 6: 6, 7: 7, 8: 8, 9: 9, 10: 10, 11: 11, 12: 12, 13: 13, 14: 14, 15: 15, 256: 15},
	}
	for _, some := range good {
		lens := lensOf(286, some)
		reads(t, "", packed(dynamic(lastDynamic, lens, none)+rows(lens)[256]), "")
	}
	bad := []map[int]uint8{
		{}, {'a': 1}, {'a': 1, 'b': 1}, {'a': 1, 257: 1}, {'a': 1, 'b': 2, 'c': 2}, // without EndSymbol
		{256: 2}, {256: 15}, {'a': 1, 256: 2}, {'a': 2, 256: 2}, {'a': 2, 'b': 2, 256: 2}, {'a': 1, 'b': 2, 256: 3}, {'a': 15, 256: 15},
		{'a': 1, 'b': 1, 256: 1}, {'a': 1, 'b': 1, 256: 15}, {'a': 1, 'b': 2, 'c': 2, 256: 2}, {'a': 2, 'b': 2, 'c': 2, 'd': 2, 256: 2},
	}
	for _, some := range bad {
		lens := lensOf(286, some)
		for _, dist := range [][]uint8{none, {1}, {1, 1}, {2}} {
			fails(t, packed(dynamic(lastDynamic, lens, dist)), api.ErrLens)
			fails(t, packed(dynamic(oneDynamic, lens, dist)+ones+noughts), api.ErrLens)
		}
	}
	all := slices.Concat(slices.Repeat([]uint8{8}, 226), slices.Repeat([]uint8{9}, 60))
	reads(t, "", packed(dynamic(lastDynamic, all, none)+rows(all)['x']+rows(all)[256]), "x")
	all[3] = 7
	fails(t, packed(dynamic(lastDynamic, all, none)), api.ErrLens)
	all[3] = 9
	fails(t, packed(dynamic(lastDynamic, all, none)), api.ErrLens)
}

func TestDistLens(t *testing.T) {
	lens := lensOf(258, map[int]uint8{'a': 1, 256: 2, 257: 2})
	const a, end, three = "0", "10", "11"
	good := [][]uint8{
		{0}, {0, 0, 0}, make([]uint8, 30), {1}, {0, 1}, append(make([]uint8, 29), 1), {1, 1}, {1, 2, 2}, {2, 2, 2, 2}, append(make([]uint8, 28), 1, 1),
		{1, 2, 3, 4, 5, 6, 7, 8, 9, 10, 11, 12, 13, 14, 15, 15},
	}
	for _, dist := range good {
		bits := dynamic(lastDynamic, lens, dist)
		reads(t, "", packed(bits+a+a+end), "aa")
		for sym, row := range rows(dist) {
			far := distLeast[sym]
			s := packed(bits + a + three + row + low(0, distBits[sym]) + end)
			switch {
			case row == "":
			case far > 1:
				fails(t, s, api.ErrDist)
				is(t, alike(far-1), s, 4, "aaaa", len(s), api.OK)
			default:
				reads(t, "", s, "aaaa")
			}
		}
	}
	bad := [][]uint8{
		{2}, {15}, {0, 2}, {1, 2}, {2, 2}, {2, 2, 2}, {1, 2, 3}, {15, 15}, append(make([]uint8, 29), 2),
		{1, 1, 1}, {1, 1, 15}, {1, 2, 2, 2}, {2, 2, 2, 2, 15}, slices.Repeat([]uint8{4}, 30),
	}
	for _, dist := range bad {
		fails(t, packed(dynamic(lastDynamic, lens, dist)), api.ErrLens)
		fails(t, packed(dynamic(lastDynamic, lens, dist)+a+end), api.ErrLens)
		is(t, "", packed(dynamic(lastDynamic, lens, dist)+a+end), 0, "", 0, api.ErrLens)
	}
}

// Bits with which no code begins, and bits that are too few to tell.
func TestCodesThatAreNone(t *testing.T) {
	lens := lensOf(258, map[int]uint8{'a': 1, 256: 2, 257: 2})
	const a, end, three = "0", "10", "11"
	// Of one distance the code is bit 0; of none nothing is, not even no bit.
	one, none := dynamic(lastDynamic, lens, []uint8{1}), dynamic(lastDynamic, lens, []uint8{0})
	fails(t, flush(one+a+three), api.ErrEnd)
	fails(t, flush(one+a+three+"1"), api.ErrCode)
	fails(t, packed(one+a+three+"1"+end), api.ErrCode)
	fails(t, flush(none+a+three), api.ErrCode)
	fails(t, flush(none+a+three+"0"), api.ErrCode)
	fails(t, packed(none+a+three+"1"+end), api.ErrCode)
	reads(t, "", packed(one+a+three+"0"+end), "aaaa")
	is(t, "", packed(none+a+three+"0"), 1, "", 0, api.ErrCode)
	is(t, "", packed(one+a+three+"1"), 1, "", 0, api.ErrCode)
	is(t, "", packed(one+a+three+"0"), 1, "", 0, api.ErrLong)
	// Where EndSymbol alone has a code.
	alone := dynamic(lastDynamic, lensOf(257, map[int]uint8{256: 1}), []uint8{0})
	fails(t, flush(alone), api.ErrEnd)
	fails(t, flush(alone+"1"), api.ErrCode)
	fails(t, packed(alone+"1"), api.ErrCode)
	reads(t, "", packed(alone+"0"), "")
	// Up to no bit of a symbol, to one in the midst of it, and of the bits besides.
	for _, bits := range []string{
		"", "1", "11", smallMany, smallMany + "1", smallMany + "1111", smallMany + "00000", smallThree, smallThree + smallFive,
	} {
		fails(t, flush(small(lastDynamic)+smallA+bits), api.ErrEnd)
	}
	// Of a code of 15 bits, bit by bit.
	long := lensOf(257, map[int]uint8{1: 1, 2: 2, 3: 3, 4: 4, 5: 5, 6: 6, 7: 7, 8: 8, 9: 9, 10: 10, 11: 11, 12: 12, 13: 13, 14: 14, 15: 15, 256: 15})
	code := rows(long)[256]
	for n := range code {
		fails(t, flush(dynamic(lastDynamic, long, []uint8{0})+code[:n]), api.ErrEnd)
	}
	bits, text := behind(0, dynamic(lastDynamic, long, []uint8{0})+code)
	reads(t, "", packed(bits), text)
}

// A text that would be longer than the limit by a byte, by a match, or by a stored block, which are added all at once.
func TestTooLong(t *testing.T) {
	begin := stored(oneStored, "abc", noughts)
	for bits, adds := range map[string]string{
		begin + lastFixed + lits("d") + end:                "d",
		begin + lastFixed + match(3, 1) + end:              "ccc",
		begin + lastFixed + match(258, 3) + end:            strings.Repeat("abc", 86),
		begin + lastFixed + match(7, 2) + lits("xx") + end: "bcbcbcbxx",
		stored(begin+lastStored, "de", ones):               "de",
		begin + small(lastDynamic) + smallA + smallEnd:     "a",
		begin + small(lastDynamic) + "1110" + smallEnd:     "ccc",
	} {
		s := packed(bits)
		for limit := range 3 + len(adds) {
			is(t, "", s, limit, "", 0, api.ErrLong)
			is(t, "the dictionary", s, limit, "", 0, api.ErrLong)
		}
		is(t, "", s, 3+len(adds), "abc"+adds, len(s), api.OK)
		is(t, "the dictionary", s, 3+len(adds), "abc"+adds, len(s), api.OK)
	}
	// What comes behind no room is not seen.
	for _, more := range []string{"", lit(286), lit(257) + dist(30), lit(257) + dist(29) + ones + ones, end + oneNone, end + stored(oneStored, "", noughts)[:30]} {
		is(t, "", packed(lastFixed+lits("ab")+more), 1, "", 0, api.ErrLong)
	}
}

// Of several faults the first one of the stream is told.
func TestFirstFault(t *testing.T) {
	faults := []struct {
		bits string
		why  api.Errno
	}{
		{lastNone, api.ErrBlock},
		{lastFixed + lit(286), api.ErrCode},
		{lastFixed + lit(257) + dist(31), api.ErrCode},
		{lastFixed + lit(257) + dist(29) + low(8191, 13), api.ErrDist},
		{lastFixed + strings.Repeat(lits("a"), 40), api.ErrLong},
		{lastFixed + lits("a") + match(258, 1), api.ErrLong},
		{lastDynamic + counted(288, 1, 19), api.ErrLens},
		{lastDynamic + counted(257, 1, 4) + ordered(make([]uint8, 19), 4), api.ErrLens},
		{head(lastDynamic, 257, 1) + says(16, 0), api.ErrLens},
		{dynamic(lastDynamic, lensOf(257, map[int]uint8{'a': 1}), []uint8{1}), api.ErrLens},
		{lastStored + "00000" + low(3, 16) + low(3, 16), api.ErrStored},
	}
	for _, first := range faults {
		is(t, "", packed(first.bits), 20, "", 0, first.why)
		for _, then := range faults {
			is(t, "", packed(first.bits+then.bits), 20, "", 0, first.why)
			is(t, "", packed(first.bits+then.bits), -1, "", 0, api.ErrArg)
		}
		if first.why != api.ErrStored {
			is(t, "", packed(oneFixed+lits("abc")+end+first.bits), 20, "", 0, first.why)
			is(t, "", packed(stored(oneStored, "abc", ones)+first.bits), 20, "", 0, first.why)
			is(t, "", packed(small(oneDynamic)+smallB+smallEnd+first.bits), 20, "", 0, first.why)
		}
	}
}

// Very many blocks without any text.
func TestManyBlocks(t *testing.T) {
	s := packed(strings.Repeat(strings.Repeat(oneFixed+end, 4), 50000))
	is(t, "", s, far, "", 0, api.ErrEnd)
	is(t, "", s+"\x03\x00", 0, "", len(s)+2, api.OK)
	is(t, "", s+"\x07", 0, "", 0, api.ErrBlock)
	s = strings.Repeat("\x00\x00\x00\xff\xff", 50000)
	is(t, "", s, far, "", 0, api.ErrEnd)
	is(t, "", s+"\x03\x00", 0, "", len(s)+2, api.OK)
}

// A small stream of a text that is very long.
func TestLongTexts(t *testing.T) {
	bits := lastFixed + lits("a") + strings.Repeat(match(258, 1), 20000) + end
	s := packed(bits)
	n := 1 + 258*20000
	is(t, "", s, far, alike(n), len(s), api.OK)
	is(t, "", s, n, alike(n), len(s), api.OK)
	is(t, "", s, n-1, "", 0, api.ErrLong)
	is(t, "", s[:len(s)/2], n/4, "", 0, api.ErrLong)
	is(t, "", s[:len(s)/2], n, "", 0, api.ErrEnd)
}

// Fixed codes come behind a block's own, and the other way about.
func TestCodesAreABlocksOwn(t *testing.T) {
	fixed, own := oneFixed+lits("ab")+match(3, 2)+end, small(oneDynamic)+smallA+smallThree+smallOne+smallEnd
	for n := range 64 {
		var bits, text string
		for i := range 6 {
			if n>>i%2 == 0 {
				bits, text = bits+fixed, text+"ababa"
			} else {
				bits, text = bits+own, text+"aaaa"
			}
		}
		reads(t, "", packed(bits+lastFixed+end), text)
		reads(t, "", packed(bits+small(lastDynamic)+smallEnd), text)
	}
}

// What is read twice is the same, and what was handed in is as it was.
func TestSameAgain(t *testing.T) {
	for _, row := range streams() {
		dict, s := strings.Clone(row.dict), strings.Clone(row.s)
		for range 3 {
			is(t, dict, s, far, row.text, len(s), api.OK)
			is(t, dict, s[:len(s)-1], far, "", 0, api.ErrEnd)
		}
		if dict != row.dict || s != row.s {
			t.Errorf("%x is another one now", row.s)
		}
	}
}

// Streams of each kind of block, in which one bit is another one, or some are, or some bytes.
func TestOtherBits(t *testing.T) {
	r := chance(5)
	seen := map[api.Errno]int{}
	for _, row := range append(streams(), written(t, r)...) {
		try := func(dict, s string) {
			seen[agrees(t, dict, s, len(row.text)+r.IntN(3))]++
		}
		for bit := 0; bit < 8*len(row.s); bit += 1 + bit/300 {
			b := []byte(row.s)
			b[bit/8] ^= 1 << (bit % 8)
			try(row.dict, string(b))
		}
		for range 60 {
			b := []byte(row.s)
			for range 1 + r.IntN(4) {
				b[r.IntN(min(len(b), 1+r.IntN(200)))] = byte(r.IntN(256))
			}
			try(row.dict, string(b))
			try("", string(b[:r.IntN(1+len(b))]))
		}
	}
	for _, e := range []api.Errno{api.OK, api.ErrEnd, api.ErrLong, api.ErrBlock, api.ErrStored, api.ErrLens, api.ErrCode, api.ErrDist} {
		if seen[e] < 20 {
			t.Errorf("%d came %d times alone", e, seen[e])
		}
	}
}

// written are streams that layer 15 tells, whose texts have at most 3,000 bytes.
func written(t *testing.T, r *rand.Rand) []stream {
	t.Helper()
	var all []stream
	for level := range 10 {
		for _, dict := range []string{"", words(r, 300)} {
			text := words(r, r.IntN(2000))
			all = append(all, stream{dict, deflated(t, dict, text, level), text})
		}
	}
	return all
}

func deflated(t *testing.T, dict, text string, level int) string {
	t.Helper()
	s, e := deflate.Deflate(dict, text, level, deflate.Bound(len(text)))
	if e != api.OK {
		t.Fatal("a stream:", e)
	}
	return s
}

// Any bytes: by chance alone, and behind what begins a block of each kind.
func TestAnyBytes(t *testing.T) {
	r := chance(6)
	seen := map[api.Errno]int{}
	begins := []string{"", lastFixed, oneFixed, lastDynamic, oneFixed + lits("abc") + end + oneFixed, small(lastDynamic), head(lastDynamic, 257, 3), stored(oneStored, "abc", noughts)}
	for range 6000 {
		bits := begins[r.IntN(len(begins))] + lowText(noise(r, r.IntN(60)))
		s := packed(bits)
		seen[agrees(t, "", s, 40)]++
		seen[agrees(t, alike(r.IntN(40000)), s, r.IntN(300))]++
	}
	for _, e := range []api.Errno{api.OK, api.ErrEnd, api.ErrLong, api.ErrBlock, api.ErrStored, api.ErrLens, api.ErrCode, api.ErrDist} {
		if seen[e] < 20 {
			t.Errorf("%d came %d times alone", e, seen[e])
		}
	}
}

// Lengths by chance, most of them whole, told by runs, and symbols by them.
func TestAnyCodes(t *testing.T) {
	r := chance(7)
	seen := map[api.Errno]int{}
	for range 1500 {
		lens, dist := chanceLens(r, 257+r.IntN(30)), chanceLens(r, 1+r.IntN(30))
		if r.IntN(8) > 0 && lens[256] == 0 {
			sym := slices.IndexFunc(lens, func(n uint8) bool { return n > 0 })
			lens[256], lens[sym] = lens[sym], 0
		}
		bits := dynamic(lastDynamic, lens, dist) + lowText(noise(r, r.IntN(200)))
		seen[agrees(t, alike(r.IntN(40000)), packed(bits), 400)]++
	}
	for _, e := range []api.Errno{api.OK, api.ErrEnd, api.ErrLong, api.ErrLens, api.ErrCode, api.ErrDist} {
		if seen[e] < 5 {
			t.Errorf("%d came %d times alone", e, seen[e])
		}
	}
}

// chanceLens are n lengths: whole ones, made by cutting a length in two again and again, now and then with one that is another.
func chanceLens(r *rand.Rand, n int) []uint8 {
	some := []uint8{1, 1}
	if n < 2 {
		return []uint8{uint8(r.IntN(2))}
	}
	for range r.IntN(n - 1) {
		i := r.IntN(len(some))
		if some[i] < 15 {
			some[i]++
			some = append(some, some[i])
		}
	}
	lens := make([]uint8, n)
	for i, sym := range r.Perm(n)[:len(some)] {
		lens[sym] = some[i]
	}
	if r.IntN(12) == 0 {
		lens[r.IntN(n)] = uint8(r.IntN(16))
	}
	return lens
}

// P16.2

// isWritten holds that what layer 15 tells is read as its text, with just so much room, whatever stands behind it.
func isWritten(t *testing.T, dict, text string, level int) string {
	t.Helper()
	s := deflated(t, dict, text, level)
	is(t, dict, s, len(text), text, len(s), api.OK)
	for _, more := range []string{"\x00", "\xff", s, text} {
		is(t, dict, s+more, len(text), text, len(s), api.OK)
	}
	if len(text) > 0 {
		is(t, dict, s, len(text)-1, "", 0, api.ErrLong)
	}
	for _, cut := range []int{0, 1, len(s) / 2, len(s) - 2, len(s) - 1} {
		is(t, dict, s[:cut], len(text), "", 0, api.ErrEnd)
	}
	return s
}

func TestWritten(t *testing.T) {
	r := chance(8)
	texts := []string{
		"", "a", "\x00", "\xff", "ab", "abc", "aaa", "aaaa", "abcabc", "abcabcabc", alike(257), alike(258), alike(259), alike(260), alike(1000),
		"she sells sea shells by the sea shore, and the shells she sells are sea shells, she is sure",
		words(r, 100), words(r, 500), noise(r, 100), noise(r, 300),
	}
	for _, text := range texts {
		for level := range 10 {
			for _, dict := range []string{"", "abc", text, words(r, 200)} {
				s := isWritten(t, dict, text, level)
				isCutAnywhere(t, dict, s)
				agrees(t, dict, s, len(text))
			}
		}
	}
}

// All texts of two sorts of bytes, up to seven.
func TestAllTextsOfTwo(t *testing.T) {
	for size := range 8 {
		for n := range 1 << size {
			text := strings.Map(func(c rune) rune { return c - '0' + 'x' }, low(n, size))
			for level := range 10 {
				isWritten(t, "", text, level)
				isWritten(t, "xyyx", text, level)
			}
		}
	}
}

func TestWrittenByChance(t *testing.T) {
	r := chance(9)
	for n := range 60 {
		text, dict := lots(r), lots(r)
		if n%2 == 0 {
			dict = text[r.IntN(1+len(text)):] + dict
		}
		isWritten(t, "", text, n%10)
		s := isWritten(t, dict, text, n%10)
		agrees(t, dict, s, far)
		for range 20 {
			is(t, dict, s[:r.IntN(len(s))], far, "", 0, api.ErrEnd)
		}
	}
}

// As long as a text may be, and dictionaries within, at, and beyond a Window's reach.
func TestLongWritten(t *testing.T) {
	r := chance(10)
	text := words(r, 100000)
	for _, level := range []int{0, 1, 6} {
		isWritten(t, "", text, level)
	}
	isWritten(t, "", noise(r, api.MaxText), 0)
	isWritten(t, "", alike(api.MaxText), 6)
	dict := noise(r, 40000)
	for _, n := range []int{32767, 32768, 32769, 40000} {
		for _, level := range []int{0, 1, 6} {
			isWritten(t, dict[:n], dict[:300], level)
			isWritten(t, dict[:n], dict[n-32767:][:300]+dict[n-100:n], level)
			isWritten(t, dict[:n], dict[max(0, n-32768):][:300], level)
		}
	}
}

// What Go's own writer tells, with its other ways to end blocks, is read as its text too.
func TestWrittenByGo(t *testing.T) {
	r := chance(11)
	for range 12 {
		text, dict := lots(r), lots(r)
		for level := flate.HuffmanOnly; level <= flate.BestCompression; level++ {
			var b bytes.Buffer
			w, err := flate.NewWriterDict(&b, level, []byte(dict))
			if err != nil {
				t.Fatal(err)
			}
			half := r.IntN(1 + len(text))
			w.Write([]byte(text[:half]))
			w.Flush()
			w.Write([]byte(text[half:]))
			w.Close()
			is(t, dict, b.String(), len(text), text, b.Len(), api.OK)
			is(t, dict, b.String()+text, far, text, b.Len(), api.OK)
			is(t, dict, b.String()[:r.IntN(b.Len())], far, "", 0, api.ErrEnd)
		}
	}
}
