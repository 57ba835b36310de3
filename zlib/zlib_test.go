package zlib_test

import (
	"bytes"
	gozlib "compress/zlib"
	"errors"
	"hash/adler32"
	"io"
	"math"
	"math/rand/v2"
	"strings"
	"testing"

	"platen/api"
	"platen/deflate"
	"platen/inflate"
	"platen/zlib"
)

// far is a limit, and room, that no test here comes to.
const far = 1 << 30

func chance(n uint64) *rand.Rand {
	return rand.New(rand.NewPCG(17, n))
}

func alike(n int) string {
	return strings.Repeat("a", n)
}

func noise(r *rand.Rand, n int) string {
	b := make([]byte, n)
	for i := range b {
		b[i] = byte(r.IntN(256))
	}
	return string(b)
}

// words have matches, near and far, and bytes alone.
func words(r *rand.Rand, size int) string {
	some := []string{"page", "store", "she", "sells", "sea", "shells", " ", " ", ", ", "\n", "0", "17", "\x00\x00\x00\x01"}
	var b strings.Builder
	for b.Len() < size {
		if r.IntN(4) == 0 {
			b.WriteByte(byte(r.IntN(256)))
			continue
		}
		b.WriteString(some[r.IntN(len(some))])
	}
	return b.String()[:size]
}

const shells = "she sells sea shells by the sea shore, and the shells she sells are sea shells, she is sure"

func texts() []string {
	r := chance(1)
	return []string{
		"", "a", "\x00", "\xff", "ab", "abc", "aaaa", "abcabcabc", "Wikipedia", shells, "\u00fc\u00e4\u00f6 \u4e16\u754c",
		alike(300), words(r, 200), noise(r, 200), words(r, 3000), noise(r, 1500) + alike(900),
	}
}

// dicts are none, short ones, and ones of which only the last Window bytes are reached.
func dicts() []string {
	r := chance(2)
	long := words(r, 40000)
	return []string{"", "a", "\x00", "abc", shells, words(r, 200), long[:api.Window], long[:api.Window+1], long}
}

// The heads, by hand: of each level without a dictionary, and with one.
var (
	bare = [10]string{"\x78\x01", "\x78\x01", "\x78\x5e", "\x78\x5e", "\x78\x5e", "\x78\x5e", "\x78\x9c", "\x78\xda", "\x78\xda", "\x78\xda"}
	with = [10]string{"\x78\x3f", "\x78\x3f", "\x78\x7d", "\x78\x7d", "\x78\x7d", "\x78\x7d", "\x78\xbb", "\x78\xf9", "\x78\xf9", "\x78\xf9"}
)

// sum is Go's own, the highest byte first.
func sum(s string) string {
	n := int(adler32.Checksum([]byte(s)))
	return string([]byte{byte(n / 16777216), byte(n / 65536 % 256), byte(n / 256 % 256), byte(n % 256)})
}

func head(dict string, level int) string {
	if dict == "" {
		return bare[level]
	}
	return with[level] + sum(dict)
}

// whole is what a text should be written as.
func whole(t *testing.T, dict, text string, level int) string {
	t.Helper()
	s, e := deflate.Deflate(dict, text, level, far)
	if e != api.OK {
		t.Fatal("a stream:", e)
	}
	return head(dict, level) + s + sum(text)
}

// ahead is how many bytes stand ahead of a stream.
func ahead(dict string) int {
	if dict == "" {
		return 2
	}
	return 6
}

// What is held.

func isWritten(t *testing.T, dict, text string, level, most int, want string, wantE api.Errno) {
	t.Helper()
	s, e := zlib.Write(dict, text, level, most)
	if s != want || e != wantE {
		t.Errorf("of %d bytes behind %d, level %d, most %d: %.20x (%d bytes), %d, not %.20x (%d bytes), %d", len(text), len(dict), level, most, s, len(s), e, want, len(want), wantE)
	}
}

func isRead(t *testing.T, dict, s string, limit int, want string, wantUsed int, wantE api.Errno) {
	t.Helper()
	text, used, e := zlib.Read(dict, s, limit)
	if text != want || used != wantUsed || e != wantE {
		t.Errorf("%.40x (%d bytes) behind %d, limit %d: %d bytes, %d, %d, not %d bytes, %d, %d", s, len(s), len(dict), limit, len(text), used, e, len(want), wantUsed, wantE)
	}
}

// fails holds that nothing stands beside the error.
func fails(t *testing.T, dict, s string, want api.Errno) {
	t.Helper()
	isRead(t, dict, s, far, "", 0, want)
}

func isDict(t *testing.T, s string, want uint32, wantIs bool, wantE api.Errno) {
	t.Helper()
	id, is, e := zlib.Dict(s)
	if id != want || is != wantIs || e != wantE {
		t.Errorf("%.10x: %d, %v, %d, not %d, %v, %d", s, id, is, e, want, wantIs, wantE)
	}
}

// goReads is what Go's own reader tells of bytes: the text, how many bytes it took, and why not.
func goReads(dict, s string) (string, int, error) {
	from := bytes.NewReader([]byte(s))
	r, err := gozlib.NewReaderDict(from, []byte(dict))
	if err != nil {
		return "", 0, err
	}
	text, err := io.ReadAll(r)
	return string(text), len(s) - from.Len(), err
}

func isReadByGo(t *testing.T, dict, s, want string) {
	t.Helper()
	text, used, err := goReads(dict, s)
	if text != want || used != len(s) || err != nil {
		t.Errorf("Go reads %.40x (%d bytes) as %d bytes, not %d, of %d: %v", s, len(s), len(text), len(want), used, err)
	}
}

// goWrites is what Go's own writer makes of a text.
func goWrites(t *testing.T, dict, text string, level int) string {
	t.Helper()
	var b bytes.Buffer
	var ahead []byte // nil of no dictionary: an empty one would be one
	if dict != "" {
		ahead = []byte(dict)
	}
	w, err := gozlib.NewWriterLevelDict(&b, level, ahead)
	if err != nil {
		t.Fatal(err)
	}
	if _, err := w.Write([]byte(text)); err != nil {
		t.Fatal(err)
	}
	if err := w.Close(); err != nil {
		t.Fatal(err)
	}
	return b.String()
}

// The chapter's example.

func TestExample(t *testing.T) {
	isWritten(t, "", "", 6, 99, "\x78\x9c\x03\x00\x00\x00\x00\x01", api.OK)
}

// P17.1

func TestWriteByHand(t *testing.T) {
	isWritten(t, "", "", 0, far, "\x78\x01"+"\x01\x00\x00\xff\xff"+"\x00\x00\x00\x01", api.OK)
	isWritten(t, "", "abc", 0, far, "\x78\x01"+"\x01\x03\x00\xfc\xffabc"+"\x02\x4d\x01\x27", api.OK)
	isWritten(t, "z", "", 0, far, "\x78\x3f\x00\x7b\x00\x7b"+"\x01\x00\x00\xff\xff"+"\x00\x00\x00\x01", api.OK)
	for level := 1; level < 10; level++ {
		isWritten(t, "", "", level, far, bare[level]+"\x03\x00"+"\x00\x00\x00\x01", api.OK)
		isWritten(t, "", "a", level, far, bare[level]+"K\x04\x00"+"\x00\x62\x00\x62", api.OK)
		isWritten(t, "", "aaaaaaaaaa", level, far, bare[level]+"K\x84\x03\x00"+"\x14\xe1\x03\xcb", api.OK)
		// The dictionary's three bytes, and one behind them.
		isWritten(t, "bcd", "bcda", level, far, with[level]+"\x02\x53\x01\x2a"+"\x03\xa2D\x00"+"\x03\xde\x01\x8b", api.OK)
	}
}

func TestHeadOfEachLevel(t *testing.T) {
	told := [10]int{0, 0, 1, 1, 1, 1, 2, 3, 3, 3}
	for level := range 10 {
		for _, dict := range []string{"", "a", alike(40000)} {
			s, e := zlib.Write(dict, "abc", level, far)
			if e != api.OK || len(s) < 6 {
				t.Fatalf("level %d: %d bytes, %d", level, len(s), e)
			}
			first, flags := int(s[0]), int(s[1])
			if first != 0x78 || flags/64 != told[level] || (first*256+flags)%31 != 0 {
				t.Errorf("level %d: bytes %x %x", level, first, flags)
			}
			if is := flags/32%2 == 1; is != (dict != "") {
				t.Errorf("level %d: a dictionary of %d bytes is told: %v", level, len(dict), is)
			}
		}
	}
}

// Head, stream and sum of each level, of no text and others, with each kind of dictionary.
func TestWrite(t *testing.T) {
	for _, text := range texts() {
		for _, dict := range dicts() {
			for level := range 10 {
				want := whole(t, dict, text, level)
				isWritten(t, dict, text, level, far, want, api.OK)
				isReadByGo(t, dict, want, text)
			}
		}
	}
}

// Go's own writer has the same head, and the same sums.
func TestWriteAsGo(t *testing.T) {
	for _, text := range []string{"", "a", shells} {
		for _, dict := range []string{"", "a", shells} {
			for level := range 10 {
				want, got := goWrites(t, dict, text, level), whole(t, dict, text, level)
				n := ahead(dict)
				if got[:n] != want[:n] || got[len(got)-4:] != want[len(want)-4:] {
					t.Errorf("level %d: %x, Go has %x", level, got, want)
				}
			}
		}
	}
}

// Of a dictionary that is longer than Window all bytes count for its sum, though its first ones are not reached.
func TestWriteBehindLongDictionary(t *testing.T) {
	long := words(chance(3), api.Window+1000)
	near := long[1000:]
	text := near[:200] + long[:200]
	for level := range 10 {
		all, e := zlib.Write(long, text, level, far)
		less, f := zlib.Write(near, text, level, far)
		if e != api.OK || f != api.OK {
			t.Fatal(e, f)
		}
		if all[2:6] != sum(long) || less[2:6] != sum(near) || all[2:6] == less[2:6] || all[6:] != less[6:] {
			t.Errorf("level %d: %x and %x", level, all[:6], less[:6])
		}
		isRead(t, long, all, far, text, len(all), api.OK)
		fails(t, near, all, api.ErrDict)
	}
}

func TestWriteNoLevel(t *testing.T) {
	for _, level := range []int{math.MinInt, -1 << 32, -256, -10, -2, -1, 10, 11, 16, 255, 256, 262, 1 << 32, math.MaxInt} {
		for _, dict := range []string{"", "abc"} {
			for _, text := range []string{"", "abc", alike(api.MaxText + 1)} {
				for _, most := range []int{math.MinInt, -1, 0, 7, far, math.MaxInt} {
					isWritten(t, dict, text, level, most, "", api.ErrArg)
				}
			}
		}
	}
}

func TestWriteLong(t *testing.T) {
	text := alike(api.MaxText)
	for _, level := range []int{0, 1, 6, 9} {
		for _, dict := range []string{"", "abc"} {
			want := whole(t, dict, text, level)
			isWritten(t, dict, text, level, len(want), want, api.OK)
			isWritten(t, dict, text, level, len(want)-1, "", api.ErrFull)
			isRead(t, dict, want, api.MaxText, text, len(want), api.OK)
			isRead(t, dict, want, api.MaxText-1, "", 0, api.ErrLong)
		}
	}
	for level := range 10 {
		for _, most := range []int{math.MinInt, -1, 0, 7, far, math.MaxInt} {
			isWritten(t, "", text+"a", level, most, "", api.ErrLong)
			isWritten(t, "abc", text+"a", level, most, "", api.ErrLong)
		}
	}
	// A dictionary may be longer than a text.
	dict := words(chance(4), api.MaxText+9)
	isWritten(t, dict, shells, 6, far, whole(t, dict, shells, 6), api.OK)
}

// Just as many bytes as all has, and any number below.
func TestWriteRoom(t *testing.T) {
	for _, text := range []string{"", "a", shells, alike(300), noise(chance(5), 60)} {
		for _, dict := range []string{"", "a", shells} {
			for level := range 10 {
				want := whole(t, dict, text, level)
				n := len(want)
				for most := -12; most < n; most++ {
					isWritten(t, dict, text, level, most, "", api.ErrFull)
				}
				for _, most := range []int{math.MinInt, math.MinInt + 1, math.MinInt + 5, math.MinInt + 6, math.MinInt + 9, math.MinInt + 10, -1 << 32, -n} {
					isWritten(t, dict, text, level, most, "", api.ErrFull)
				}
				for _, most := range []int{n, n + 1, n + 6, 2 * n, 1 << 31, 1 << 32, 1 << 60, math.MaxInt - 10, math.MaxInt} {
					isWritten(t, dict, text, level, most, want, api.OK)
				}
			}
		}
	}
}

// P17.2: Dict

// mayBe tells of a head by its two bytes' numbers.
func mayBe(first, second int) bool {
	return first%16 == 8 && first/16 <= 7 && (256*first+second)%31 == 0
}

// heads are all pairs of bytes.
func heads(yield func(string) bool) {
	for first := range 256 {
		for second := range 256 {
			if !yield(string([]byte{byte(first), byte(second)})) {
				return
			}
		}
	}
}

func TestDictOfFewBytes(t *testing.T) {
	isDict(t, "", 0, false, api.ErrEnd)
	for n := range 256 {
		isDict(t, string([]byte{byte(n)}), 0, false, api.ErrEnd)
	}
}

func TestDictOfEachHead(t *testing.T) {
	seen := map[string]int{}
	for s := range heads {
		const id = "\x81\x02\xf3\x04"
		switch {
		case !mayBe(int(s[0]), int(s[1])):
			seen["none"]++
			for _, more := range []string{"", id[:1], id, id + "\x03\x00"} {
				isDict(t, s+more, 0, false, api.ErrHead)
			}
		case s[1]/32%2 == 0:
			seen["bare"]++
			for _, more := range []string{"", id[:1], id[:3], id, id + "\x03\x00"} {
				isDict(t, s+more, 0, false, api.OK)
			}
		default:
			seen["with"]++
			for n := range 4 {
				isDict(t, s+id[:n], 0, false, api.ErrEnd)
			}
			for _, more := range []string{"", "\x00", "\x03\x00", "\xff\xff\xff\xff\xff"} {
				isDict(t, s+id+more, 0x8102f304, true, api.OK)
			}
		}
	}
	// Of each of the eight windows there are eight multiples, or nine.
	if seen["bare"] != 32 || seen["with"] != 34 {
		t.Errorf("so many heads: %v", seen)
	}
}

// Some heads by hand: the method, the window, and the check are another one.
func TestHeadsByHand(t *testing.T) {
	const rest = "\x03\x00\x00\x00\x00\x01"
	for _, s := range []string{"\x78\x9c", "\x78\x01", "\x78\x5e", "\x78\xda", "\x08\x1d", "\x18\x19", "\x28\x15", "\x68\x05", "\x68\x81"} {
		isDict(t, s, 0, false, api.OK)
		isRead(t, "", s+rest, far, "", 8, api.OK)
		isRead(t, "abc", s+rest, 0, "", 8, api.OK)
	}
	// Each is such a multiple, but of a window that is too large, or of another method; then heads whose method and window may be, but that are none.
	for _, s := range []string{"\x88\x1c", "\x98\x18", "\xf8\x00", "\xf8\x1f", "\x77\x09", "\x79\x18", "\x70\x03", "\x7f\x07", "\x00\x00", "\x00\x1f"} {
		if (256*int(s[0])+int(s[1]))%31 != 0 {
			t.Fatalf("%x is no such multiple", s)
		}
		isDict(t, s+rest, 0, false, api.ErrHead)
		fails(t, "", s+rest, api.ErrHead)
	}
	for _, s := range []string{"\x78\x00", "\x78\x9b", "\x78\x9d", "\x78\xbc", "\x08\x00", "\x18\x1a"} {
		isDict(t, s+rest, 0, false, api.ErrHead)
		fails(t, "", s+rest, api.ErrHead)
	}
}

func TestDictOfWhatIsWritten(t *testing.T) {
	for _, dict := range dicts() {
		for level := range 10 {
			s := whole(t, dict, "abc", level)
			if dict == "" {
				isDict(t, s, 0, false, api.OK)
				continue
			}
			isDict(t, s, adler32.Checksum([]byte(dict)), true, api.OK)
			isDict(t, s[:6], adler32.Checksum([]byte(dict)), true, api.OK)
			for n := 2; n < 6; n++ {
				isDict(t, s[:n], 0, false, api.ErrEnd)
			}
		}
	}
	// Each of a sum's bytes has its own place.
	isDict(t, "\x78\xbb\x80\x00\x00\x00", 1<<31, true, api.OK)
	isDict(t, "\x78\xbb\x00\x80\x00\x00", 1<<23, true, api.OK)
	isDict(t, "\x78\xbb\x00\x00\x80\x00", 1<<15, true, api.OK)
	isDict(t, "\x78\xbb\x00\x00\x00\x80", 1<<7, true, api.OK)
	isDict(t, "\x78\xbb\x00\x00\x00\x00", 0, true, api.OK)
	isDict(t, "\x78\xbb\xff\xff\xff\xff", math.MaxUint32, true, api.OK)
}

// P17.2: Read

func TestReadByHand(t *testing.T) {
	isRead(t, "", "\x78\x9c\x03\x00\x00\x00\x00\x01", 0, "", 8, api.OK)
	isRead(t, "", "\x78\x9cK\x04\x00\x00\x62\x00\x62", 1, "a", 9, api.OK)
	isRead(t, "", "\x78\x01\x01\x03\x00\xfc\xffabc\x02\x4d\x01\x27", 3, "abc", 14, api.OK)
	isRead(t, "bcd", "\x78\xbb\x02\x53\x01\x2a\x03\xa2D\x00\x03\xde\x01\x8b", 4, "bcda", 14, api.OK)
	isRead(t, "", "\x78\x9c\xf3H\xcd\xc9\xc9\x07\x00\x05\x8c\x01\xf5", 5, "Hello", 13, api.OK)
}

// Fewer than two bytes are ErrEnd, whatever they are, and whatever else is wrong.
func TestReadFewBytes(t *testing.T) {
	for _, dict := range []string{"", "abc", alike(40000)} {
		for _, limit := range []int{math.MinInt, -1, 0, 1, far} {
			isRead(t, dict, "", limit, "", 0, api.ErrEnd)
			for n := range 256 {
				isRead(t, dict, string([]byte{byte(n)}), limit, "", 0, api.ErrEnd)
			}
		}
	}
}

// What stands behind each head, of no dictionary and of one.
func TestReadEachHead(t *testing.T) {
	text := "bcda"
	bareRest := deflated(t, "", text) + sum(text)
	withRest := sum("bcd") + "\x03\xa2D\x00" + sum(text)
	for s := range heads {
		switch {
		case !mayBe(int(s[0]), int(s[1])):
			fails(t, "", s+bareRest, api.ErrHead)
			fails(t, "bcd", s+withRest, api.ErrHead)
			fails(t, "", s, api.ErrHead)
			isRead(t, "", s, -1, "", 0, api.ErrHead)
		case s[1]/32%2 == 0:
			for _, dict := range []string{"", "bcd", "x"} {
				isRead(t, dict, s+bareRest, 4, text, len(s+bareRest), api.OK)
			}
		default:
			isRead(t, "bcd", s+withRest, 4, text, len(s+withRest), api.OK)
			fails(t, "bcc", s+withRest, api.ErrDict)
			fails(t, "", s+withRest, api.ErrDict)
			fails(t, "bcd", s+withRest[:3], api.ErrEnd)
		}
	}
}

// A window that is told small is no bound: matches reach as far as in layer 16.
func TestReadBeyondWindowTold(t *testing.T) {
	r := chance(6)
	text := noise(r, 20000)
	text += text[:100]
	s := deflated(t, "", text) + sum(text)
	if len(s) > 20095 {
		t.Fatalf("nothing is reached far ahead: %d bytes", len(s))
	}
	isRead(t, "", "\x08\x1d"+s, len(text), text, 2+len(s), api.OK)
}

func deflated(t *testing.T, dict, text string) string {
	t.Helper()
	s, e := deflate.Deflate(dict, text, 6, far)
	if e != api.OK {
		t.Fatal("a stream:", e)
	}
	return s
}

func TestReadWithEachDictionary(t *testing.T) {
	all := dicts()
	for i, dict := range all {
		s := whole(t, dict, shells, 6)
		for j, other := range all {
			switch {
			case i == j, dict == "":
				isRead(t, other, s, far, shells, len(s), api.OK)
			default:
				fails(t, other, s, api.ErrDict)
				isRead(t, other, s, -1, "", 0, api.ErrDict)
				fails(t, other, s[:6], api.ErrDict)
			}
		}
	}
}

// Whether there is a dictionary is told by its bit alone: there may be an empty one.
func TestReadEmptyDictionary(t *testing.T) {
	s := "\x78\xbb\x00\x00\x00\x01" + "K\x04\x00" + sum("a")
	isDict(t, s, 1, true, api.OK)
	isRead(t, "", s, far, "a", len(s), api.OK)
	fails(t, "a", s, api.ErrDict)
	fails(t, "", "\x78\xbb\x00\x00\x00\x00"+"K\x04\x00"+sum("a"), api.ErrDict)
	fails(t, "", "\x78\xbb\x00\x00\x00\x01"+"\x03\xa2D\x00"+sum("bcda"), api.ErrDist)
}

// Dictionaries are held against each other by their sums, not by their bytes.
func TestReadDictionaryOfTheSameSum(t *testing.T) {
	one, other := "xbcbx", "xcacx"
	if sum(one) != sum(other) {
		t.Fatal("their sums are unlike")
	}
	s := whole(t, one, one+"!", 6)
	isRead(t, one, s, far, one+"!", len(s), api.OK)
	// The text that comes of the other one has the same sum too.
	isRead(t, other, s, far, other+"!", len(s), api.OK)
	s = whole(t, one, one[:3]+"!", 6)
	fails(t, other, s, api.ErrAdler)
}

// A head without a dictionary: nothing is reached in one, whatever it is.
func TestReadNoDictionary(t *testing.T) {
	stream := "\x03\xa2D\x00"
	if text, _, e := inflate.Inflate("bcd", stream, far); text != "bcda" || e != api.OK {
		t.Fatal(text, e)
	}
	for _, dict := range []string{"", "bcd", "abcd", alike(40000)} {
		fails(t, dict, "\x78\x9c"+stream+sum("bcda"), api.ErrDist)
		s := "\x78\x9c" + "K\x04\x00" + sum("a")
		isRead(t, dict, s, far, "a", len(s), api.OK)
	}
}

func TestReadLimit(t *testing.T) {
	for _, text := range texts() {
		for _, dict := range []string{"", "abc", alike(40000)} {
			s := whole(t, dict, text, 6)
			for _, limit := range []int{math.MinInt, math.MinInt + 1, -1 << 32, -len(text) - 1, -2, -1} {
				isRead(t, dict, s, limit, "", 0, api.ErrArg)
			}
			for _, limit := range []int{0, 1, len(text) / 2, len(text) - 1} {
				if limit >= 0 && limit < len(text) {
					isRead(t, dict, s, limit, "", 0, api.ErrLong)
				}
			}
			for _, limit := range []int{len(text), len(text) + 1, 1 << 31, 1 << 60, math.MaxInt} {
				isRead(t, dict, s, limit, text, len(s), api.OK)
			}
		}
	}
}

// badStreams are such as layer 16 refuses, with a limit of 4 bytes, behind the dictionary bcd.
func badStreams() map[string]api.Errno {
	return map[string]api.Errno{
		"":                          api.ErrEnd,
		"K":                         api.ErrEnd,
		"\x01\x02\x00\xfd\xffa":     api.ErrEnd,
		"\x01\x05\x00\xfa\xffabcde": api.ErrLong,
		"K\x84\x03\x00":             api.ErrLong,
		"\x07":                      api.ErrBlock,
		"\x06":                      api.ErrBlock,
		"\x01\x02\x00\xfd\xfea":     api.ErrStored,
		"\x05\xff\xff":              api.ErrLens,
		"\x1b\x03":                  api.ErrCode, // symbol 286
		"\x03\x3e":                  api.ErrCode, // a match, and a symbol of distances that is none
		"\x03\x12":                  api.ErrDist, // a match, 5 ahead
	}
}

func TestReadBadStreams(t *testing.T) {
	for stream, want := range badStreams() {
		for _, more := range []string{"", "\x00\x00\x00\x01", "\x00\x00\x00\x00\x00\x00\x00\x00\x01"} {
			// What is wanting may be there now.
			if want == api.ErrEnd && more != "" {
				continue
			}
			_, _, without := inflate.Inflate("", stream+more, 4)
			for level := range 10 {
				isRead(t, "bcd", with[level]+sum("bcd")+stream+more, 4, "", 0, want)
				isRead(t, "bcd", with[level]+sum("bcd")+stream+more, -1, "", 0, api.ErrArg)
				isRead(t, "bcd", bare[level]+stream+more, 4, "", 0, without)
				isRead(t, "bcd", bare[level]+stream+more, -1, "", 0, api.ErrArg)
			}
		}
	}
}

// A text's sum that is cut off is told ahead of its bytes being other ones.
func TestReadSumCutOff(t *testing.T) {
	for _, text := range []string{"", "a", shells} {
		for _, dict := range []string{"", "abc"} {
			s := whole(t, dict, text, 6)
			begin := s[:len(s)-4]
			for n := range 4 {
				fails(t, dict, begin+sum(text)[:n], api.ErrEnd)
				fails(t, dict, begin+"\xfe\xfe\xfe\xfe"[:n], api.ErrEnd)
				isRead(t, dict, begin+sum(text)[:n], len(text), "", 0, api.ErrEnd)
			}
			isRead(t, dict, begin+sum(text), len(text), text, len(s), api.OK)
			fails(t, dict, begin+"\xfe\xfe\xfe\xfe", api.ErrAdler)
		}
	}
}

// Each of a sum's bytes as each other one: the text's, and the dictionary's.
func TestReadAnotherSum(t *testing.T) {
	for _, text := range []string{"", "a", shells} {
		for _, dict := range []string{"", "abc"} {
			s := whole(t, dict, text, 6)
			for at := len(s) - 4; at < len(s); at++ {
				for s := range others(s, at) {
					fails(t, dict, s, api.ErrAdler)
					fails(t, dict, s+"more", api.ErrAdler)
				}
			}
			for at := 2; at < ahead(dict); at++ {
				for s := range others(s, at) {
					fails(t, dict, s, api.ErrDict)
				}
			}
		}
	}
	// The bytes of a sum in another order, and another text's sum.
	s := whole(t, "", shells, 6)
	begin, own := s[:len(s)-4], s[len(s)-4:]
	fails(t, "", begin+string([]byte{own[3], own[2], own[1], own[0]}), api.ErrAdler)
	fails(t, "", begin+string([]byte{own[2], own[3], own[0], own[1]}), api.ErrAdler)
	fails(t, "", begin+sum(shells[1:]), api.ErrAdler)
	fails(t, "", begin+sum(""), api.ErrAdler)
}

// others yields a text with each other byte at a place.
func others(s string, at int) func(yield func(string) bool) {
	return func(yield func(string) bool) {
		for n := range 256 {
			if byte(n) != s[at] && !yield(s[:at]+string([]byte{byte(n)})+s[at+1:]) {
				return
			}
		}
	}
}

// What stands behind counts for nothing, and is not counted.
func TestReadBytesBehind(t *testing.T) {
	for _, text := range texts() {
		for _, dict := range []string{"", "abc", alike(40000)} {
			for _, level := range []int{0, 1, 6, 9} {
				s := whole(t, dict, text, level)
				for _, more := range []string{"\x00", "\xff", "\x78", "abcdefgh", s, sum(text)} {
					isRead(t, dict, s+more, len(text), text, len(s), api.OK)
				}
			}
		}
	}
	// Two, one behind the other: the second one stands where the first one ends.
	one, two := whole(t, "", "one", 6), whole(t, "", "two", 0)
	_, used, _ := zlib.Read("", one+two, far)
	isRead(t, "", (one + two)[used:], far, "two", len(two), api.OK)
}

// Of several faults the first one of the promise is told.
func TestReadFirstFault(t *testing.T) {
	const noDict = "\x00\x00\x00\x01"
	for _, row := range []struct {
		dict, s string
		limit   int
		want    api.Errno
	}{
		{"abc", "\x77", -1, api.ErrEnd},
		{"abc", "\x77\x01", -1, api.ErrHead},
		{"abc", "\x78\xbc" + noDict + "\x07", -1, api.ErrHead},
		{"abc", "\x78\xbb" + noDict[:3], -1, api.ErrEnd},
		{"abc", "\x78\xbb" + noDict, -1, api.ErrDict},
		{"abc", "\x78\xbb" + noDict + "\x07", 9, api.ErrDict},
		{"abc", "\x78\xbb" + sum("abc"), -1, api.ErrArg},
		{"abc", "\x78\xbb" + sum("abc"), 9, api.ErrEnd},
		{"abc", "\x78\xbb" + sum("abc") + "\x07", -1, api.ErrArg},
		{"abc", "\x78\xbb" + sum("abc") + "\x07", 0, api.ErrBlock},
		{"", "\x78\x9c", -1, api.ErrArg},
		{"", "\x78\x9c", 0, api.ErrEnd},
		{"", "\x78\x9c\x07", 0, api.ErrBlock},
		{"", "\x78\x9cK\x04\x00", -1, api.ErrArg},
		{"", "\x78\x9cK\x04\x00", 0, api.ErrLong},
		{"", "\x78\x9cK\x04\x00" + sum("b"), 0, api.ErrLong},
		{"", "\x78\x9cK\x04\x00" + sum("b"), -1, api.ErrArg},
		{"", "\x78\x9cK\x04\x00" + sum("b")[:3], 1, api.ErrEnd},
		{"", "\x78\x9cK\x04\x00" + sum("b"), 1, api.ErrAdler},
		{"abc", "\x78\x9cK\x04\x00" + sum("b"), 1, api.ErrAdler},
		{"abc", "\x78\xbb" + sum("abc") + "K\x04\x00" + sum("b"), 1, api.ErrAdler},
		{"abd", "\x78\xbb" + sum("abc") + "K\x04\x00" + sum("b"), 1, api.ErrDict},
	} {
		isRead(t, row.dict, row.s, row.limit, "", 0, row.want)
	}
}

// What Go's own writer tells is read.
func TestReadWhatGoWrites(t *testing.T) {
	for _, text := range texts() {
		for _, dict := range dicts() {
			for _, level := range []int{-2, -1, 0, 1, 5, 6, 9} {
				s := goWrites(t, dict, text, level)
				isRead(t, dict, s, len(text), text, len(s), api.OK)
				isRead(t, dict, s+"!", len(text), text, len(s), api.OK)
				fails(t, dict, s[:len(s)-1], api.ErrEnd)
			}
		}
	}
}

// agreesWithGo holds that bytes are read just where Go's own reader reads them, as the same text, and that what the head and the sums are refused for is the same.
func agreesWithGo(t *testing.T, dict, s string) api.Errno {
	t.Helper()
	want, used, err := goReads(dict, s)
	if err == nil {
		isRead(t, dict, s, far, want, used, api.OK)
		return api.OK
	}
	text, used, e := zlib.Read(dict, s, far)
	if text != "" || used != 0 || e == api.OK {
		t.Errorf("%.40x (%d bytes) behind %d: %d bytes, %d, %d, Go says: %v", s, len(s), len(dict), len(text), used, e, err)
	}
	pairs := map[api.Errno]error{api.ErrHead: gozlib.ErrHeader, api.ErrDict: gozlib.ErrDictionary, api.ErrAdler: gozlib.ErrChecksum}
	for mine, theirs := range pairs {
		if (e == mine) != errors.Is(err, theirs) {
			t.Errorf("%.40x (%d bytes) behind %d: %d, Go says: %v", s, len(s), len(dict), e, err)
		}
	}
	return e
}

// What was written, with some other bytes, cut off, or with more behind.
func TestReadAsGo(t *testing.T) {
	r := chance(7)
	seen := map[api.Errno]int{}
	for n := range 4000 {
		text, dict := words(r, r.IntN(200)), words(r, r.IntN(3)*20)
		b := []byte(whole(t, dict, text, n%10))
		for range r.IntN(3) {
			at := r.IntN(len(b))
			if r.IntN(2) == 0 {
				at = []int{0, 1, 2, 5, len(b) - 4, len(b) - 1}[r.IntN(6)]
			}
			b[at] = byte(r.IntN(256))
		}
		switch r.IntN(4) {
		case 0:
			b = b[:r.IntN(1+len(b))]
		case 1:
			b = append(b, noise(r, r.IntN(9))...)
		}
		if r.IntN(6) == 0 {
			dict = words(r, r.IntN(3)*20)
		}
		seen[agreesWithGo(t, dict, string(b))]++
	}
	for _, e := range []api.Errno{api.OK, api.ErrEnd, api.ErrHead, api.ErrDict, api.ErrAdler} {
		if seen[e] < 20 {
			t.Errorf("%d came %d times alone", e, seen[e])
		}
	}
}

// Any bytes, behind nothing and behind heads.
func TestReadAnyBytes(t *testing.T) {
	r := chance(8)
	begins := []string{"", "\x78", "\x78\x9c", "\x78\xbb", "\x78\xbb" + sum("abc"), "\x08\x1d"}
	for range 20000 {
		s := begins[r.IntN(len(begins))] + noise(r, r.IntN(40))
		dict := []string{"", "abc"}[r.IntN(2)]
		agreesWithGo(t, dict, s)
		zlib.Dict(s)
	}
}

// P17.3

// isTold holds that an answer is some error, and nothing beside it.
func isTold(t *testing.T, dict, s string) {
	t.Helper()
	if text, used, e := zlib.Read(dict, s, far); text != "" || used != 0 || e == api.OK {
		t.Errorf("%.40x (%d bytes) behind %d: %d bytes, %d, %d", s, len(s), len(dict), len(text), used, e)
	}
}

// Each level, with and without a dictionary: what was written is read, whatever stands behind it, and not without all of it.
func TestWrittenIsRead(t *testing.T) {
	r := chance(9)
	for _, text := range append(texts(), words(r, 9000)) {
		for _, dict := range dicts() {
			for level := range 10 {
				s, e := zlib.Write(dict, text, level, far)
				if e != api.OK {
					t.Fatal(e)
				}
				isRead(t, dict, s, len(text), text, len(s), api.OK)
				isRead(t, dict, s+noise(r, 1+r.IntN(9)), len(text), text, len(s), api.OK)
				fails(t, dict, s[:len(s)-1], api.ErrEnd)
				fails(t, dict, s[:r.IntN(len(s))], api.ErrEnd)
			}
		}
	}
}

// W3: any text, dictionary and level.
func TestWrittenByChance(t *testing.T) {
	r := chance(10)
	for n := range 300 {
		text, dict := words(r, r.IntN(5000))+noise(r, r.IntN(500)), words(r, r.IntN(4000))
		if n%3 == 0 {
			dict += text[r.IntN(1+len(text)):]
		}
		s, e := zlib.Write(dict, text, n%10, far)
		if e != api.OK {
			t.Fatal(e)
		}
		isRead(t, dict, s, len(text), text, len(s), api.OK)
		isReadByGo(t, dict, s, text)
	}
}

// Cut off ahead of each of its bytes.
func TestCutAnywhere(t *testing.T) {
	for _, text := range texts() {
		for _, dict := range []string{"", "abc", shells} {
			for level := range 10 {
				s := whole(t, dict, text, level)
				for n := 0; n < len(s); n += 1 + n/100 {
					fails(t, dict, s[:n], api.ErrEnd)
				}
				for n := max(0, len(s)-9); n < len(s); n++ {
					isRead(t, dict, s[:n], len(text), "", 0, api.ErrEnd)
				}
			}
		}
	}
}

// Each byte ahead of the stream, and behind it, as each other one. But for another level that is told: such a head may be, and the text is the same.
func TestOtherByteIsTold(t *testing.T) {
	for _, text := range []string{"", "a", shells} {
		for _, dict := range []string{"", "abc", shells} {
			for level := range 10 {
				s := whole(t, dict, text, level)
				for s := range others(s, 0) {
					fails(t, dict, s, api.ErrHead)
				}
				for other := range others(s, 1) {
					isOtherFlags(t, dict, s, other, text)
				}
				for at := 2; at < ahead(dict); at++ {
					for s := range others(s, at) {
						fails(t, dict, s, api.ErrDict)
					}
				}
				for at := len(s) - 4; at < len(s); at++ {
					for s := range others(s, at) {
						fails(t, dict, s, api.ErrAdler)
					}
				}
			}
		}
	}
}

// isOtherFlags holds what becomes of s, if its second byte is another one.
func isOtherFlags(t *testing.T, dict, s, other, text string) {
	t.Helper()
	switch {
	case !mayBe(int(other[0]), int(other[1])):
		fails(t, dict, other, api.ErrHead)
	case other[1]/32%2 == s[1]/32%2:
		isRead(t, dict, other, far, text, len(s), api.OK)
	default:
		isTold(t, dict, other)
	}
}

// R6: what was done before changes nothing, and what is handed in stays as it is.
func TestAnswersAreTheSameAgain(t *testing.T) {
	text, dict := strings.Clone(shells), alike(40000)
	keptText, keptDict := strings.Clone(text), strings.Clone(dict)
	for level := range 10 {
		want := whole(t, dict, text, level)
		s := strings.Clone(want)
		for range 3 {
			isWritten(t, dict, text, level, far, want, api.OK)
			isWritten(t, dict, text, level, 9, "", api.ErrFull)
			isWritten(t, dict, text, -1, far, "", api.ErrArg)
			isRead(t, dict, s, far, text, len(s), api.OK)
			fails(t, "abc", s, api.ErrDict)
			isDict(t, s, adler32.Checksum([]byte(dict)), true, api.OK)
			isDict(t, s[:4], 0, false, api.ErrEnd)
		}
		if s != want {
			t.Error("an argument was changed")
		}
	}
	if text != keptText || dict != keptDict {
		t.Error("an argument was changed")
	}
}
