package image_test

import (
	"bytes"
	gozlib "compress/zlib"
	"encoding/binary"
	"hash/crc32"
	"math"
	"math/rand/v2"
	"slices"
	"strings"
	"testing"

	"platen/api"
	"platen/image"
	"platen/mods"
	"platen/zlib"
)

// far is a limit, and room, that no test here comes to.
const far = 1 << 30

// headSize is how many bytes a head has, by hand: 1 and 1, 2, 4, 4, 8.
const headSize = 20

func chance(n uint64) *rand.Rand {
	return rand.New(rand.NewPCG(19, n))
}

func alike(n int) string {
	return strings.Repeat("a", n)
}

func noise(r *rand.Rand, n int) string {
	b := make([]byte, n)
	for i := range b {
		b[i] = byte(r.IntN(256))
	}
	return string(b)
}

// words have matches, near and far, and bytes alone.
func words(r *rand.Rand, n int) string {
	some := []string{"page", "store", "she", "sells", "sea", "shells", " ", " ", ", ", "\n", "0", "17", "\x00\x00\x00\x01"}
	var b strings.Builder
	for b.Len() < n {
		if r.IntN(4) == 0 {
			b.WriteByte(byte(r.IntN(256)))
			continue
		}
		b.WriteString(some[r.IntN(len(some))])
	}
	return b.String()[:n]
}

// sizes are all that a page may have, by their Shift less 10.
var sizes = []int{1024, 2048, 4096, 8192, 16384}

func shift(size int) uint8 {
	return uint8(10 + slices.Index(sizes, size))
}

// pages are such as become fewer bytes, and such as don't.
func pages(r *rand.Rand, size int) []string {
	return []string{
		alike(size), strings.Repeat("\x00", size), strings.Repeat("abcdefg\n", size/8), words(r, size),
		noise(r, size), noise(r, size/2) + alike(size-size/2), noise(r, size-20) + alike(20), noise(r, size-3) + "aaa",
	}
}

// What is made by hand.

// numbers are a head's bytes.
func numbers(h api.Head) string {
	b := []byte{h.Kind, h.Shift}
	b = binary.LittleEndian.AppendUint16(b, uint16(h.Payload))
	b = binary.LittleEndian.AppendUint32(b, h.Sum)
	b = binary.LittleEndian.AppendUint32(b, h.Page)
	b = binary.LittleEndian.AppendUint64(b, h.Stamp)
	return string(b)
}

// checked is the CRC-32 of the head's bytes, but Sum's four, and of the payload.
func checked(h api.Head, payload string) uint32 {
	b := []byte(numbers(h))
	return crc32.ChecksumIEEE(append(slices.Delete(b, 4, 8), payload...))
}

// summed is the head of such an image, with its Sum.
func summed(kind uint8, size int, payload string) api.Head {
	h := api.Head{Kind: kind, Shift: shift(size), Page: 0x01020304, Stamp: 0x0102030405060708, Payload: len(payload)}
	h.Sum = checked(h, payload)
	return h
}

func whole(kind uint8, size int, payload string) string {
	return numbers(summed(kind, size, payload)) + payload
}

// squeezed is a text's zlib stream.
func squeezed(t *testing.T, text string, level int) string {
	t.Helper()
	s, e := zlib.Write("", text, level, far)
	if e != api.OK {
		t.Fatal("a stream:", e)
	}
	return s
}

// made is what Make should answer.
func made(t *testing.T, page uint32, stamp uint64, text string, level int) string {
	t.Helper()
	h := api.Head{Kind: api.ImagePlain, Shift: shift(len(text)), Page: page, Stamp: stamp}
	payload := text
	if s := squeezed(t, text, level); level > 0 && len(s) < len(text) {
		h.Kind, payload = api.ImageZlib, s
	}
	h.Payload = len(payload)
	h.Sum = checked(h, payload)
	return numbers(h) + payload
}

// mayBe is what the words say of a head.
func mayBe(h api.Head) bool {
	if h.Shift < 10 || h.Shift > 14 {
		return false
	}
	return h.Kind == 1 && h.Payload == sizes[h.Shift-10] || h.Kind == 2 && h.Payload >= 0 && h.Payload <= 65535
}

// parsed is what the promise says of any bytes.
func parsed(s string) (h api.Head, payload string, e api.Errno) {
	if len(s) < headSize {
		return h, "", api.ErrEnd
	}
	b := []byte(s)
	h.Kind, h.Shift = b[0], b[1]
	h.Payload = int(binary.LittleEndian.Uint16(b[2:]))
	h.Sum = binary.LittleEndian.Uint32(b[4:])
	h.Page = binary.LittleEndian.Uint32(b[8:])
	h.Stamp = binary.LittleEndian.Uint64(b[12:])
	if !mayBe(h) {
		return api.Head{}, "", api.ErrForm
	}
	if len(s) < headSize+h.Payload {
		return api.Head{}, "", api.ErrEnd
	}
	payload = s[headSize : headSize+h.Payload]
	if h.Sum != checked(h, payload) {
		return api.Head{}, "", api.ErrCheck
	}
	return h, payload, api.OK
}

// changed has another byte at a place.
func changed(s string, at int, by byte) string {
	b := []byte(s)
	b[at] ^= by
	return string(b)
}

// log is one of modifications that may be.
func log(t *testing.T, size int, l ...api.Mod) string {
	t.Helper()
	s, e := mods.Encode(size, l...)
	if e != api.OK {
		t.Fatal("a log:", e)
	}
	return s
}

// What is held.

func isHead(t *testing.T, h api.Head, want string, wantE api.Errno) {
	t.Helper()
	s, e := image.Head(h)
	if s != want || e != wantE {
		t.Errorf("Head of %+v: %x, %d, not %x, %d", h, s, e, want, wantE)
	}
}

func isHeadRead(t *testing.T, s string, want api.Head, wantE api.Errno) {
	t.Helper()
	h, e := image.ReadHead(s)
	if h != want || e != wantE {
		t.Errorf("ReadHead of %.20x (%d bytes): %+v, %d, not %+v, %d", s, len(s), h, e, want, wantE)
	}
}

func isMade(t *testing.T, page uint32, stamp uint64, text string, level int, want string, wantE api.Errno) {
	t.Helper()
	s, e := image.Make(page, stamp, text, level)
	if s != want || e != wantE {
		t.Errorf("Make of %d bytes, level %d: %.24x (%d bytes), %d, not %.24x (%d bytes), %d", len(text), level, s, len(s), e, want, len(want), wantE)
	}
}

func isParsed(t *testing.T, s string, want api.Head, wantPayload string, wantE api.Errno) {
	t.Helper()
	h, payload, e := image.Parse(s)
	if h != want || payload != wantPayload || e != wantE {
		t.Errorf("Parse of %.24x (%d bytes): %+v, %d bytes, %d, not %+v, %d bytes, %d", s, len(s), h, len(payload), e, want, len(wantPayload), wantE)
	}
	end := 0
	if wantE == api.OK {
		end = headSize + len(wantPayload)
	}
	if n := image.End(s); n != end {
		t.Errorf("End of %.24x (%d bytes): %d, not %d", s, len(s), n, end)
	}
}

func isText(t *testing.T, s string, logged int, want string, wantE api.Errno) {
	t.Helper()
	text, e := image.Text(s, logged)
	if text != want || e != wantE {
		t.Errorf("Text of %.24x (%d bytes), %d: %.20x (%d bytes), %d, not %.20x (%d bytes), %d", s, len(s), logged, text, len(text), e, want, len(want), wantE)
	}
}

// isRefused holds that an image is one error, in Parse, in Text, whatever is logged, and in End.
func isRefused(t *testing.T, s string, want api.Errno) {
	t.Helper()
	isParsed(t, s, api.Head{}, "", want)
	for _, logged := range []int{math.MinInt, -1, 0, 1, len(s), math.MaxInt} {
		isText(t, s, logged, "", want)
	}
}

// The chapter's example.

func TestExample(t *testing.T) {
	s, e := image.Make(7, 1, alike(1024), 6)
	if e != api.OK || len(s) >= 100 {
		t.Errorf("Make: %d bytes, %d", len(s), e)
	}
	isText(t, s, 0, alike(1024), api.OK)
}

// P19.1

func TestHeadByHand(t *testing.T) {
	h := api.Head{Kind: api.ImageZlib, Shift: 10, Page: 0x04030201, Stamp: 0x1817161514131211, Payload: 0x2221, Sum: 0x34333231}
	s := "\x02\x0a\x21\x22\x31\x32\x33\x34\x01\x02\x03\x04\x11\x12\x13\x14\x15\x16\x17\x18"
	isHead(t, h, s, api.OK)
	isHeadRead(t, s, h, api.OK)
	isHeadRead(t, s+"\xff", h, api.OK)

	h = api.Head{Kind: api.ImagePlain, Shift: 14, Page: math.MaxUint32, Stamp: math.MaxUint64, Payload: 16384, Sum: math.MaxUint32}
	s = "\x01\x0e\x00\x40" + strings.Repeat("\xff", 16)
	isHead(t, h, s, api.OK)
	isHeadRead(t, s, h, api.OK)

	h = api.Head{Kind: api.ImageZlib, Shift: 12}
	s = "\x02\x0c" + strings.Repeat("\x00", 18)
	isHead(t, h, s, api.OK)
	isHeadRead(t, s, h, api.OK)
	if api.HeadSize != headSize || len(s) != headSize {
		t.Error("a head's bytes:", api.HeadSize, len(s))
	}
}

// Each Kind, with each Shift, and Payloads at each edge.
func TestEachHead(t *testing.T) {
	payloads := []int{math.MinInt, -65536, -1024, -1, 0, 1, 1023, 1024, 1025, 2047, 2048, 2049, 4096, 8191, 8192, 16383, 16384, 16385, 32768, 65535, 65536, 65536 + 1024, 1<<32 + 1024, math.MaxInt}
	have := 0
	for kind := range 256 {
		for shift := range 256 {
			for _, n := range payloads {
				h := api.Head{Kind: uint8(kind), Shift: uint8(shift), Page: 7, Stamp: 8, Payload: n, Sum: 9}
				if mayBe(h) {
					have++
					isHead(t, h, numbers(h), api.OK)
					isHeadRead(t, numbers(h), h, api.OK)
					continue
				}
				isHead(t, h, "", api.ErrArg)
				if n >= 0 && n <= 65535 {
					isHeadRead(t, numbers(h), api.Head{}, api.ErrForm)
				}
			}
		}
	}
	// Of the second kind 16 of these payloads with each of five shifts, of the first one for each.
	if have != 16*5+5 {
		t.Error("heads that may be:", have)
	}
}

func TestEachPayload(t *testing.T) {
	for _, kind := range []uint8{api.ImagePlain, api.ImageZlib} {
		for shift := uint8(9); shift <= 15; shift++ {
			for n := -3; n <= 65540; n++ {
				h := api.Head{Kind: kind, Shift: shift, Payload: n}
				want, wantE := "", api.ErrArg
				if mayBe(h) {
					want, wantE = numbers(h), api.OK
				}
				isHead(t, h, want, wantE)
			}
		}
	}
}

// Whatever Sum, Page and Stamp are, a head may be.
func TestHeadOfAnyNumbers(t *testing.T) {
	r := chance(1)
	for range 3000 {
		h := api.Head{Kind: api.ImageZlib, Shift: uint8(10 + r.IntN(5)), Page: r.Uint32(), Stamp: r.Uint64(), Payload: r.IntN(65536), Sum: r.Uint32()}
		if r.IntN(2) == 0 {
			h.Kind, h.Payload = api.ImagePlain, sizes[h.Shift-10]
		}
		isHead(t, h, numbers(h), api.OK)
		isHeadRead(t, numbers(h), h, api.OK)
		isHeadRead(t, numbers(h)+noise(r, r.IntN(30)), h, api.OK)
	}
}

func TestReadHeadOfFewerBytes(t *testing.T) {
	for _, s := range []string{whole(api.ImageZlib, 1024, "abc"), strings.Repeat("\x00", 30), strings.Repeat("\xff", 30), "\x02\x09" + alike(30)} {
		for n := range headSize {
			isHeadRead(t, s[:n], api.Head{}, api.ErrEnd)
		}
	}
	h := summed(api.ImageZlib, 1024, "abc")
	s := whole(api.ImageZlib, 1024, "abc")
	for n := headSize; n <= len(s); n++ {
		isHeadRead(t, s[:n], h, api.OK)
	}
}

// What is read is what would be written, and what would not be is none.
func TestReadHeadOfAnyBytes(t *testing.T) {
	r := chance(2)
	read := 0
	for range 20000 {
		b := []byte(noise(r, headSize))
		b[0] = byte(r.IntN(4))
		b[1] = byte(8 + r.IntN(9))
		h, e := image.ReadHead(string(b))
		switch e {
		case api.OK:
			read++
			isHead(t, h, string(b), api.OK)
		case api.ErrForm:
			if b[0] == 2 && b[1] >= 10 && b[1] <= 14 {
				t.Errorf("none: %x", b)
			}
		default:
			t.Errorf("of %x: %d", b, e)
		}
	}
	if read < 1000 {
		t.Error("heads among them:", read)
	}
}

// P19.2

func TestMakeByHand(t *testing.T) {
	// Of level 0 the page stands as it is.
	h := api.Head{Kind: api.ImagePlain, Shift: 10, Page: 7, Stamp: 1, Payload: 1024}
	sum := checked(h, alike(1024))
	four := string([]byte{byte(sum), byte(sum >> 8), byte(sum >> 16), byte(sum >> 24)})
	isMade(t, 7, 1, alike(1024), 0, "\x01\x0a\x00\x04"+four+"\x07\x00\x00\x00\x01\x00\x00\x00\x00\x00\x00\x00"+alike(1024), api.OK)

	s := squeezed(t, alike(1024), 6)
	h = api.Head{Kind: api.ImageZlib, Shift: 10, Page: 7, Stamp: 1, Payload: len(s)}
	sum = checked(h, s)
	four = string([]byte{byte(sum), byte(sum >> 8), byte(sum >> 16), byte(sum >> 24)})
	isMade(t, 7, 1, alike(1024), 6, "\x02\x0a"+string([]byte{byte(len(s)), 0})+four+"\x07\x00\x00\x00\x01\x00\x00\x00\x00\x00\x00\x00"+s, api.OK)
}

func TestMake(t *testing.T) {
	r := chance(3)
	var have [3]int
	for _, size := range sizes {
		for _, text := range pages(r, size) {
			for level := range 10 {
				page, stamp := r.Uint32(), r.Uint64()
				want := made(t, page, stamp, text, level)
				have[want[0]]++
				isMade(t, page, stamp, text, level, want, api.OK)
			}
		}
	}
	if have[1] < 50 || have[2] < 50 {
		t.Error("of each kind:", have)
	}
}

func TestMakeOfEachNumber(t *testing.T) {
	for _, page := range []uint32{0, 1, 255, 256, 65535, 65536, 1 << 31, math.MaxUint32} {
		for _, stamp := range []uint64{0, 1, 255, 1 << 32, 1 << 63, math.MaxUint64} {
			for _, level := range []int{0, 6} {
				want := made(t, page, stamp, alike(1024), level)
				isMade(t, page, stamp, alike(1024), level, want, api.OK)
				h, _, _ := parsed(want)
				if h.Page != page || h.Stamp != stamp {
					t.Error("not told:", page, stamp)
				}
			}
		}
	}
}

// Streams of as many bytes as the page, and of one fewer and one more.
func TestMakeAboutThePage(t *testing.T) {
	r := chance(4)
	found := map[int]int{}
	for tries := 0; tries < 40 || len(found) < 5; tries++ {
		if tries == 3000 {
			t.Fatal("streams found:", found)
		}
		n := 960 + r.IntN(60)
		text := noise(r, n) + alike(1024-n)
		s := squeezed(t, text, 6)
		if by := len(s) - len(text); by >= -2 && by <= 2 {
			found[by]++
			kind := uint8(api.ImagePlain)
			payload := text
			if by < 0 {
				kind, payload = api.ImageZlib, s
			}
			h := api.Head{Kind: kind, Shift: 10, Page: 3, Stamp: 4, Payload: len(payload)}
			h.Sum = checked(h, payload)
			isMade(t, 3, 4, text, 6, numbers(h)+payload, api.OK)
		}
	}
}

func TestMakeOfWrongOnes(t *testing.T) {
	levels := []int{math.MinInt, -10, -1, 10, 11, 256, 1 << 32, math.MaxInt}
	for _, size := range sizes {
		for _, level := range levels {
			isMade(t, 7, 1, alike(size), level, "", api.ErrArg)
		}
	}
	for _, n := range []int{0, 1, 16, 512, 1000, 1023, 1025, 1536, 2047, 2049, 3072, 16383, 16385, 32768, 65536, 1 << 20, 1<<20 + 1} {
		for _, level := range []int{0, 1, 6, 9, -1, 10} {
			isMade(t, 7, 1, alike(n), level, "", api.ErrArg)
		}
	}
}

// P19.3

func TestParse(t *testing.T) {
	r := chance(5)
	for _, size := range sizes {
		plain := noise(r, size)
		isParsed(t, whole(api.ImagePlain, size, plain), summed(api.ImagePlain, size, plain), plain, api.OK)
		// Whether the payload is a stream is not asked here.
		for _, n := range []int{0, 1, 2, 100, size - 1, size, size + 1, 65534, 65535} {
			payload := noise(r, n)
			h := summed(api.ImageZlib, size, payload)
			isParsed(t, numbers(h)+payload, h, payload, api.OK)
			isParsed(t, numbers(h)+payload+"\x00", h, payload, api.OK)
			isParsed(t, numbers(h)+payload+noise(r, 70000), h, payload, api.OK)
		}
	}
}

func TestParseOfMade(t *testing.T) {
	r := chance(6)
	for _, size := range sizes {
		for _, text := range pages(r, size) {
			for _, level := range []int{0, 1, 6, 9} {
				s, e := image.Make(7, 1, text, level)
				h, payload, f := parsed(s)
				if e != api.OK || f != api.OK || h.Page != 7 || h.Stamp != 1 || h.Shift != shift(size) {
					t.Fatal("an image:", e, f, h)
				}
				isParsed(t, s, h, payload, api.OK)
				isParsed(t, s+"xyz", h, payload, api.OK)
			}
		}
	}
}

func TestCutImages(t *testing.T) {
	for _, s := range []string{
		made(t, 7, 1, alike(1024), 6), made(t, 7, 1, alike(1024), 0), made(t, 7, 1, words(chance(7), 2048), 9),
		whole(api.ImageZlib, 1024, ""), whole(api.ImageZlib, 1024, "a"),
	} {
		for n := range len(s) {
			isRefused(t, s[:n], api.ErrEnd)
		}
		h, payload, _ := parsed(s)
		isParsed(t, s, h, payload, api.OK)
	}
	isRefused(t, "", api.ErrEnd)
	// Of the most payload a byte is wanting.
	s := whole(api.ImageZlib, 16384, alike(65535))
	isRefused(t, s[:len(s)-1], api.ErrEnd)
	isText(t, s, 0, "", api.ErrHead)
}

func TestOtherSums(t *testing.T) {
	for _, size := range sizes {
		for _, payload := range []string{"", "a", squeezed(t, alike(size), 6)} {
			h := summed(api.ImageZlib, size, payload)
			for bit := range 32 {
				other := h
				other.Sum ^= 1 << bit
				isRefused(t, numbers(other)+payload, api.ErrCheck)
				isRefused(t, numbers(other)+payload+"xyz", api.ErrCheck)
			}
			// Sums of something else: of nothing, of the payload alone, of all bytes of the head, of what stands behind too.
			none := h
			none.Sum = 0
			all := numbers(none)
			for _, sum := range []uint32{0, math.MaxUint32, ^h.Sum, crc32.ChecksumIEEE([]byte(payload)), crc32.ChecksumIEEE([]byte(all + payload)), checked(h, payload+"xyz"), crc32.ChecksumIEEE([]byte(payload + all[:4] + all[8:]))} {
				other := h
				other.Sum = sum
				if sum == h.Sum {
					continue // of no payload the last one is the same
				}
				isRefused(t, numbers(other)+payload+"xyz", api.ErrCheck)
			}
		}
	}
}

// What stands behind the payload does not count for the Sum.
func TestLogIsNotSummed(t *testing.T) {
	r := chance(8)
	s := made(t, 7, 1, alike(1024), 6)
	h, payload, _ := parsed(s)
	for range 100 {
		isParsed(t, s+noise(r, r.IntN(50)), h, payload, api.OK)
	}
}

func TestParseOfWrongHeads(t *testing.T) {
	page := alike(1024)
	for _, h := range []api.Head{
		{}, {Kind: 0, Shift: 10, Payload: 1024}, {Kind: 3, Shift: 10, Payload: 1024}, {Kind: 255, Shift: 10, Payload: 1024},
		{Kind: 1, Shift: 9, Payload: 512}, {Kind: 2, Shift: 9, Payload: 5}, {Kind: 1, Shift: 15, Payload: 32768}, {Kind: 2, Shift: 15, Payload: 5},
		{Kind: 1, Shift: 10, Payload: 1023}, {Kind: 1, Shift: 10, Payload: 1025}, {Kind: 1, Shift: 10, Payload: 0}, {Kind: 1, Shift: 11, Payload: 1024},
		{Kind: 2, Shift: 0}, {Kind: 2, Shift: 255}, {Kind: 1, Shift: 64}, {Kind: 2, Shift: 63},
	} {
		for _, behind := range []string{"", "a", page, page + page} {
			h.Sum = checked(h, behind[:min(len(behind), h.Payload)])
			isRefused(t, numbers(h)+behind, api.ErrForm)
		}
	}
}

// Of several faults the first one is told.
func TestFaultsInOrder(t *testing.T) {
	good := whole(api.ImageZlib, 1024, "abc")
	// Bytes of a head are wanting ahead of what they are.
	isRefused(t, "\x00\x00"+good[2:19], api.ErrEnd)
	// What the head is, ahead of the payload's bytes that are wanting, and of its Sum.
	isRefused(t, "\x00"+good[1:22], api.ErrForm)
	isRefused(t, changed("\x00"+good[1:], 5, 1), api.ErrForm)
	// Wanting bytes ahead of another Sum.
	isRefused(t, changed(good[:22], 5, 1), api.ErrEnd)
	// Another Sum ahead of logged, and of what is no stream.
	isRefused(t, changed(good, 5, 1), api.ErrCheck)
	// Logged ahead of what is no stream.
	isText(t, good, -1, "", api.ErrArg)
	isText(t, good, 1, "", api.ErrArg)
	isText(t, good, 0, "", api.ErrHead)
	// What is no stream ahead of what is no log.
	isText(t, good+"\x00", 1, "", api.ErrHead)
	// A text of another size, and bytes behind the stream, ahead of what is no log.
	short := whole(api.ImageZlib, 1024, squeezed(t, alike(1023), 6))
	isText(t, short+"\x00", 1, "", api.ErrForm)
	long := whole(api.ImageZlib, 1024, squeezed(t, alike(1025), 6))
	isText(t, long+"\x00", 1, "", api.ErrLong)
	isText(t, long+"\x00", 2, "", api.ErrArg)
	// A text that is too long ahead of bytes behind the stream, and ahead of another sum of it.
	stream := squeezed(t, alike(1025), 6)
	isText(t, whole(api.ImageZlib, 1024, stream+"x"), 0, "", api.ErrLong)
	isText(t, whole(api.ImageZlib, 1024, changed(stream, len(stream)-1, 1)), 0, "", api.ErrLong)
	// Another sum of the text ahead of its size.
	stream = squeezed(t, alike(1023), 6)
	isText(t, whole(api.ImageZlib, 1024, changed(stream, len(stream)-1, 1)), 0, "", api.ErrAdler)
}

func TestText(t *testing.T) {
	r := chance(9)
	for _, size := range sizes {
		for _, text := range pages(r, size) {
			isText(t, whole(api.ImagePlain, size, text), 0, text, api.OK)
			isText(t, whole(api.ImagePlain, size, text)+"x", 0, text, api.OK)
			for level := range 10 {
				// Of level 0, and of noise, it has more bytes than the page: read it is the same.
				s := whole(api.ImageZlib, size, squeezed(t, text, level))
				isText(t, s, 0, text, api.OK)
				isText(t, s+alike(100), 0, text, api.OK)
			}
		}
	}
}

// goStream is a text's, by Go's own writer.
func goStream(t *testing.T, text, dict string, level int) string {
	t.Helper()
	var b bytes.Buffer
	var ahead []byte // nil of no dictionary: an empty one would be one
	if dict != "" {
		ahead = []byte(dict)
	}
	w, err := gozlib.NewWriterLevelDict(&b, level, ahead)
	if err != nil {
		t.Fatal(err)
	}
	if _, err := w.Write([]byte(text)); err != nil {
		t.Fatal(err)
	}
	if err := w.Close(); err != nil {
		t.Fatal(err)
	}
	return b.String()
}

func TestTextOfGo(t *testing.T) {
	r := chance(10)
	for _, size := range sizes {
		for _, text := range pages(r, size) {
			for level := range 10 {
				isText(t, whole(api.ImageZlib, size, goStream(t, text, "", level)), 0, text, api.OK)
			}
			isText(t, whole(api.ImageZlib, size, goStream(t, text, "a dictionary", 6)), 0, "", api.ErrDict)
		}
		// A dictionary that is told, but whose sum is that of none, is the empty one (layer 17).
		empty := "\x78\xbb\x00\x00\x00\x01" + squeezed(t, alike(size), 6)[2:]
		isText(t, whole(api.ImageZlib, size, empty), 0, alike(size), api.OK)
	}
}

func TestTextOfWrongStreams(t *testing.T) {
	for _, size := range sizes {
		stream := squeezed(t, alike(size), 6)
		of := func(payload string, want api.Errno) {
			t.Helper()
			s := whole(api.ImageZlib, size, payload)
			h := summed(api.ImageZlib, size, payload)
			isParsed(t, s, h, payload, api.OK)
			isText(t, s, 0, "", want)
			isText(t, s+"\x00\x00\x01\x00a", 5, "", want)
		}
		for n := range len(stream) {
			of(stream[:n], api.ErrEnd)
		}
		of(stream+"\x00", api.ErrForm)
		of(stream+"x", api.ErrForm)
		of(stream+stream, api.ErrForm)
		of("y"+stream[1:], api.ErrHead)
		of(changed(stream, len(stream)-1, 1), api.ErrAdler)
		of("\x78\x9c\x07", api.ErrBlock)
		of(alike(size), api.ErrHead)
		dict, _ := zlib.Write("aaa", alike(size), 6, far)
		of(dict, api.ErrDict)
		for _, n := range []int{0, 1, size / 2, size - 1} {
			of(squeezed(t, alike(n), 6), api.ErrForm)
			of(squeezed(t, alike(n), 0), api.ErrForm)
		}
		for _, n := range []int{size + 1, size + 2, 2 * size, 40000} {
			of(squeezed(t, alike(n), 6), api.ErrLong)
			of(squeezed(t, alike(n), 0), api.ErrLong)
		}
	}
}

// A page of one size is none of another one.
func TestTextOfOtherSizes(t *testing.T) {
	for _, size := range sizes {
		for _, other := range sizes {
			want, wantE := "", api.OK
			switch {
			case other < size:
				wantE = api.ErrForm
			case other > size:
				wantE = api.ErrLong
			default:
				want = alike(size)
			}
			isText(t, whole(api.ImageZlib, size, squeezed(t, alike(other), 6)), 0, want, wantE)
		}
	}
}

func TestTextOfEachLogged(t *testing.T) {
	a := alike(1024)
	l := []api.Mod{{At: 2, Text: "bc"}, {At: 1023, Text: "z"}, {At: 0, Text: "a page"}, {At: 3, Text: "\x00\x00\x00"}}
	texts := []string{a, "aabc" + alike(1020), "aabc" + alike(1019) + "z", "a page" + alike(1017) + "z", "a p\x00\x00\x00" + alike(1017) + "z"}
	ends := map[int]string{}
	for i, text := range texts {
		ends[len(log(t, 1024, l[:i]...))] = text
	}
	all := log(t, 1024, l...)
	for _, level := range []int{0, 6} {
		s := made(t, 7, 1, a, level) + all
		for logged := -3; logged <= len(all)+3; logged++ {
			want, whole := ends[logged]
			switch {
			case logged < 0 || logged > len(all):
				isText(t, s, logged, "", api.ErrArg)
			case whole:
				isText(t, s, logged, want, api.OK)
			default:
				isText(t, s, logged, "", api.ErrForm)
			}
		}
		for _, logged := range []int{math.MinInt, -1 << 32, len(s), 1 << 32, math.MaxInt, len(s) - len(all)} {
			isText(t, s, logged, "", api.ErrArg)
		}
		// What stands behind what is logged counts for nothing.
		isText(t, s+"\x00\x00", len(all), texts[4], api.OK)
		isText(t, s+"\x00\x00", len(all)+1, "", api.ErrForm)
		isText(t, s+"\x00\x00", len(all)+3, "", api.ErrArg)
		// Nothing is behind, and of that nothing is logged.
		bare := made(t, 7, 1, a, level)
		isText(t, bare, 0, a, api.OK)
		isText(t, bare, 1, "", api.ErrArg)
		isText(t, bare, -1, "", api.ErrArg)
	}
}

func TestTextOfWrongLogs(t *testing.T) {
	for _, size := range sizes {
		last := []byte{byte(size - 1), byte((size - 1) / 256)}
		end := []byte{byte(size), byte(size / 256)}
		for _, level := range []int{0, 6} {
			s := made(t, 7, 1, alike(size), level)
			isText(t, s+string(last)+"\x01\x00z", 5, alike(size-1)+"z", api.OK)
			for _, wrong := range []string{
				"\x00", "\x00\x00\x01\x00", "\x00\x00\x00\x00", string(end) + "\x01\x00z", string(last) + "\x02\x00yz",
				"\xff\xff\x01\x00z", "\x00\x00\xff\xffz", "\x00\x00\x01\x00ab",
			} {
				isText(t, s+wrong, len(wrong), "", api.ErrForm)
				isText(t, s+wrong, 0, alike(size), api.OK)
				isText(t, s+"\x00\x00\x01\x00b"+wrong, 5+len(wrong), "", api.ErrForm)
				isText(t, s+"\x00\x00\x01\x00b"+wrong, 5, "b"+alike(size-1), api.OK)
			}
		}
	}
}

func TestTextByChance(t *testing.T) {
	r := chance(11)
	for range 150 {
		size := sizes[r.IntN(len(sizes))]
		text := words(r, size)
		s := made(t, r.Uint32(), r.Uint64(), text, r.IntN(10))
		logs := ""
		for range r.IntN(6) {
			m := api.Mod{At: r.IntN(size), Text: "x"}
			m.Text = noise(r, 1+r.IntN(size-m.At))
			logs += log(t, size, m)
			text = text[:m.At] + m.Text + text[m.At+len(m.Text):]
		}
		isText(t, s+logs, len(logs), text, api.OK)
		isText(t, s+logs+noise(r, 9), len(logs), text, api.OK)
	}
}

// An image that another one is the payload of is one of its own.
func TestImageOfAnImage(t *testing.T) {
	s := made(t, 7, 1, alike(1024), 6)
	text := s + strings.Repeat("\x00", 1024-len(s))
	isText(t, made(t, 8, 2, text, 6), 0, text, api.OK)
	isText(t, made(t, 8, 2, text, 0), 0, text, api.OK)
	isText(t, s+s, 0, alike(1024), api.OK)
}

// P19.4

func TestMadeIsRead(t *testing.T) {
	r := chance(12)
	for _, size := range sizes {
		for _, text := range pages(r, size) {
			for level := range 10 {
				page, stamp := r.Uint32(), r.Uint64()
				s, e := image.Make(page, stamp, text, level)
				if e != api.OK || len(s) > size+api.HeadSize {
					t.Fatalf("Make of %d bytes, level %d: %d bytes, %d", size, level, len(s), e)
				}
				isText(t, s, 0, text, api.OK)
				if n := image.End(s); n != len(s) {
					t.Error("End:", n, "of", len(s))
				}
				h, payload, e := image.Parse(s)
				if h.Page != page || h.Stamp != stamp || h.Shift != shift(size) || h.Payload != len(payload) || e != api.OK {
					t.Errorf("Parse: %+v, %d", h, e)
				}
				head, e := image.Head(h)
				if head+payload != s || e != api.OK {
					t.Error("head and payload are another image:", e)
				}
				again, e := image.ReadHead(s)
				if again != h || e != api.OK {
					t.Errorf("ReadHead: %+v, %d", again, e)
				}
			}
		}
	}
}

// isTold holds that another byte at a place is told, but of Payload's two, of which only what the promise says of such bytes is.
func isTold(t *testing.T, s string, at int, by byte) {
	t.Helper()
	other := changed(s, at, by)
	h, payload, e := parsed(other)
	isParsed(t, other, h, payload, e)
	if at == 2 || at == 3 {
		return
	}
	if e == api.OK {
		t.Error("not told: the byte at", at)
	}
	isText(t, other, 0, "", e)
}

func TestOtherBytesAreTold(t *testing.T) {
	r := chance(13)
	// Of a small image each byte as each other one.
	small := made(t, 7, 1, alike(1024), 6)
	for at := range len(small) {
		for by := 1; by < 256; by++ {
			isTold(t, small, at, byte(by))
			if by%16 == 0 {
				isTold(t, small+small, at, byte(by))
			}
		}
	}
	for _, size := range sizes[:2] {
		for _, text := range pages(r, size) {
			for _, level := range []int{0, 6} {
				s := made(t, r.Uint32(), r.Uint64(), text, level)
				for at := range len(s) {
					isTold(t, s+"xyz", at, byte(1+r.IntN(255)))
				}
			}
		}
	}
	for _, size := range sizes[2:] {
		for _, level := range []int{0, 6} {
			s := made(t, r.Uint32(), r.Uint64(), words(r, size), level)
			for range 300 {
				isTold(t, s, r.IntN(len(s)), byte(1+r.IntN(255)))
			}
		}
	}
}

// One kind is not read as the other, though the payload be the same.
func TestOtherKindIsTold(t *testing.T) {
	page := alike(1024)
	s := whole(api.ImagePlain, 1024, page)
	isRefused(t, "\x02"+s[1:], api.ErrCheck)
	s = whole(api.ImageZlib, 1024, page)
	isRefused(t, "\x01"+s[1:], api.ErrCheck)
	isRefused(t, "\x00"+s[1:], api.ErrForm)
	isRefused(t, s[:1]+"\x0b"+s[2:], api.ErrCheck)
	isRefused(t, s[:1]+"\x0f"+s[2:], api.ErrForm)
}

// R1, R5 and R6

func TestAnyBytes(t *testing.T) {
	r := chance(14)
	for range 4000 {
		b := []byte(noise(r, r.IntN(80)))
		if len(b) > 3 {
			b[0], b[1], b[2], b[3] = byte(r.IntN(4)), byte(9+r.IntN(7)), byte(r.IntN(70)), 0
		}
		s := string(b)
		if h, _, e := parsed(s); e == api.ErrCheck || r.IntN(2) == 0 && len(s) >= headSize {
			// As often as not the Sum is right.
			h.Kind, h.Shift, h.Payload = b[0], b[1], int(b[2])
			h.Page = binary.LittleEndian.Uint32(b[8:])
			h.Stamp = binary.LittleEndian.Uint64(b[12:])
			h.Sum = checked(h, s[headSize:min(len(s), headSize+h.Payload)])
			s = numbers(h) + s[headSize:]
		}
		h, payload, e := parsed(s)
		isParsed(t, s, h, payload, e)
		text, f := image.Text(s, 0)
		if f != api.OK && text != "" || e != api.OK && f != e || f == api.OK && len(text) != 1<<h.Shift {
			t.Errorf("Text of %x: %d bytes, %d, where Parse has %d", s, len(text), f, e)
		}
	}
}

// TestTheSameAgain holds that neither arguments nor answers are changed by what is done later.
func TestTheSameAgain(t *testing.T) {
	r := chance(15)
	for range 20 {
		text := words(r, 2048)
		first, _ := image.Make(7, 1, text, 6)
		all := first + log(t, 2048, api.Mod{At: 5, Text: "xyz"})
		h, payload, _ := image.Parse(all)
		kept := []string{strings.Clone(text), strings.Clone(first), strings.Clone(all), strings.Clone(payload)}
		for range 2 {
			other := noise(r, 2048)
			isMade(t, 8, 2, other, 6, made(t, 8, 2, other, 6), api.OK)
			isMade(t, 7, 1, text, 6, first, api.OK)
			isParsed(t, all, h, payload, api.OK)
			isText(t, all, 7, text[:5]+"xyz"+text[8:], api.OK)
			isText(t, all, 0, text, api.OK)
		}
		if !slices.Equal(kept, []string{text, first, all, payload}) {
			t.Error("changed")
		}
	}
}

func TestNothingBesideErrors(t *testing.T) {
	s := made(t, 7, 1, alike(1024), 6)
	if h, e := image.ReadHead("\x03" + s[1:]); h != (api.Head{}) || e != api.ErrForm {
		t.Errorf("ReadHead: %+v, %d", h, e)
	}
	// The head may be, and all its payload is there: its Sum alone is another one.
	if h, payload, e := image.Parse(changed(s, 4, 1)); h != (api.Head{}) || payload != "" || e != api.ErrCheck {
		t.Errorf("Parse: %+v, %d bytes, %d", h, len(payload), e)
	}
	// The page is there, but what is logged is no log.
	if text, e := image.Text(s+"x", 1); text != "" || e != api.ErrForm {
		t.Errorf("Text: %d bytes, %d", len(text), e)
	}
	if text, e := image.Text(whole(api.ImageZlib, 1024, squeezed(t, alike(1024), 6)+"x"), 0); text != "" || e != api.ErrForm {
		t.Errorf("Text: %d bytes, %d", len(text), e)
	}
	if s, e := image.Head(api.Head{Kind: 1, Shift: 10, Payload: 1023}); s != "" || e != api.ErrArg {
		t.Errorf("Head: %x, %d", s, e)
	}
}
