package runs_test

import (
	"math"
	"math/rand/v2"
	"slices"
	"strconv"
	"strings"
	"testing"

	"platen/api"
	"platen/runs"
)

func chance() *rand.Rand {
	return rand.New(rand.NewPCG(12, 1951))
}

// told reads runs as a test writes them: "18+1 3" is symbol 18 with Extra 1, then symbol 3.
func told(s string) []api.Run {
	var l []api.Run
	for _, word := range strings.Fields(s) {
		sym, extra, _ := strings.Cut(word, "+")
		l = append(l, api.Run{Sym: byteOf(sym), Extra: byteOf(extra)})
	}
	return l
}

func byteOf(s string) uint8 {
	if s == "" {
		return 0
	}
	n, err := strconv.ParseUint(s, 10, 8)
	if err != nil {
		panic(err)
	}
	return uint8(n)
}

// row reads lengths as a test writes them: "0x12 3" is twelve zeros, then a 3.
func row(s string) []uint8 {
	var l []uint8
	for _, word := range strings.Fields(s) {
		length, times, _ := strings.Cut(word, "x")
		n := 1
		if times != "" {
			n, _ = strconv.Atoi(times)
		}
		l = append(l, slices.Repeat([]uint8{byteOf(length)}, n)...)
	}
	return l
}

func isPack(t *testing.T, lens []uint8, want []api.Run, wantE api.Errno) {
	t.Helper()
	kept := slices.Clone(lens)
	l, e := runs.Pack(lens)
	if e != wantE || !slices.Equal(l, want) {
		t.Errorf("Pack of %v: %v, %d, not %v, %d", lens, l, e, want, wantE)
	}
	if !slices.Equal(lens, kept) {
		t.Errorf("Pack changed %v to %v", kept, lens)
	}
}

func isUnpack(t *testing.T, l []api.Run, n int, want []uint8, wantE api.Errno) {
	t.Helper()
	kept := slices.Clone(l)
	lens, e := runs.Unpack(l, n)
	if e != wantE || !slices.Equal(lens, want) {
		t.Errorf("Unpack of %v, %d: %v, %d, not %v, %d", l, n, lens, e, want, wantE)
	}
	if !slices.Equal(l, kept) {
		t.Errorf("Unpack changed %v to %v", kept, l)
	}
}

func isTimes(t *testing.T, sym, extra uint8, want int, wantIs bool) {
	t.Helper()
	if n, is := runs.Times(api.Run{Sym: sym, Extra: extra}); n != want || is != wantIs {
		t.Errorf("Times of %d+%d: %d, %v, not %d, %v", sym, extra, n, is, want, wantIs)
	}
}

func isBits(t *testing.T, sym uint8, want int, wantIs bool) {
	t.Helper()
	if n, is := runs.Bits(sym); n != want || is != wantIs {
		t.Errorf("Bits of %d: %d, %v, not %d, %v", sym, n, is, want, wantIs)
	}
}

// modelTimes is 0 of what is no run.
func modelTimes(r api.Run) int {
	extra := int(r.Extra)
	switch {
	case r.Sym < 16 && extra == 0:
		return 1
	case r.Sym == 16 && extra < 4, r.Sym == 17 && extra < 8:
		return 3 + extra
	case r.Sym == 18 && extra < 128:
		return 11 + extra
	}
	return 0
}

// modelPack reckons what so many alike come to, by how often the greatest run goes into them and what is over.
func modelPack(lens []uint8) ([]api.Run, api.Errno) {
	var l []api.Run
	for at := 0; at < len(lens); {
		length, end := lens[at], at
		for end < len(lens) && lens[end] == length {
			end++
		}
		if length > 15 {
			return nil, api.ErrArg
		}
		if length == 0 {
			l = append(l, modelZeros(end-at)...)
		} else {
			l = append(l, modelOthers(length, end-at)...)
		}
		at = end
	}
	return l, api.OK
}

func modelZeros(times int) []api.Run {
	l := slices.Repeat([]api.Run{{Sym: 18, Extra: 127}}, times/138)
	over := times % 138
	switch {
	case over > 10:
		return append(l, api.Run{Sym: 18, Extra: uint8(over - 11)})
	case over > 2:
		return append(l, api.Run{Sym: 17, Extra: uint8(over - 3)})
	}
	return append(l, slices.Repeat([]api.Run{{}}, over)...)
}

func modelOthers(length uint8, times int) []api.Run {
	l := []api.Run{{Sym: length}}
	l = append(l, slices.Repeat([]api.Run{{Sym: 16, Extra: 3}}, (times-1)/6)...)
	over := (times - 1) % 6
	if over > 2 {
		return append(l, api.Run{Sym: 16, Extra: uint8(over - 3)})
	}
	return append(l, slices.Repeat([]api.Run{{Sym: length}}, over)...)
}

// modelUnpack takes pieces, and asks behind each one what is wrong.
func modelUnpack(l []api.Run, n int) ([]uint8, api.Errno) {
	if n < 0 {
		return nil, api.ErrArg
	}
	lens := []uint8{}
	for _, r := range l {
		times := modelTimes(r)
		if times == 0 {
			return nil, api.ErrArg
		}
		length := r.Sym
		if r.Sym == 16 {
			if len(lens) == 0 {
				return nil, api.ErrForm
			}
			length = lens[len(lens)-1]
		} else if r.Sym > 16 {
			length = 0
		}
		lens = slices.Concat(lens, slices.Repeat([]uint8{length}, times))
		if len(lens) > n {
			return nil, api.ErrForm
		}
	}
	if len(lens) != n {
		return nil, api.ErrForm
	}
	return lens, api.OK
}

func holdPack(t *testing.T, lens []uint8) {
	t.Helper()
	want, e := modelPack(lens)
	isPack(t, lens, want, e)
}

func holdUnpack(t *testing.T, l []api.Run, n int) {
	t.Helper()
	want, e := modelUnpack(l, n)
	isUnpack(t, l, n, want, e)
}

// holdBack is P12.3: there and back, and no more runs than lengths.
func holdBack(t *testing.T, lens []uint8) {
	t.Helper()
	l, e := runs.Pack(lens)
	if e != api.OK || len(l) > len(lens) {
		t.Errorf("Pack of %d lengths: %d runs, %d", len(lens), len(l), e)
	}
	back, e := runs.Unpack(l, len(lens))
	if e != api.OK || !slices.Equal(back, lens) {
		t.Errorf("Unpack of Pack of %v: %v, %d", lens, back, e)
	}
}

// rows yields all rows of up to so many things, the empty one first; each one is overwritten by the next.
func rows[T any](things []T, most int, yield func([]T)) {
	var grow func(row []T)
	grow = func(row []T) {
		yield(row)
		if len(row) == most {
			return
		}
		for _, x := range things {
			grow(append(row, x))
		}
	}
	grow(make([]T, 0, most))
}

func TestExample(t *testing.T) {
	isPack(t, row("0x12 3x5"), told("18+1 3 16+1"), api.OK)
	isUnpack(t, told("18+1 3 16+1"), 17, row("0x12 3x5"), api.OK)
}

func TestPackByHand(t *testing.T) {
	for lens, want := range map[string]string{
		"":              "",
		"0":             "0",
		"0x2":           "0 0",
		"0x3":           "17",
		"0x4":           "17+1",
		"0x10":          "17+7",
		"0x11":          "18",
		"0x12":          "18+1",
		"0x13":          "18+2",
		"0x14":          "18+3",
		"0x137":         "18+126",
		"0x138":         "18+127",
		"0x139":         "18+127 0",
		"0x140":         "18+127 0 0",
		"0x141":         "18+127 17",
		"0x148":         "18+127 17+7",
		"0x149":         "18+127 18",
		"0x276":         "18+127 18+127",
		"0x277":         "18+127 18+127 0",
		"5":             "5",
		"5x2":           "5 5",
		"5x3":           "5 5 5",
		"5x4":           "5 16",
		"5x5":           "5 16+1",
		"5x6":           "5 16+2",
		"5x7":           "5 16+3",
		"5x8":           "5 16+3 5",
		"5x9":           "5 16+3 5 5",
		"5x10":          "5 16+3 16",
		"5x13":          "5 16+3 16+3",
		"5x14":          "5 16+3 16+3 5",
		"1x4":           "1 16",
		"15":            "15",
		"15x4":          "15 16",
		"15x8":          "15 16+3 15",
		"4 0":           "4 0",
		"4 0x3":         "4 17",
		"4x4 0x4":       "4 16 17+1",
		"4x4 0x11":      "4 16 18",
		"0 4":           "0 4",
		"0x3 4x3":       "17 4 4 4",
		"0x11 4x4":      "18 4 16",
		"0x139 4x4":     "18+127 0 4 16",
		"4 5":           "4 5",
		"4x3 5x3":       "4 4 4 5 5 5",
		"4x4 5x4":       "4 16 5 16",
		"4x8 5x8":       "4 16+3 4 5 16+3 5",
		"4 5 4 5":       "4 5 4 5",
		"4x2 0x2 4x2":   "4 4 0 0 4 4",
		"4x4 0x3 4x4":   "4 16 17 4 16",
		"0x2 4 0x2":     "0 0 4 0 0",
		"0x11 4 0x11":   "18 4 18",
		"15 14x4 0x138": "15 14 16 18+127",
	} {
		isPack(t, row(lens), told(want), api.OK)
		isUnpack(t, told(want), len(row(lens)), row(lens), api.OK)
	}
}

func TestPackOfNothing(t *testing.T) {
	isPack(t, nil, nil, api.OK)
	isPack(t, []uint8{}, nil, api.OK)
}

// A length at each place: those up to 15 may be, and beside an error there are no runs.
func TestPackOfEachLengthAtEachPlace(t *testing.T) {
	for _, s := range []string{"7", "0x3 7x5 0x12", "7x8 3 4 0x2", "0x150"} {
		for place := range row(s) {
			for length := range 256 {
				lens := row(s)
				lens[place] = uint8(length)
				if length > 15 {
					isPack(t, lens, nil, api.ErrArg)
					continue
				}
				holdPack(t, lens)
				holdBack(t, lens)
			}
		}
	}
}

func TestPackRefuses(t *testing.T) {
	isPack(t, []uint8{15}, told("15"), api.OK)
	isPack(t, []uint8{16}, nil, api.ErrArg)
	isPack(t, []uint8{255}, nil, api.ErrArg)
	isPack(t, []uint8{16, 0, 0, 0}, nil, api.ErrArg)
	isPack(t, []uint8{0, 0, 0, 16}, nil, api.ErrArg)
	isPack(t, []uint8{1, 16, 255, 1}, nil, api.ErrArg)
	isPack(t, slices.Repeat([]uint8{18}, 20), nil, api.ErrArg)
}

func TestTimesByHand(t *testing.T) {
	for sym := range uint8(16) {
		isTimes(t, sym, 0, 1, true)
		isTimes(t, sym, 1, 0, false)
		isTimes(t, sym, 255, 0, false)
	}
	isTimes(t, 16, 0, 3, true)
	isTimes(t, 16, 3, 6, true)
	isTimes(t, 16, 4, 0, false)
	isTimes(t, 16, 255, 0, false)
	isTimes(t, 17, 0, 3, true)
	isTimes(t, 17, 7, 10, true)
	isTimes(t, 17, 8, 0, false)
	isTimes(t, 17, 255, 0, false)
	isTimes(t, 18, 0, 11, true)
	isTimes(t, 18, 127, 138, true)
	isTimes(t, 18, 128, 0, false)
	isTimes(t, 18, 255, 0, false)
	isTimes(t, 19, 0, 0, false)
	isTimes(t, 19, 255, 0, false)
	isTimes(t, 255, 0, 0, false)
	isTimes(t, 255, 255, 0, false)
}

func TestTimesOfAll(t *testing.T) {
	for sym := range 256 {
		for extra := range 256 {
			r := api.Run{Sym: uint8(sym), Extra: uint8(extra)}
			want := modelTimes(r)
			isTimes(t, r.Sym, r.Extra, want, want > 0)
		}
	}
}

func TestBits(t *testing.T) {
	for sym := range uint8(16) {
		isBits(t, sym, 0, true)
	}
	isBits(t, 16, 2, true)
	isBits(t, 17, 3, true)
	isBits(t, 18, 7, true)
	for sym := 19; sym < 256; sym++ {
		isBits(t, uint8(sym), 0, false)
	}
}

// Just the Extras that a symbol's bits hold make a run.
func TestBitsHoldExtras(t *testing.T) {
	for sym := range uint8(19) {
		bits, _ := runs.Bits(sym)
		for extra := range 256 {
			if _, is := runs.Times(api.Run{Sym: sym, Extra: uint8(extra)}); is != (extra < 1<<bits) {
				t.Errorf("%d+%d by %d bits: %v", sym, extra, bits, is)
			}
		}
	}
}

func TestUnpackOfNothing(t *testing.T) {
	isUnpack(t, nil, 0, nil, api.OK)
	isUnpack(t, []api.Run{}, 0, nil, api.OK)
	isUnpack(t, nil, 1, nil, api.ErrForm)
	isUnpack(t, []api.Run{}, 1, nil, api.ErrForm)
	isUnpack(t, nil, math.MaxInt, nil, api.ErrForm)
	isUnpack(t, told("3"), math.MaxInt, nil, api.ErrForm)
	isUnpack(t, told("3"), 0, nil, api.ErrForm)
}

func TestUnpackOfLessThanNone(t *testing.T) {
	for _, n := range []int{-1, -2, -3, -138, -1 << 32, math.MinInt + 1, math.MinInt} {
		for _, s := range []string{"", "0", "3", "16", "17", "18+127", "19", "16+4", "3 16 0+1"} {
			isUnpack(t, told(s), n, nil, api.ErrArg)
		}
	}
}

func TestUnpackOfWhatIsNoRun(t *testing.T) {
	for _, bad := range []string{"0+1", "7+1", "15+255", "16+4", "16+255", "17+8", "17+255", "18+128", "18+255", "19", "19+1", "255", "255+255"} {
		for n := range 12 {
			isUnpack(t, told(bad), n, nil, api.ErrArg)
			isUnpack(t, told(bad+" 3"), n, nil, api.ErrArg)
			isUnpack(t, told(bad+" 16"), n, nil, api.ErrArg)
			isUnpack(t, told("16 "+bad), n, nil, api.ErrForm)
			isUnpack(t, told("18+1 "+bad), n, nil, api.ErrForm)
		}
		isUnpack(t, told("3 "+bad), 1, nil, api.ErrArg)
		isUnpack(t, told("3 "+bad), 5, nil, api.ErrArg)
		isUnpack(t, told("3 17 4 "+bad+" 16"), 5, nil, api.ErrArg)
		isUnpack(t, told("3 17 4 "+bad), 4, nil, api.ErrForm)
		isUnpack(t, told("3 17 4 16 "+bad), 7, nil, api.ErrForm)
		isUnpack(t, told("3 17 4 16 "+bad), 8, nil, api.ErrArg)
	}
}

func TestUnpackOfNoLengthAhead(t *testing.T) {
	for _, s := range []string{"16", "16+3", "16 3", "16 16"} {
		for n := range 12 {
			isUnpack(t, told(s), n, nil, api.ErrForm)
		}
	}
}

func TestUnpackOfALengthAhead(t *testing.T) {
	isUnpack(t, told("0 16"), 4, row("0x4"), api.OK)
	isUnpack(t, told("17 16"), 6, row("0x6"), api.OK)
	isUnpack(t, told("18 16+3"), 17, row("0x17"), api.OK)
	isUnpack(t, told("15 16"), 4, row("15x4"), api.OK)
	isUnpack(t, told("9 16 16+1"), 8, row("9x8"), api.OK)
	isUnpack(t, told("9 4 16"), 5, row("9 4x4"), api.OK)
	isUnpack(t, told("9 17 16"), 7, row("9 0x6"), api.OK)
	isUnpack(t, told("9 18 16"), 15, row("9 0x14"), api.OK)
	isUnpack(t, told("9 0 16"), 5, row("9 0x4"), api.OK)
	isUnpack(t, told("17 9 16"), 7, row("0x3 9x4"), api.OK)
}

// Lengths may be told otherwise than Pack does.
func TestUnpackOfOtherRuns(t *testing.T) {
	isUnpack(t, told("0 0 0"), 3, row("0x3"), api.OK)
	isUnpack(t, told("17 17+7 0 18"), 25, row("0x25"), api.OK)
	isUnpack(t, told("2 2 2 2 2"), 5, row("2x5"), api.OK)
	isUnpack(t, told("2 16 2 16"), 8, row("2x8"), api.OK)
}

func TestUnpackHoldsHowMany(t *testing.T) {
	for s, n := range map[string]int{
		"0": 1, "7": 1, "17": 3, "17+7": 10, "18": 11, "18+127": 138,
		"7 16": 4, "7 16+3": 7, "7 8": 2, "7 17": 4, "7 18+127": 139,
		"18+127 0": 139, "18+127 18+127": 276, "7 16+3 16+3 8": 14,
	} {
		want, e := modelUnpack(told(s), n)
		if e != api.OK {
			t.Fatalf("%s is not %d lengths", s, n)
		}
		isUnpack(t, told(s), n, want, api.OK)
		isUnpack(t, told(s), n-1, nil, api.ErrForm)
		isUnpack(t, told(s), n+1, nil, api.ErrForm)
		isUnpack(t, told(s), 0, nil, api.ErrForm)
		isUnpack(t, told(s), math.MaxInt, nil, api.ErrForm)
	}
}

func TestPackOfAllSmallRows(t *testing.T) {
	hold := func(lens []uint8) {
		holdPack(t, lens)
		holdBack(t, lens)
	}
	rows([]uint8{0, 9}, 14, hold)
	rows([]uint8{0, 1, 15}, 8, hold)
	rows([]uint8{0, 1, 2, 15, 16, 255}, 5, func(lens []uint8) { holdPack(t, lens) })
}

func TestUnpackOfAllSmallRows(t *testing.T) {
	some := told("0 9 15 16 16+3 17 17+7 18 18+127")
	bad := told("0+1 16+4 17+8 18+128 19")
	rows(slices.Concat(some, bad), 3, func(l []api.Run) {
		for n := -1; n <= 25; n++ {
			holdUnpack(t, l, n)
		}
	})
	rows(some, 4, func(l []api.Run) {
		n := 0
		for _, r := range l {
			n += modelTimes(r)
		}
		holdUnpack(t, l, n-1)
		holdUnpack(t, l, n)
		holdUnpack(t, l, n+1)
	})
}

// So many alike alone, and with others on both sides.
func TestPackOfSoManyAlike(t *testing.T) {
	for times := range 600 {
		for _, length := range []uint8{0, 1, 8, 15} {
			alike := slices.Repeat([]uint8{length}, times)
			for _, lens := range [][]uint8{alike, slices.Concat(row("0x2 3x2"), alike, row("0x3 4x3"))} {
				holdPack(t, lens)
				holdBack(t, lens)
			}
		}
	}
}

func TestRowsByChance(t *testing.T) {
	r := chance()
	for range 3000 {
		var lens []uint8
		for range r.IntN(20) {
			length := uint8(r.IntN(16) * r.IntN(2))
			lens = append(lens, slices.Repeat([]uint8{length}, 1+r.IntN(1+r.IntN(300)))...)
		}
		holdPack(t, lens)
		holdBack(t, lens)
	}
}

func TestRunsByChance(t *testing.T) {
	r := chance()
	for range 20000 {
		var l []api.Run
		n := 0
		for range r.IntN(8) {
			sym := uint8(r.IntN(19))
			run := api.Run{Sym: sym, Extra: uint8(r.IntN(map[uint8]int{16: 5, 17: 9, 18: 129}[sym] + 1))}
			l = append(l, run)
			n += modelTimes(run)
		}
		holdUnpack(t, l, n)
		holdUnpack(t, l, r.IntN(n+1))
	}
}

func TestLongRows(t *testing.T) {
	for _, length := range []uint8{0, 15} {
		lens := slices.Repeat([]uint8{length}, 1<<20)
		holdPack(t, lens)
		holdBack(t, lens)
	}
	lens := slices.Repeat(row("0x150 7x9 8 9"), 5000)
	holdPack(t, lens)
	holdBack(t, lens)
}

// R5: what is answered is nobody else's, and the same again.
func TestAnswersAreNewMemory(t *testing.T) {
	lens := row("0x12 3x5")
	l, _ := runs.Pack(lens)
	other, _ := runs.Pack(lens)
	clear(l)
	if !slices.Equal(other, told("18+1 3 16+1")) || !slices.Equal(lens, row("0x12 3x5")) {
		t.Errorf("%v, %v", other, lens)
	}
	back, _ := runs.Unpack(other, 17)
	clear(back)
	isUnpack(t, other, 17, row("0x12 3x5"), api.OK)
	isPack(t, lens, told("18+1 3 16+1"), api.OK)
}
