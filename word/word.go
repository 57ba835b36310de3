// Package word has numbers as bytes, and bits of numbers.
package word

const (
	maxSize = 8       // bytes of a number
	maxBits = 64      // bits of a number
	maxUp   = 1 << 62 // the greatest multiple that Up answers
)

func Put(n uint64, size int) (string, bool) {
	if !isSize(size) || !fits(n, size) {
		return "", false
	}
	var b [maxSize]byte
	for i := range size {
		b[i] = byte(n >> (8 * i))
	}
	return string(b[:size]), true
}

func Get(s string, at, size int) (uint64, bool) {
	// at and size are not added: their sum might wrap round.
	if !isSize(size) || at < 0 || at > len(s)-size {
		return 0, false
	}
	var n uint64
	for i := range size {
		n |= uint64(s[at+i]) << (8 * i)
	}
	return n, true
}

func Small(n int, size int) (uint64, bool) {
	if n < 0 || !isSize(size) || !fits(uint64(n), size) {
		return 0, false
	}
	return uint64(n), true
}

func isSize(size int) bool {
	return size >= 1 && size <= maxSize
}

// fits needs no case of its own for maxSize: a shift by all bits leaves 0.
func fits(n uint64, size int) bool {
	return n>>(8*size) == 0
}

func Mask(bits int) uint64 {
	if bits <= 0 {
		return 0
	}
	// A shift by all bits or more leaves 0, of which 1 less is all bits.
	return uint64(1)<<bits - 1
}

func Turn(n uint64, bits int) uint64 {
	var turned uint64
	for range min(bits, maxBits) {
		turned = turned<<1 | n&1
		n >>= 1
	}
	return turned
}

func Log(n uint64) int {
	bit := -1
	for ; n != 0; n >>= 1 {
		bit++
	}
	return bit
}

func Up(n, to int) int {
	if n < 1 || to < 1 {
		return 0
	}
	// The multiple is below n and to together: unsigned it can't wrap round.
	times := uint64(n-1)/uint64(to) + 1
	up := times * uint64(to)
	if up > maxUp {
		return 0
	}
	return int(up)
}
