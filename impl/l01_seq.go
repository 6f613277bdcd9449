package impl

const (
	halfRound = 2147483648
	maxWindow = halfRound - 1
	maxPiece  = 100000
	maxBase   = 1099511627776
	wordLen   = 4
)

// A place has a type of its own, so that places are not held against each other by the plain < of numbers, which is wrong where the words come round.
type place uint32

func (p place) moved(n int) place { return p + place(n) }

func (p place) distTo(q place) int { return int(int32(q - p)) }

func (p place) less(q place) bool { return p.distTo(q) > 0 }

func (p place) within(left place, size int) bool { return int(p-left) < size }

type wordBytes [wordLen]byte

func (b wordBytes) word() uint32 {
	var x uint32
	for _, c := range b {
		x = x<<8 | uint32(c)
	}
	return x
}

func (b wordBytes) text() string { return string(b[:]) }

func bytesOf(x uint32) wordBytes {
	return wordBytes{byte(x >> 24), byte(x >> 16), byte(x >> 8), byte(x)}
}

func SeqLess(a uint32, b uint32) bool { return place(a).less(place(b)) }

func SeqLessEq(a uint32, b uint32) bool { return a == b || SeqLess(a, b) }

func SeqMax(a uint32, b uint32) uint32 {
	if SeqLess(a, b) {
		return b
	}
	return a
}

func SeqDist(a uint32, b uint32) int { return place(a).distTo(place(b)) }

func InWindow(seq uint32, left uint32, size int) bool {
	return size >= 0 && size <= maxWindow && place(seq).within(place(left), size)
}

func Overlaps(seq uint32, n int, left uint32, size int) bool {
	if n < 1 || n > maxPiece || size < 1 || size > maxWindow {
		return false
	}
	// A piece has a byte in the window just when it begins there or at most n - 1 places before it.
	// Both sizes together are less than a whole round, so the widened window doesn't meet itself.
	return place(seq).within(place(left).moved(1-n), size+n-1)
}

func Unwrap(base int, seq uint32) int {
	if base < 0 || base > maxBase {
		return -1
	}
	d := place(Word(base)).distTo(place(seq))
	if d == -halfRound {
		// Two numbers are as near here, and the one above counts.
		d = halfRound
	}
	return base + d
}

func Word(n int) uint32 { return uint32(n) }

func PutWord(x uint32) string { return bytesOf(x).text() }

func GetWord(s string, i int) uint32 {
	// i + wordLen could wrap for a great i; len(s) - wordLen can't.
	if i < 0 || i > len(s)-wordLen {
		return 0
	}
	var b wordBytes
	copy(b[:], s[i:i+wordLen])
	return b.word()
}
