package tests

import (
	"math"
	"testing"

	"loop.example/g00107/impl"
)

const (
	round     = 1 << 32
	halfWay   = 1 << 31
	topWindow = 2147483647
	topPiece  = 100000
	topBase   = 1099511627776
)

// edgeWords are the places where comparing goes wrong first: where the words come round, and around half the way.
var edgeWords = []uint32{0, 1, 2, 3, 7, 99999, 100000, 1000000, 2147483646, 2147483647, 2147483648, 2147483649, 3000000000, 4294867295, 4294867296, 4294967293, 4294967294, 4294967295}

var badSizes = []int{-1, -2, -topWindow, -round, math.MinInt, topWindow + 1, topWindow + 2, round - 1, round, round + 1, math.MaxInt}

// spread is a fixed row of words that look unordered, so that every run of the tests is the same.
func spread(n int) []uint32 {
	out := make([]uint32, n)
	x := uint64(88172645463325252)
	for i := range out {
		x ^= x << 13
		x ^= x >> 7
		x ^= x << 17
		out[i] = uint32(x >> 16)
	}
	return out
}

// forward is how many steps lead from a to b, reckoned in numbers that do not wrap.
func forward(a, b uint32) int {
	return ((int(b)-int(a))%round + round) % round
}

// pairsOfPlaces gives each pair of edges, and places near, half and nearly half the way round from others.
func pairsOfPlaces(visit func(a, b uint32)) {
	for _, a := range edgeWords {
		for _, b := range edgeWords {
			visit(a, b)
		}
	}
	steps := []uint32{0, 1, 2, 1000, halfWay - 2, halfWay - 1, halfWay, halfWay + 1, halfWay + 2, round - 2, round - 1}
	words := append(spread(200), edgeWords...)
	for i, a := range words {
		for _, d := range steps {
			visit(a, a+d)
		}
		visit(a, words[(i+1)%len(words)])
	}
}

func TestSeqLessByHand(t *testing.T) {
	for _, c := range []struct {
		a, b         uint32
		less, lessEq bool
	}{
		{1, 2, true, true},
		{2, 1, false, false},
		{3, 3, false, true},
		{0, 0, false, true},
		{4294967295, 4294967295, false, true},
		{4294967295, 0, true, true},
		{0, 4294967295, false, false},
		{4294967290, 5, true, true},
		{5, 4294967290, false, false},
		{0, 2147483647, true, true},
		{2147483647, 0, false, false},
		{0, 2147483648, false, false},
		{2147483648, 0, false, false},
		{0, 2147483649, false, false},
		{2147483649, 0, true, true},
		{4294967295, 2147483646, true, true},
		{4294967295, 2147483647, false, false},
		{2147483647, 4294967295, false, false},
		{4294967295, 2147483648, false, false},
	} {
		if got := impl.SeqLess(c.a, c.b); got != c.less {
			t.Errorf("SeqLess(%d, %d) = %v", c.a, c.b, got)
		}
		if got := impl.SeqLessEq(c.a, c.b); got != c.lessEq {
			t.Errorf("SeqLessEq(%d, %d) = %v", c.a, c.b, got)
		}
	}
}

func TestSeqMaxByHand(t *testing.T) {
	for _, c := range [][3]uint32{
		{1, 2, 2},
		{2, 1, 2},
		{7, 7, 7},
		{4294967295, 1, 1},
		{1, 4294967295, 1},
		{0, 2147483647, 2147483647},
		{2147483647, 0, 2147483647},
		{0, 2147483648, 0},
		{2147483648, 0, 2147483648},
		{0, 2147483649, 0},
		{2147483649, 0, 0},
	} {
		if got := impl.SeqMax(c[0], c[1]); got != c[2] {
			t.Errorf("SeqMax(%d, %d) = %d, not %d", c[0], c[1], got, c[2])
		}
	}
}

func TestSeqDistByHand(t *testing.T) {
	for _, c := range []struct {
		a, b uint32
		want int
	}{
		{5, 5, 0},
		{5, 6, 1},
		{6, 5, -1},
		{4294967295, 0, 1},
		{0, 4294967295, -1},
		{4294967295, 1, 2},
		{1, 4294967295, -2},
		{0, 2147483647, 2147483647},
		{2147483647, 0, -2147483647},
		{0, 2147483648, -2147483648},
		{2147483648, 0, -2147483648},
		{0, 2147483649, -2147483647},
		{2147483649, 0, 2147483647},
	} {
		if got := impl.SeqDist(c.a, c.b); got != c.want {
			t.Errorf("SeqDist(%d, %d) = %d, not %d", c.a, c.b, got, c.want)
		}
	}
}

// P1: of two places just one is ahead, unless they are the same or half the way round apart.
func TestJustOneIsAhead(t *testing.T) {
	pairsOfPlaces(func(a, b uint32) {
		ab, ba := impl.SeqLess(a, b), impl.SeqLess(b, a)
		way := forward(a, b)
		if way == 0 || way == halfWay {
			if ab || ba {
				t.Errorf("%d and %d: neither is ahead", a, b)
			}
		} else if ab == ba {
			t.Errorf("%d and %d: just one is ahead", a, b)
		}
		if ab != (way >= 1 && way <= 2147483647) {
			t.Errorf("SeqLess(%d, %d) = %v, with %d steps from one to the other", a, b, ab, way)
		}
		if impl.SeqLessEq(a, b) != (way <= 2147483647) {
			t.Errorf("SeqLessEq(%d, %d), with %d steps from one to the other", a, b, way)
		}
	})
}

func TestMaxAndDistFollowTheOrder(t *testing.T) {
	pairsOfPlaces(func(a, b uint32) {
		way := forward(a, b)
		want := a
		if way >= 1 && way <= 2147483647 {
			want = b
		}
		if got := impl.SeqMax(a, b); got != want {
			t.Errorf("SeqMax(%d, %d) = %d, not %d", a, b, got, want)
		}
		dist := way
		if way >= halfWay {
			dist = way - round
		}
		if got := impl.SeqDist(a, b); got != dist {
			t.Errorf("SeqDist(%d, %d) = %d, not %d", a, b, got, dist)
		}
	})
}

func TestInWindowByHand(t *testing.T) {
	for _, c := range []struct {
		seq, left uint32
		size      int
		want      bool
	}{
		{3, 3, 0, false},
		{3, 3, 1, true},
		{4, 3, 1, false},
		{2, 3, 1, false},
		{4, 3, 2, true},
		{5, 3, 2, false},
		{0, 4294967295, 1, false},
		{0, 4294967295, 2, true},
		{1, 4294967295, 2, false},
		{4294967295, 0, 2147483647, false},
		{0, 0, 2147483647, true},
		{2147483646, 0, 2147483647, true},
		{2147483647, 0, 2147483647, false},
		{2147483648, 0, 2147483647, false},
		{2147483645, 4294967295, 2147483647, true},
		{2147483646, 4294967295, 2147483647, false},
	} {
		if got := impl.InWindow(c.seq, c.left, c.size); got != c.want {
			t.Errorf("InWindow(%d, %d, %d) = %v", c.seq, c.left, c.size, got)
		}
	}
}

// P1: bytes lie in a window as one by one.
func TestWindowHoldsItsPlacesOneByOne(t *testing.T) {
	for _, left := range edgeWords {
		for _, size := range []int{0, 1, 2, 7, 60} {
			in := map[uint32]int{}
			for i := range size {
				in[left+uint32(i)] = 1
			}
			for d := -70; d <= 70; d++ {
				seq := left + uint32(d)
				if got := impl.InWindow(seq, left, size); got != (in[seq] == 1) {
					t.Errorf("InWindow(%d, %d, %d) = %v", seq, left, size, got)
				}
			}
		}
	}
	pairsOfPlaces(func(left, seq uint32) {
		for _, size := range []int{0, 1, 1000, topWindow - 1, topWindow} {
			if got := impl.InWindow(seq, left, size); got != (forward(left, seq) < size) {
				t.Errorf("InWindow(%d, %d, %d) = %v", seq, left, size, got)
			}
		}
	})
}

func TestSizesThatAreNone(t *testing.T) {
	pairsOfPlaces(func(left, seq uint32) {
		for _, size := range badSizes {
			if impl.InWindow(seq, left, size) {
				t.Errorf("InWindow(%d, %d, %d) = true", seq, left, size)
			}
			for _, n := range []int{1, 5, topPiece} {
				if impl.Overlaps(seq, n, left, size) {
					t.Errorf("Overlaps(%d, %d, %d, %d) = true", seq, n, left, size)
				}
			}
		}
	})
}

func TestOverlapsByHand(t *testing.T) {
	for _, c := range []struct {
		seq  uint32
		n    int
		left uint32
		size int
		want bool
	}{
		{3, 1, 3, 1, true},
		{3, 0, 3, 1, false},
		{3, 1, 3, 0, false},
		{2, 1, 3, 1, false},
		{2, 2, 3, 1, true},
		{1, 2, 3, 1, false},
		{1, 3, 3, 1, true},
		{1, 9, 3, 1, true},
		{4, 9, 3, 2, true},
		{5, 9, 3, 2, false},
		{1, 100000, 100000, 1, true},
		{0, 100000, 100000, 1, false},
		{0, 100001, 100000, 1, false},
		{3, 100000, 3, 1, true},
		{3, 100001, 3, 1, false},
		{3, 100001, 3, 2147483647, false},
		{4294967295, 1, 0, 1, false},
		{4294967295, 2, 0, 1, true},
		{0, 1, 4294967295, 2, true},
		{1, 1, 4294967295, 2, false},
		{4294867296, 100000, 0, 2147483647, false},
		{4294867297, 100000, 0, 2147483647, true},
		{2147483646, 1, 0, 2147483647, true},
		{2147483647, 1, 0, 2147483647, false},
		{2147483646, 100000, 0, 2147483647, true},
		{2147483647, 100000, 0, 2147483647, false},
		{1, 2, 3, 2147483647, false},
		{1, 3, 3, 2147483647, true},
	} {
		if got := impl.Overlaps(c.seq, c.n, c.left, c.size); got != c.want {
			t.Errorf("Overlaps(%d, %d, %d, %d) = %v", c.seq, c.n, c.left, c.size, got)
		}
	}
}

// anyWithin asks for each byte of a piece whether it lies in the window.
func anyWithin(seq uint32, n int, left uint32, size int) bool {
	for i := range n {
		if forward(left, seq+uint32(i)) < size {
			return true
		}
	}
	return false
}

// P1: a piece overlaps a window just when one of its bytes, taken one by one, lies in it.
func TestOverlapsAsOneByOne(t *testing.T) {
	for _, left := range []uint32{0, 5, 2147483640, 2147483648, 4294967290, 4294967295} {
		for _, size := range []int{0, 1, 2, 5, 9} {
			for n := 1; n <= 12; n++ {
				for d := -25; d <= 25; d++ {
					seq := left + uint32(d)
					if got := impl.Overlaps(seq, n, left, size); got != anyWithin(seq, n, left, size) {
						t.Errorf("Overlaps(%d, %d, %d, %d) = %v", seq, n, left, size, got)
					}
				}
			}
		}
	}
}

func TestLongPiecesAsOneByOne(t *testing.T) {
	for _, left := range []uint32{0, 50000, 2147483648, 4294967295} {
		for _, size := range []int{1, 99999, topWindow} {
			for _, n := range []int{1, topPiece - 1, topPiece} {
				for _, d := range []int{-n - 1, -n, -n + 1, -1, 0, 1, size - 1, size, size + 1, halfWay} {
					seq := left + uint32(d)
					if got := impl.Overlaps(seq, n, left, size); got != anyWithin(seq, n, left, size) {
						t.Errorf("Overlaps(%d, %d, %d, %d) = %v", seq, n, left, size, got)
					}
				}
			}
		}
	}
}

func TestPiecesThatAreNone(t *testing.T) {
	for _, n := range []int{0, -1, -topPiece, math.MinInt, topPiece + 1, topPiece + 2, round, round + 1, math.MaxInt} {
		for _, size := range []int{1, 10, topWindow} {
			for _, left := range edgeWords {
				for _, d := range []int{-5, -1, 0, 1, 5, size - 1} {
					seq := left + uint32(d)
					if impl.Overlaps(seq, n, left, size) {
						t.Errorf("Overlaps(%d, %d, %d, %d) = true", seq, n, left, size)
					}
				}
			}
		}
	}
}

func TestUnwrapByHand(t *testing.T) {
	for _, c := range []struct {
		base int
		seq  uint32
		want int
	}{
		{0, 0, 0},
		{0, 1, 1},
		{0, 4294967295, -1},
		{0, 2147483647, 2147483647},
		{0, 2147483648, 2147483648},
		{0, 2147483649, -2147483647},
		{1, 2147483649, 2147483649},
		{1, 2147483650, -2147483646},
		{1, 0, 0},
		{1, 4294967295, -1},
		{5000000000, 705032711, 5000000007},
		{5000000000, 705032700, 4999999996},
		{4294967295, 0, 4294967296},
		{4294967296, 4294967295, 4294967295},
		{2147483648, 0, 4294967296},
		{1099511627776, 0, 1099511627776},
		{1099511627776, 2147483648, 1101659111424},
		{1099511627776, 2147483649, 1097364144129},
		{1099511627775, 4294967295, 1099511627775},
		{1099511627775, 2147483647, 1101659111423},
		{1099511627775, 0, 1099511627776},
		{1099511627777, 1, -1},
		{1099511627777, 0, -1},
		{-1, 4294967295, -1},
		{-1, 3, -1},
		{math.MinInt, 3, -1},
		{math.MaxInt, 3, -1},
	} {
		if got := impl.Unwrap(c.base, c.seq); got != c.want {
			t.Errorf("Unwrap(%d, %d) = %d, not %d", c.base, c.seq, got, c.want)
		}
	}
}

// nearest goes through the numbers whose word is seq around base; a later one counts where it is as near.
func nearest(base int, seq uint32) int {
	from := base/round - 2
	best := from*round + int(seq)
	for k := from + 1; k <= from+4; k++ {
		n := k*round + int(seq)
		if max(n-base, base-n) <= max(best-base, base-best) {
			best = n
		}
	}
	return best
}

func TestUnwrapIsNearest(t *testing.T) {
	bases := []int{0, 1, halfWay - 1, halfWay, halfWay + 1, round - 1, round, round + 1, 5000000000, topBase - halfWay, topBase - 1, topBase}
	for i, w := range spread(200) {
		bases = append(bases, int(w)+i*5000000000)
	}
	for _, base := range bases {
		w := impl.Word(base)
		seqs := append([]uint32{w, w - 1, w + 1, w + halfWay - 1, w + halfWay, w + halfWay + 1}, edgeWords...)
		for _, seq := range seqs {
			got := impl.Unwrap(base, seq)
			if got != nearest(base, seq) {
				t.Errorf("Unwrap(%d, %d) = %d, not %d", base, seq, got, nearest(base, seq))
			}
			if impl.Word(got) != seq {
				t.Errorf("Unwrap(%d, %d) = %d, which has another word", base, seq, got)
			}
		}
	}
}

func TestWord(t *testing.T) {
	for _, c := range []struct {
		n    int
		want uint32
	}{
		{0, 0},
		{1, 1},
		{-1, 4294967295},
		{-2147483648, 2147483648},
		{4294967295, 4294967295},
		{4294967296, 0},
		{4294967297, 1},
		{-4294967296, 0},
		{-4294967297, 4294967295},
		{5000000000, 705032704},
		{math.MaxInt, 4294967295},
		{math.MinInt, 0},
	} {
		if got := impl.Word(c.n); got != c.want {
			t.Errorf("Word(%d) = %d, not %d", c.n, got, c.want)
		}
	}
}

func TestBytesOfWords(t *testing.T) {
	for _, c := range []struct {
		x    uint32
		want string
	}{
		{0, "\x00\x00\x00\x00"},
		{1, "\x00\x00\x00\x01"},
		{258, "\x00\x00\x01\x02"},
		{16909060, "\x01\x02\x03\x04"},
		{2147483648, "\x80\x00\x00\x00"},
		{4278255360, "\xff\x00\xff\x00"},
		{4294967295, "\xff\xff\xff\xff"},
	} {
		if got := impl.PutWord(c.x); got != c.want {
			t.Errorf("PutWord(%d) = %q, not %q", c.x, got, c.want)
		}
		if got := impl.GetWord(c.want, 0); got != c.x {
			t.Errorf("GetWord(%q, 0) = %d, not %d", c.want, got, c.x)
		}
	}
	for _, x := range append(spread(500), edgeWords...) {
		if got := impl.GetWord("ab"+impl.PutWord(x)+"c", 2); got != x {
			t.Errorf("%d came back as %d", x, got)
		}
	}
}

func TestGetWordAtItsEdges(t *testing.T) {
	const s = "\x01\x02\x03\x04\x05\xf6"
	for _, c := range []struct {
		s    string
		i    int
		want uint32
	}{
		{s, 0, 16909060},
		{s, 1, 33752069},
		{s, 2, 50595318},
		{s, 3, 0},
		{s, 5, 0},
		{s, 6, 0},
		{s, 7, 0},
		{s, -1, 0},
		{s, -4, 0},
		{s, -6, 0},
		{s, round, 0},
		{s, -round, 0},
		{s, math.MaxInt, 0},
		{s, math.MaxInt - 3, 0},
		{s, math.MaxInt - 4, 0},
		{s, math.MinInt, 0},
		{"", 0, 0},
		{"", -4, 0},
		{"\xff", 0, 0},
		{"\xff\xff\xff", 0, 0},
		{"\xff\xff\xff", -1, 0},
		{"\xff\xff\xff\xff", 0, 4294967295},
		{"\xff\xff\xff\xff", 1, 0},
		{"\xff\xff\xff\xff", -1, 0},
	} {
		if got := impl.GetWord(c.s, c.i); got != c.want {
			t.Errorf("GetWord(%q, %d) = %d, not %d", c.s, c.i, got, c.want)
		}
	}
}
