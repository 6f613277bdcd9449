package tests

import (
	"fmt"
	"math"
	"strconv"
	"strings"
	"testing"
	"unsafe"

	"loop.example/g00107/impl"
)

const (
	segHead   = 20
	optHead   = 24
	topSeg    = 536
	segSumAt  = 16
	hostHere  = 167772161
	hostThere = 3232235521
)

// shownSeg tells a segment without all of its data.
func shownSeg(s impl.Seg) string {
	return fmt.Sprintf("%d > %d, Seq %d, Ack %d, Flags %d, Win %d, Mss %d, %s", s.From, s.To, s.Seq, s.Ack, s.Flags, s.Win, s.Mss, short(s.Data))
}

// withSegSum is s with the right sum of a segment, reckoned by the weights of the bytes of both parts at once.
func withSegSum(src, dst uint32, s string) string {
	bare := s[:segSumAt] + "\x00\x00" + s[segSumAt+2:]
	pseudo := int(src/65536) + int(src%65536) + int(dst/65536) + int(dst%65536) + 6 + len(s)
	return s[:segSumAt] + twoBytes(topHalf-ones(pseudo+total(bare))) + s[segSumAt+2:]
}

// segBytes writes a segment byte by byte, whether or not its numbers are within their bounds.
func segBytes(src, dst uint32, s impl.Seg) string {
	b := []byte{
		byte(s.From / 256), byte(s.From % 256), byte(s.To / 256), byte(s.To % 256),
		byte(s.Seq / 16777216), byte(s.Seq / 65536), byte(s.Seq / 256), byte(s.Seq),
		byte(s.Ack / 16777216), byte(s.Ack / 65536), byte(s.Ack / 256), byte(s.Ack),
		80, byte(s.Flags), byte(s.Win / 256), byte(s.Win % 256), 0, 0, 0, 0,
	}
	if s.Mss != 0 {
		b[12] = 96
		b = append(b, 2, 4, byte(s.Mss/256), byte(s.Mss%256))
	}
	return withSegSum(src, dst, string(b)+s.Data)
}

// headOf is how many bytes of a segment's text are ahead of its data.
func headOf(s impl.Seg) int {
	if s.Mss != 0 {
		return optHead
	}
	return segHead
}

// someSegs are a segment of each shape.
func someSegs() []impl.Seg {
	return []impl.Seg{
		{From: 1, To: 1},
		{From: 80, To: 4000, Seq: 16909060, Ack: 84281096, Flags: 24, Win: 2048, Data: "hello"},
		{From: 4000, To: 80, Seq: 4294967295, Flags: 2, Win: 4096, Mss: 536},
		{From: 65535, To: 65535, Seq: 4294967295, Ack: 4294967295, Flags: 31, Win: 65535, Mss: 1460, Data: strings.Repeat("\xff", topSeg)},
		{From: 7, To: 9, Seq: 65535, Ack: 4294901760, Flags: 17, Data: "\x00\x00\xff\xff\x00"},
		{From: 255, To: 256, Flags: 18, Win: 1, Mss: 64, Data: "ab"},
		{From: 5, To: 6, Flags: 2, Data: "\x02\x04\x02\x18rest"},
	}
}

// edgeSegs are segments with each field at its bounds, and some ordinary ones.
func edgeSegs() []impl.Seg {
	out := someSegs()
	base := impl.Seg{From: 80, To: 4000, Seq: 1, Ack: 2, Flags: 16, Win: 512, Data: "data"}
	add := func(change func(s *impl.Seg)) {
		s := base
		change(&s)
		out = append(out, s)
	}
	for _, n := range []int{1, 2, 255, 256, 32768, 65534, 65535} {
		add(func(s *impl.Seg) { s.From = n })
		add(func(s *impl.Seg) { s.To = n })
		add(func(s *impl.Seg) { s.Win = n })
	}
	for _, x := range edgeWords {
		add(func(s *impl.Seg) { s.Seq = x })
		add(func(s *impl.Seg) { s.Ack = x })
	}
	for flags := range 32 {
		add(func(s *impl.Seg) { s.Flags, s.Win = flags, 0 })
		if flags&2 != 0 {
			for _, mss := range []int{64, 65, 255, 256, 1459, 1460} {
				add(func(s *impl.Seg) { s.Flags, s.Mss = flags, mss })
			}
		}
	}
	for _, n := range []int{0, 1, 2, 3, topSeg - 1, topSeg} {
		add(func(s *impl.Seg) { s.Data = bytesFrom(n, n) })
		add(func(s *impl.Seg) { s.Data, s.Flags, s.Mss = bytesFrom(n, n), 2, 1000 })
	}
	return out
}

// noSeg holds that a text is no segment, and that nothing is told of it.
func noSeg(t *testing.T, why string, src, dst uint32, s string) {
	t.Helper()
	if g, ok := impl.GetSeg(src, dst, s); ok || g != (impl.Seg{}) {
		t.Errorf("%s: GetSeg(%d, %d, %s) = %s, %v", why, src, dst, short(s), shownSeg(g), ok)
	}
}

// isSeg holds that a text is just this segment.
func isSeg(t *testing.T, src, dst uint32, s string, want impl.Seg) {
	t.Helper()
	if g, ok := impl.GetSeg(src, dst, s); !ok || g != want {
		t.Errorf("GetSeg(%d, %d, %s) = %s, %v, not %s", src, dst, short(s), shownSeg(g), ok, shownSeg(want))
	}
}

func TestSegConstants(t *testing.T) {
	got := []int{impl.FlagFin, impl.FlagSyn, impl.FlagRst, impl.FlagPush, impl.FlagAck, impl.MaxSeg, impl.SegLen}
	for i, want := range []int{1, 2, 4, 8, 16, 536, 20} {
		if got[i] != want {
			t.Errorf("constant %d is %d, not %d", i, got[i], want)
		}
	}
}

func TestPutSegByHand(t *testing.T) {
	for _, c := range []struct {
		src, dst uint32
		s        impl.Seg
		want     string
	}{
		{0, 0, impl.Seg{From: 1, To: 1},
			"\x00\x01\x00\x01\x00\x00\x00\x00\x00\x00\x00\x00\x50\x00\x00\x00\xaf\xe3\x00\x00"},
		{0, 0, impl.Seg{From: 258, To: 772, Seq: 84281096, Ack: 151653132, Flags: 16, Win: 3342, Data: "a"},
			"\x01\x02\x03\x04\x05\x06\x07\x08\x09\x0a\x0b\x0c\x50\x10\x0d\x0e\x1d\x9c\x00\x00a"},
		{10, 20, impl.Seg{From: 1, To: 2, Seq: 3, Ack: 4, Flags: 18, Win: 5, Mss: 100},
			"\x00\x01\x00\x02\x00\x00\x00\x03\x00\x00\x00\x04\x60\x12\x00\x05\x9d\x3a\x00\x00\x02\x04\x00\x64"},
		{4294967295, 4294967295, impl.Seg{From: 65535, To: 65535, Seq: 4294967295, Ack: 4294967295, Flags: 31, Win: 65535, Mss: 1460},
			"\xff\xff\xff\xff\xff\xff\xff\xff\xff\xff\xff\xff\x60\x1f\xff\xff\x98\x0a\x00\x00\x02\x04\x05\xb4"},
		// The sum is 0 here: To is what it would be else.
		{0, 0, impl.Seg{From: 1, To: 45028},
			"\x00\x01\xaf\xe4\x00\x00\x00\x00\x00\x00\x00\x00\x50\x00\x00\x00\x00\x00\x00\x00"},
	} {
		if got := impl.PutSeg(c.src, c.dst, c.s); got != c.want {
			t.Errorf("PutSeg(%d, %d, %s) = %q, not %q", c.src, c.dst, shownSeg(c.s), got, c.want)
		}
		isSeg(t, c.src, c.dst, c.want, c.s)
	}
}

// segHolds holds SegOk, and all that hangs on it, against what is wanted.
func segHolds(t *testing.T, s impl.Seg, want bool) {
	t.Helper()
	if got := impl.SegOk(s); got != want {
		t.Errorf("SegOk(%s) = %v", shownSeg(s), got)
	}
	got := impl.PutSeg(hostHere, hostThere, s)
	if !want && got != "" || want && got != segBytes(hostHere, hostThere, s) {
		t.Errorf("PutSeg of %s = %s", shownSeg(s), short(got))
	}
	if line := impl.SegText(s); (line != "") != want {
		t.Errorf("SegText(%s) = %q", shownSeg(s), line)
	}
}

func TestSegBounds(t *testing.T) {
	numbers := []int{math.MinInt, math.MinInt + 2, -round, -round + 80, -65536, -65535, -2, -1, 0, 1, 2, 30, 31, 32, 33, 63, 64, 65, 1459, 1460, 1461,
		65534, 65535, 65536, 65537, 65538, round, round + 2, round + 80, math.MaxInt}
	for _, n := range numbers {
		port := 1 <= n && n <= topHalf
		segHolds(t, impl.Seg{From: n, To: 80, Flags: 16, Data: "x"}, port)
		segHolds(t, impl.Seg{From: 80, To: n, Flags: 16, Data: "x"}, port)
		segHolds(t, impl.Seg{From: 80, To: 81, Flags: n, Data: "x"}, 0 <= n && n <= 31)
		segHolds(t, impl.Seg{From: 80, To: 81, Flags: 16, Win: n}, 0 <= n && n <= topHalf)
		for flags := range 32 {
			withSyn := flags&2 != 0
			segHolds(t, impl.Seg{From: 80, To: 81, Flags: flags, Mss: n}, n == 0 || withSyn && 64 <= n && n <= 1460)
		}
		for _, mss := range []int{64, 1460} {
			segHolds(t, impl.Seg{From: 80, To: 81, Flags: n, Mss: mss}, n == 2 || n == 30 || n == 31)
		}
	}
	for _, n := range []int{0, 1, 2, topSeg - 1, topSeg, topSeg + 1, topSeg + 2, 1460, topDatagram, topDatagram + 1, 70000} {
		for _, fill := range []string{"\x00", "d", "\xff"} {
			segHolds(t, impl.Seg{From: 1, To: 2, Flags: 16, Data: strings.Repeat(fill, n)}, n <= topSeg)
			segHolds(t, impl.Seg{From: 1, To: 2, Flags: 2, Mss: 64, Data: strings.Repeat(fill, n)}, n <= topSeg)
		}
	}
	segHolds(t, impl.Seg{}, false)
	segHolds(t, impl.Seg{From: 1, To: 1}, true)
	segHolds(t, impl.Seg{From: 65535, To: 65535, Flags: 31, Win: 65535, Mss: 1460, Data: strings.Repeat("x", topSeg)}, true)
}

// P4: segments come back from their bytes.
func TestSegmentsComeBack(t *testing.T) {
	for _, g := range edgeSegs() {
		for _, src := range edgeWords {
			for _, dst := range []uint32{0, hostThere, 4294967295} {
				s := impl.PutSeg(src, dst, g)
				if want := segBytes(src, dst, g); s != want {
					t.Errorf("PutSeg(%d, %d, %s) = %s, not %s", src, dst, shownSeg(g), short(s), short(want))
				}
				isSeg(t, src, dst, s, g)
				if len(s) != headOf(g)+len(g.Data) {
					t.Errorf("PutSeg(%d, %d, %s) has %d bytes", src, dst, shownSeg(g), len(s))
				}
				pseudo := impl.PseudoSum(src, dst, 6, len(s))
				if got := ones(pseudo + impl.OnesSum(s)); got != topHalf {
					t.Errorf("both parts of %s sum to %d", shownSeg(g), got)
				}
			}
		}
	}
}

// The sum takes in both hosts; only where their halves come to the same it can't tell them from others.
func TestSegmentsBetweenOtherHosts(t *testing.T) {
	hosts := append([]uint32{hostHere, hostThere, hostHere + 1, hostThere - 1}, edgeWords...)
	weight := func(a, b uint32) int { return int(a/65536) + int(a%65536) + int(b/65536) + int(b%65536) }
	apart := 0
	for _, g := range someSegs() {
		s := segBytes(hostHere, hostThere, g)
		for _, src := range hosts {
			for _, dst := range hosts {
				if weight(src, dst)%topHalf == weight(hostHere, hostThere)%topHalf {
					isSeg(t, src, dst, s, g)
					continue
				}
				apart++
				noSeg(t, "other hosts", src, dst, s)
			}
		}
	}
	if apart < 200 {
		t.Errorf("only %d pairs of other hosts", apart)
	}
}

func TestTextsThatAreTooShortForASegment(t *testing.T) {
	noSeg(t, "nothing", 0, 0, "")
	noSeg(t, "noughts", 0, 0, strings.Repeat("\x00", segHead))
	for _, g := range edgeSegs() {
		s := segBytes(1, 2, g)
		for n := range headOf(g) {
			cut := s[:n]
			noSeg(t, "cut", 1, 2, cut)
			if n >= segSumAt+2 {
				noSeg(t, "cut, with its sum", 1, 2, withSegSum(1, 2, cut))
			}
		}
		noSeg(t, "the first byte is gone", 1, 2, s[1:])
		if len(g.Data) > 0 {
			noSeg(t, "one byte less", 1, 2, s[:len(s)-1])
		}
		for _, more := range []string{"\x00", "x", "\xff"} {
			noSeg(t, "one byte more", 1, 2, s+more)
		}
	}
}

// A header that tells an option and ends ahead of it is none, nor is one without an option that tells one.
func TestOptionsThatAreNotThere(t *testing.T) {
	g := impl.Seg{From: 80, To: 81, Seq: 5, Flags: 2, Win: 9, Mss: 1460}
	s := segBytes(3, 4, g)
	for n := segHead; n < optHead; n++ {
		noSeg(t, "ends ahead of its option", 3, 4, withSegSum(3, 4, s[:n]))
	}
	plain := withSegSum(3, 4, changed(s, 12, 80))
	isSeg(t, 3, 4, plain, impl.Seg{From: 80, To: 81, Seq: 5, Flags: 2, Win: 9, Data: "\x02\x04\x05\xb4"})
	told := withSegSum(3, 4, changed(plain[:segHead]+"data and more", 12, 96))
	noSeg(t, "data in place of an option", 3, 4, told)
}

func TestWrongOptionsWithTheSumMadeRight(t *testing.T) {
	g := impl.Seg{From: 80, To: 81, Seq: 5, Flags: 18, Win: 9, Mss: 1000, Data: "abc"}
	s := segBytes(3, 4, g)
	for c := range topByte + 1 {
		if c != 2 {
			noSeg(t, "an option's kind", 3, 4, withSegSum(3, 4, changed(s, 20, byte(c))))
		}
		if c != 4 {
			noSeg(t, "an option's length", 3, 4, withSegSum(3, 4, changed(s, 21, byte(c))))
		}
		if c != 96 && c != 80 {
			noSeg(t, "a byte other than 80 and 96", 3, 4, withSegSum(3, 4, changed(s, 12, byte(c))))
		}
	}
	for _, mss := range []int{0, 1, 2, 62, 63, 64, 65, 1459, 1460, 1461, 1462, 32768, 65535} {
		other := withSegSum(3, 4, s[:22]+twoBytes(mss)+s[24:])
		if 64 <= mss && mss <= 1460 {
			q := g
			q.Mss = mss
			isSeg(t, 3, 4, other, q)
		} else {
			noSeg(t, "an Mss of "+strconv.Itoa(mss), 3, 4, other)
		}
	}
	for flags := range topByte + 1 {
		other := withSegSum(3, 4, changed(s, 13, byte(flags)))
		if flags <= 31 && flags&2 != 0 {
			q := g
			q.Flags = flags
			isSeg(t, 3, 4, other, q)
		} else {
			noSeg(t, "an option beside flags "+strconv.Itoa(flags), 3, 4, other)
		}
	}
}

func TestEachByteOfASegmentChanged(t *testing.T) {
	for i, g := range edgeSegs() {
		s := segBytes(hostHere, hostThere, g)
		for at := range len(s) {
			if at >= headOf(g)+6 && at < len(s)-2 {
				continue
			}
			for c := 1; c <= topByte; c += 1 + i%7*5 {
				noSeg(t, "byte "+strconv.Itoa(at), hostHere, hostThere, changed(s, at, s[at]^byte(c)))
			}
		}
	}
}

// segFrom reads a text of even places field by field, with no question whether it is a segment.
func segFrom(s string) impl.Seg {
	g := impl.Seg{
		From: halfAt(s, 0), To: halfAt(s, 1), Seq: wordAt(s, 4), Ack: wordAt(s, 8),
		Flags: int(s[13]), Win: halfAt(s, 7), Data: s[segHead:],
	}
	if s[12] == 96 {
		g.Mss, g.Data = halfAt(s, 11), s[optHead:]
	}
	return g
}

// With the sum made right, what the fields may be is all that counts.
func TestBytesOfASegmentWithTheSumMadeRight(t *testing.T) {
	for _, g := range someSegs() {
		s := segBytes(1, 2, g)
		for at := range segHead {
			if at == 12 || at == segSumAt || at == segSumAt+1 {
				continue
			}
			for c := range topByte + 1 {
				other := withSegSum(1, 2, changed(s, at, byte(c)))
				q := segFrom(other)
				right := q.From > 0 && q.To > 0 && q.Flags <= 31 && (q.Mss == 0 || q.Flags&2 != 0) && other[18] == 0 && other[19] == 0
				if right {
					isSeg(t, 1, 2, other, q)
				} else {
					noSeg(t, "byte "+strconv.Itoa(at)+" with its sum", 1, 2, other)
				}
			}
		}
	}
}

// Where the sum must be 0, both parts sum to all ones with 65535 in its place too; that is another text.
func TestSegmentSumOfAllOnes(t *testing.T) {
	for _, g := range edgeSegs() {
		g.Win = 0
		g.Win = halfAt(segBytes(8, 9, g), segSumAt/2)
		s := segBytes(8, 9, g)
		if halfAt(s, segSumAt/2) != 0 {
			t.Fatalf("the sum of %s is not 0", shownSeg(g))
		}
		isSeg(t, 8, 9, s, g)
		spoilt := s[:segSumAt] + "\xff\xff" + s[segSumAt+2:]
		if impl.TurnShows(s, segSumAt/2, topHalf) {
			t.Errorf("%s shows", short(spoilt))
		}
		noSeg(t, "a sum of 255 255", 8, 9, spoilt)
	}
}

func TestSegmentsBeyondTheLimit(t *testing.T) {
	for _, n := range []int{topSeg - 1, topSeg, topSeg + 1, topSeg + 2, topSeg + 4, 1460, topDatagram - segHead, topDatagram, 65515, 70000} {
		for _, fill := range []string{"\x00", "\xff", "q"} {
			for _, mss := range []int{0, 536} {
				g := impl.Seg{From: 1, To: 2, Flags: 2, Win: 3, Mss: mss, Data: strings.Repeat(fill, n)}
				if s := segBytes(5, 6, g); n <= topSeg {
					isSeg(t, 5, 6, s, g)
				} else {
					noSeg(t, "too long", 5, 6, s)
				}
			}
		}
	}
}

// P4: spoilt where that shows they do not come back.
func TestHalvesOfASegmentTurned(t *testing.T) {
	hidden := 0
	for _, g := range edgeSegs() {
		s := segBytes(hostHere, hostThere, g)
		for k := range len(s) / 2 {
			if k > optHead/2+2 && k < len(s)/2-2 {
				continue
			}
			for _, x := range edgeTurns {
				spoilt := impl.Turned(s, k, x)
				if impl.TurnShows(s, k, x) {
					noSeg(t, "half "+strconv.Itoa(k)+" turned by "+strconv.Itoa(x), hostHere, hostThere, spoilt)
					continue
				}
				hidden++
				hiddenInSegment(t, spoilt, k)
			}
		}
	}
	if hidden < 100 {
		t.Errorf("only %d turns that don't show", hidden)
	}
}

// hiddenInSegment holds what becomes of a segment of which a half went from 0 to 65535 or back: another one, unless that half must be what it was.
func hiddenInSegment(t *testing.T, spoilt string, k int) {
	t.Helper()
	g := segFrom(spoilt)
	if k == segSumAt/2 || k == segSumAt/2+1 || g.From == 0 || g.To == 0 {
		noSeg(t, "half "+strconv.Itoa(k)+" turned and hidden", hostHere, hostThere, spoilt)
		return
	}
	isSeg(t, hostHere, hostThere, spoilt, g)
}

func TestSegmentDataIsNewMemory(t *testing.T) {
	for _, mss := range []int{0, 99} {
		g := impl.Seg{From: 1, To: 2, Flags: 2, Mss: mss, Data: "some data"}
		s := segBytes(1, 2, g)
		got, _ := impl.GetSeg(1, 2, s)
		if got != g || unsafe.StringData(got.Data) == unsafe.StringData(s[headOf(g):]) {
			t.Errorf("GetSeg(%s) hands out a part of its argument: %s", short(s), shownSeg(got))
		}
	}
}

func TestSegSpan(t *testing.T) {
	for _, c := range []struct{ flags, more int }{
		{0, 0}, {1, 1}, {2, 1}, {3, 2}, {4, 0}, {8, 0}, {16, 0}, {17, 1}, {18, 1}, {19, 2}, {28, 0}, {29, 1}, {30, 1}, {31, 2},
		{32, 0}, {33, 1}, {34, 1}, {35, 2}, {64, 0}, {255, 2}, {256, 0}, {65536, 0}, {65538, 1}, {round, 0}, {round + 3, 2},
		{math.MaxInt, 2}, {math.MaxInt - 1, 1}, {math.MaxInt - 2, 1}, {math.MaxInt - 3, 0},
		{-1, 0}, {-2, 0}, {-3, 0}, {-4, 0}, {-31, 0}, {-65533, 0}, {math.MinInt, 0}, {math.MinInt + 1, 0}, {math.MinInt + 3, 0},
	} {
		for _, n := range []int{0, 1, 5, topSeg, topSeg + 1, 3000} {
			s := impl.Seg{Flags: c.flags, Data: strings.Repeat("d", n)}
			if got := impl.SegSpan(s); got != n+c.more {
				t.Errorf("SegSpan(%s) = %d, not %d", shownSeg(s), got, n+c.more)
			}
			s.From, s.To, s.Win, s.Mss = -1, 65536, -7, 5
			if got := impl.SegSpan(s); got != n+c.more {
				t.Errorf("SegSpan(%s) = %d, not %d", shownSeg(s), got, n+c.more)
			}
		}
	}
}

func TestSegText(t *testing.T) {
	for _, c := range []struct {
		s    impl.Seg
		want string
	}{
		{impl.Seg{From: 1, To: 1}, "1 > 1 0 0 - 0 0 0"},
		{impl.Seg{From: 1, To: 2, Seq: 3, Ack: 4, Flags: 1, Win: 5, Data: "sixsix"}, "1 > 2 3 4 F 5 0 6"},
		{impl.Seg{From: 1, To: 2, Seq: 3, Ack: 4, Flags: 2, Win: 5}, "1 > 2 3 4 S 5 0 0"},
		{impl.Seg{From: 1, To: 2, Seq: 3, Ack: 4, Flags: 4, Win: 5}, "1 > 2 3 4 R 5 0 0"},
		{impl.Seg{From: 1, To: 2, Seq: 3, Ack: 4, Flags: 8, Win: 5}, "1 > 2 3 4 P 5 0 0"},
		{impl.Seg{From: 1, To: 2, Seq: 3, Ack: 4, Flags: 16, Win: 5}, "1 > 2 3 4 A 5 0 0"},
		{impl.Seg{From: 1, To: 2, Seq: 3, Ack: 4, Flags: 18, Win: 5, Mss: 100}, "1 > 2 3 4 SA 5 100 0"},
		{impl.Seg{From: 1, To: 2, Seq: 3, Ack: 4, Flags: 20}, "1 > 2 3 4 AR 0 0 0"},
		{impl.Seg{From: 1, To: 2, Seq: 3, Ack: 4, Flags: 13}, "1 > 2 3 4 FRP 0 0 0"},
		{impl.Seg{From: 1, To: 2, Seq: 3, Ack: 4, Flags: 25}, "1 > 2 3 4 AFP 0 0 0"},
		{impl.Seg{From: 65535, To: 65535, Seq: 4294967295, Ack: 4294967295, Flags: 31, Win: 65535, Mss: 1460, Data: strings.Repeat("\xff", topSeg)},
			"65535 > 65535 4294967295 4294967295 SAFRP 65535 1460 536"},
		{impl.Seg{From: 80, To: 8080, Seq: 2147483648, Ack: 10, Flags: 2, Mss: 64, Data: "a b\n"}, "80 > 8080 2147483648 10 S 0 64 4"},
	} {
		if got := impl.SegText(c.s); got != c.want {
			t.Errorf("SegText(%s) = %q, not %q", shownSeg(c.s), got, c.want)
		}
	}
	for flags := range 32 {
		want := ""
		for _, f := range []struct {
			bit    int
			letter string
		}{{2, "S"}, {16, "A"}, {1, "F"}, {4, "R"}, {8, "P"}} {
			if flags/f.bit%2 == 1 {
				want += f.letter
			}
		}
		if want == "" {
			want = "-"
		}
		if got := impl.SegText(impl.Seg{From: 9, To: 8, Flags: flags}); got != "9 > 8 0 0 "+want+" 0 0 0" {
			t.Errorf("SegText with Flags %d = %q", flags, got)
		}
	}
}

// datagramBytes writes a datagram byte by byte; its segment has the ports of the two addresses.
func datagramBytes(src, dst impl.Addr, id, ttl, proto int, s impl.Seg) string {
	s.From, s.To = src.Port, dst.Port
	return packetBytes(impl.Packet{Src: src.Host, Dst: dst.Host, Id: id, Ttl: ttl, Proto: proto, Data: segBytes(src.Host, dst.Host, s)})
}

// noDatagram holds that a text is no datagram, and that nothing is told of it.
func noDatagram(t *testing.T, why, d string) {
	t.Helper()
	if a, b, g, ok := impl.GetDatagram(d); ok || a != (impl.Addr{}) || b != (impl.Addr{}) || g != (impl.Seg{}) {
		t.Errorf("%s: GetDatagram(%s) = %v, %v, %s, %v", why, short(d), a, b, shownSeg(g), ok)
	}
}

// isDatagram holds that a text is just this datagram.
func isDatagram(t *testing.T, d string, src, dst impl.Addr, want impl.Seg) {
	t.Helper()
	if a, b, g, ok := impl.GetDatagram(d); !ok || a != src || b != dst || g != want {
		t.Errorf("GetDatagram(%s) = %v, %v, %s, %v, not %v, %v, %s", short(d), a, b, shownSeg(g), ok, src, dst, shownSeg(want))
	}
}

// P4: datagrams come back from their bytes.
func TestDatagramsComeBack(t *testing.T) {
	ends := []impl.Addr{{Host: 0, Port: 1}, {Host: hostHere, Port: 80}, {Host: hostThere, Port: 32768}, {Host: 4294967295, Port: 65535}}
	for i, g := range edgeSegs() {
		for _, src := range ends {
			for _, dst := range ends {
				id := i * 331 % 65536
				d := impl.PutDatagram(src, dst, id, g)
				if want := datagramBytes(src, dst, id, 64, 6, g); d != want {
					t.Errorf("PutDatagram(%v, %v, %d, %s) = %s, not %s", src, dst, id, shownSeg(g), short(d), short(want))
				}
				want := g
				want.From, want.To = src.Port, dst.Port
				isDatagram(t, d, src, dst, want)
			}
		}
	}
}

// datagramHolds holds whether there is a datagram of this, and which.
func datagramHolds(t *testing.T, src, dst impl.Addr, id int, s impl.Seg, want bool) {
	t.Helper()
	d := impl.PutDatagram(src, dst, id, s)
	if !want && d != "" || want && d != datagramBytes(src, dst, id, 64, 6, s) {
		t.Errorf("PutDatagram(%v, %v, %d, %s) = %s", src, dst, id, shownSeg(s), short(d))
	}
}

func TestDatagramBounds(t *testing.T) {
	a, b := impl.Addr{Host: 7, Port: 80}, impl.Addr{Host: 9, Port: 90}
	good := impl.Seg{From: 1, To: 2, Flags: 16, Data: "abc"}
	for _, n := range []int{math.MinInt, -65535, -1, 0, 1, 2, 65534, 65535, 65536, 65537, round, round + 80, math.MaxInt} {
		port := 1 <= n && n <= topHalf
		datagramHolds(t, impl.Addr{Host: 7, Port: n}, b, 5, good, port)
		datagramHolds(t, a, impl.Addr{Host: 9, Port: n}, 5, good, port)
		datagramHolds(t, a, b, n, good, 0 <= n && n <= topHalf)
		// What s says of its ports doesn't count.
		datagramHolds(t, a, b, 5, impl.Seg{From: n, To: n, Flags: 16, Data: "abc"}, true)
		datagramHolds(t, impl.Addr{Host: 7}, b, 5, impl.Seg{From: n, To: 2}, false)
		datagramHolds(t, a, impl.Addr{Host: 9}, 5, impl.Seg{From: 1, To: n}, false)
		datagramHolds(t, a, b, 5, impl.Seg{Flags: n}, n >= 0 && n <= 31)
		datagramHolds(t, a, b, 5, impl.Seg{Win: n}, n >= 0 && n <= topHalf)
		datagramHolds(t, a, b, 5, impl.Seg{Flags: 2, Mss: n}, n == 0)
	}
	for _, n := range []int{0, 1, topSeg - 1, topSeg, topSeg + 1, topDatagram} {
		datagramHolds(t, a, b, 5, impl.Seg{Data: strings.Repeat("x", n)}, n <= topSeg)
		datagramHolds(t, a, b, 5, impl.Seg{Flags: 2, Mss: 1460, Data: strings.Repeat("x", n)}, n <= topSeg)
	}
	datagramHolds(t, a, b, 5, impl.Seg{Flags: 16, Mss: 100}, false)
	datagramHolds(t, a, a, 5, good, true)
}

// A datagram is one with any Id and any Ttl that a packet may have, but with one Proto.
func TestDatagramsOfOtherPackets(t *testing.T) {
	a, b := impl.Addr{Host: 7, Port: 80}, impl.Addr{Host: 9, Port: 90}
	g := impl.Seg{From: 80, To: 90, Seq: 5, Flags: 18, Mss: 64, Data: "abc"}
	for n := range topByte + 1 {
		isDatagram(t, datagramBytes(a, b, n*257, n, 6, g), a, b, g)
		if n != 6 {
			noDatagram(t, "Proto "+strconv.Itoa(n), datagramBytes(a, b, 1, 64, n, g))
		}
	}
	for d, ok := impl.Hop(impl.PutDatagram(a, b, 1, g)); ok; d, ok = impl.Hop(d) {
		isDatagram(t, d, a, b, g)
	}
}

func TestTextsThatAreNoDatagram(t *testing.T) {
	noDatagram(t, "nothing", "")
	seg := segBytes(7, 9, impl.Seg{From: 80, To: 90, Flags: 2, Mss: 64, Data: "abc"})
	noDatagram(t, "a segment alone", seg)
	packet := func(data string) string {
		return packetBytes(impl.Packet{Src: 7, Dst: 9, Id: 1, Ttl: 64, Proto: 6, Data: data})
	}
	isDatagram(t, packet(seg), impl.Addr{Host: 7, Port: 80}, impl.Addr{Host: 9, Port: 90}, segFrom(seg))
	for n := range len(seg) {
		noDatagram(t, "a segment cut", packet(seg[:n]))
		noDatagram(t, "a segment changed", packet(changed(seg, n, seg[n]^1)))
		noDatagram(t, "a datagram cut", packet(seg)[:headLen+n])
	}
	noDatagram(t, "one byte more", packet(seg)+"x")
	noDatagram(t, "a longer segment", packet(seg+"x"))
	noDatagram(t, "a segment between other hosts", packet(segBytes(7, 8, segFrom(seg))))
	noDatagram(t, "noughts", packet(strings.Repeat("\x00", segHead)))
	for _, n := range []int{topSeg + 1, 1000, topData - segHead, topData - segHead + 1} {
		long := impl.Seg{From: 80, To: 90, Data: strings.Repeat("x", n)}
		noDatagram(t, "a segment too long", packet(segBytes(7, 9, long)))
	}
	for _, from := range []int{0, 1} {
		for _, to := range []int{0, 1} {
			d := packet(segBytes(7, 9, impl.Seg{From: from, To: to}))
			if from == 0 || to == 0 {
				noDatagram(t, "a port of 0", d)
			} else {
				isDatagram(t, d, impl.Addr{Host: 7, Port: 1}, impl.Addr{Host: 9, Port: 1}, impl.Seg{From: 1, To: 1})
			}
		}
	}
}

// P4: a datagram that is spoilt where that shows does not come back; neither sum hides what the other one shows.
func TestHalvesOfADatagramTurned(t *testing.T) {
	a, b := impl.Addr{Host: 0, Port: 80}, impl.Addr{Host: 4294967295, Port: 65535}
	hidden := 0
	for _, g := range someSegs() {
		d := datagramBytes(a, b, 0, 64, 6, g)
		for k := range len(d) / 2 {
			part, at := d[:headLen], k
			if k >= headLen/2 {
				part, at = d[headLen:], k-headLen/2
			}
			for _, x := range edgeTurns {
				spoilt := impl.Turned(d, k, x)
				if impl.TurnShows(part, at, x) {
					noDatagram(t, "half "+strconv.Itoa(k)+" turned by "+strconv.Itoa(x), spoilt)
					continue
				}
				hidden++
				hiddenInDatagram(t, spoilt, k)
			}
		}
	}
	if hidden < 50 {
		t.Errorf("only %d turns that don't show", hidden)
	}
}

// hiddenInDatagram holds what becomes of a datagram of which a half went from 0 to 65535 or back.
func hiddenInDatagram(t *testing.T, spoilt string, k int) {
	t.Helper()
	g := segFrom(spoilt[headLen:])
	at := k - headLen/2
	if at == segSumAt/2 || at == segSumAt/2+1 || g.To == 0 {
		noDatagram(t, "half "+strconv.Itoa(k)+" turned and hidden", spoilt)
		return
	}
	isDatagram(t, spoilt, impl.Addr{Host: wordAt(spoilt, 12), Port: g.From}, impl.Addr{Host: wordAt(spoilt, 16), Port: g.To}, g)
}

func TestEachByteOfADatagramChanged(t *testing.T) {
	a, b := impl.Addr{Host: hostHere, Port: 80}, impl.Addr{Host: hostThere, Port: 4000}
	for _, g := range []impl.Seg{{Flags: 2, Mss: 536}, {Flags: 24, Seq: 7, Ack: 8, Win: 9, Data: "hello"}} {
		d := datagramBytes(a, b, 77, 64, 6, g)
		for at := range len(d) {
			for c := 1; c <= topByte; c++ {
				noDatagram(t, "byte "+strconv.Itoa(at), changed(d, at, d[at]^byte(c)))
			}
		}
	}
}

func TestDatagramDataIsNewMemory(t *testing.T) {
	d := datagramBytes(impl.Addr{Host: 1, Port: 2}, impl.Addr{Host: 3, Port: 4}, 5, 64, 6, impl.Seg{Data: "some data"})
	_, _, g, _ := impl.GetDatagram(d)
	if g.Data != "some data" || unsafe.StringData(g.Data) == unsafe.StringData(d[headLen+segHead:]) {
		t.Errorf("GetDatagram(%s) hands out a part of its argument: %s", short(d), shownSeg(g))
	}
}
