package tests

import (
	"fmt"
	"math"
	"strings"
	"testing"

	"loop.example/g00107/impl"
)

const (
	topHalf     = 65535
	topDatagram = 2000
)

var (
	// noughtTexts have the sum 0 or 65535, which count as the same one.
	noughtTexts = []string{"", "\x00", "\x00\x00", "\xff\xff", "\x00\x00\x00\x00", "\xff\xff\x00\x00", "\x00\x00\xff\xff", "\xff\xff\xff\xff", "\x00\x01\xff\xfe", "\x80\x00\x7f\xff", "\xff\xff\xff\xff\x00"}

	edgeTurns = []int{1, 2, 128, 255, 256, 32768, 65280, 65534, 65535}

	badTurns = []int{0, -1, -2, -65535, 65536, 65537, 131071, round, round + 1, -round + 1, math.MinInt, math.MinInt + 1, math.MaxInt}
)

// twoBytes writes a half, the high byte first.
func twoBytes(half int) string {
	return string([]byte{byte(half / 256), byte(half % 256)})
}

// bytesFrom is a fixed text of n bytes that looks unordered.
func bytesFrom(seed, n int) string {
	words := spread(seed + n)
	b := make([]byte, n)
	for i := range b {
		b[i] = byte(words[seed+i])
	}
	return string(b)
}

// sumTexts are ordinary texts and those at the edges, all of them short enough to have a sum.
func sumTexts() []string {
	out := append([]string{"ab", "abc", "hello", "\x00\x01\xf2\x03", "\x01", "\xff", "\xff\xff\x00\x01", "\xff\xfe"}, noughtTexts...)
	for n := 1; n <= 24; n++ {
		out = append(out, bytesFrom(n*100, n))
	}
	return append(out, bytesFrom(7, 1000), bytesFrom(8, 1999), bytesFrom(9, topDatagram), strings.Repeat("\xff", topDatagram))
}

// total adds the halves byte by byte, each by its own weight, with no folding.
func total(s string) int {
	sum := 0
	for i := range len(s) {
		if i%2 == 0 {
			sum += 256 * int(s[i])
		} else {
			sum += int(s[i])
		}
	}
	return sum
}

// ones is what folding comes to: the rest by 65535, but never 0 where there was something to fold.
func ones(sum int) int {
	if sum == 0 {
		return 0
	}
	return (sum-1)%topHalf + 1
}

func sameSum(a, b int) bool {
	return a == b || a+b == topHalf && (a == 0 || b == 0)
}

func isWhole(s string, k int) bool { return k >= 0 && k < len(s)/2 }

func halfAt(s string, k int) int { return int(s[2*k])*256 + int(s[2*k+1]) }

func short(s string) string {
	if len(s) > 24 {
		return fmt.Sprintf("%q.. of %d bytes", s[:24], len(s))
	}
	return fmt.Sprintf("%q", s)
}

// someHalves are all halves of a short text, and the first and last ones of a long one.
func someHalves(s string) []int {
	n := len(s) / 2
	var out []int
	for k := range n {
		if n <= 12 || k < 3 || k >= n-3 {
			out = append(out, k)
		}
	}
	return out
}

// eachTurn gives every turn of some halves of the texts that is one.
func eachTurn(texts []string, visit func(s string, k, x int)) {
	for _, s := range texts {
		for _, k := range someHalves(s) {
			for _, x := range edgeTurns {
				visit(s, k, x)
			}
		}
	}
}

func TestOnesSumByHand(t *testing.T) {
	for _, c := range []struct {
		s    string
		want int
	}{
		{"", 0},
		{"\x00", 0},
		{"\x01", 256},
		{"\xff", 65280},
		{"\x00\x01", 1},
		{"\x01\x00", 256},
		{"\x12\x34", 4660},
		{"\x12\x34\x56", 26676},
		{"\x00\x01\xf2\x03", 61956},
		{"\x00\x00", 0},
		{"\x00\x00\x00", 0},
		{"\xff\xff", 65535},
		{"\xff\xff\x00\x00", 65535},
		{"\xff\xff\xff\xff", 65535},
		{"\xff\xff\x00\x01", 1},
		{"\xff\xfe\x00\x01", 65535},
		{"\xff\xff\x00\x02", 2},
		{"\xff\xff\xff", 65280},
		{"\x80\x00\x80\x00", 1},
		{"\x80\x00\x80", 1},
		{"\x80\x00\x80\x00\xff\xff", 1},
		{strings.Repeat("\xff", 2000), 65535},
		{strings.Repeat("\xff", 1999), 65280},
		{strings.Repeat("\x00", 2000), 0},
	} {
		if got := impl.OnesSum(c.s); got != c.want {
			t.Errorf("OnesSum(%s) = %d, not %d", short(c.s), got, c.want)
		}
		if got := impl.Checksum(c.s); got != 65535-c.want {
			t.Errorf("Checksum(%s) = %d, not %d", short(c.s), got, 65535-c.want)
		}
	}
}

func TestOnesSumByWeights(t *testing.T) {
	for _, s := range sumTexts() {
		want := ones(total(s))
		if got := impl.OnesSum(s); got != want {
			t.Errorf("OnesSum(%s) = %d, not %d", short(s), got, want)
		}
		if got := impl.Checksum(s); got != topHalf-want {
			t.Errorf("Checksum(%s) = %d, not %d", short(s), got, topHalf-want)
		}
	}
}

// n halves of all ones and one of n - 1 come to n * 65536 - 1, of which one fold gives 65535 + n - 1: it must be folded again.
func TestSumsThatPassMoreThanOnce(t *testing.T) {
	for _, n := range []int{2, 3, 4, 255, 900, 999} {
		s := strings.Repeat("\xff\xff", n) + twoBytes(n-1)
		if once := total(s)/65536 + total(s)%65536; once <= topHalf {
			t.Fatalf("%s is folded at once, to %d", short(s), once)
		}
		if got := impl.OnesSum(s); got != n-1 {
			t.Errorf("OnesSum(%s) = %d, not %d", short(s), got, n-1)
		}
		if got := impl.Checksum(s); got != topHalf-n+1 {
			t.Errorf("Checksum(%s) = %d, not %d", short(s), got, topHalf-n+1)
		}
	}
	if got := impl.SumUpdate(0, 0, 1); got != 65534 {
		t.Errorf("SumUpdate(0, 0, 1) = %d: 131071 folds to 65536, and that to 1", got)
	}
}

func TestDatagramLimit(t *testing.T) {
	for _, fill := range []string{"\x00", "\x01", "\x5a", "\xff"} {
		for _, n := range []int{1998, 1999, 2000} {
			s := strings.Repeat(fill, n)
			want := ones(total(s))
			if got := impl.OnesSum(s); got != want {
				t.Errorf("OnesSum of %d bytes %q = %d, not %d", n, fill, got, want)
			}
			if got := impl.Checksum(s); got != topHalf-want {
				t.Errorf("Checksum of %d bytes %q = %d, not %d", n, fill, got, topHalf-want)
			}
		}
		for _, n := range []int{2001, 2002, 4000, 70000} {
			s := strings.Repeat(fill, n)
			if got := impl.OnesSum(s); got != -1 {
				t.Errorf("OnesSum of %d bytes %q = %d", n, fill, got)
			}
			if got := impl.Checksum(s); got != -1 {
				t.Errorf("Checksum of %d bytes %q = %d", n, fill, got)
			}
		}
	}
	if impl.MaxDatagram != topDatagram {
		t.Errorf("MaxDatagram = %d", impl.MaxDatagram)
	}
}

// P2: a text with its own sum behind it sums to all ones.
func TestTextWithItsSumBehindIt(t *testing.T) {
	texts := append(sumTexts(), bytesFrom(3, 1998), strings.Repeat("\xff", 1998), strings.Repeat("\x00", 1998))
	seen := 0
	for _, s := range texts {
		if len(s)%2 == 1 || len(s)+2 > topDatagram {
			continue
		}
		seen++
		if got := impl.OnesSum(s + twoBytes(impl.Checksum(s))); got != 65535 {
			t.Errorf("%s with its sum behind it sums to %d", short(s), got)
		}
	}
	if seen < 20 {
		t.Errorf("only %d texts of even length", seen)
	}
	for half := 0; half <= topHalf; half += 51 {
		s := twoBytes(half)
		if got := impl.OnesSum(s + twoBytes(impl.Checksum(s))); got != 65535 {
			t.Errorf("%q with its sum behind it sums to %d", s, got)
		}
	}
}

// A last byte alone is high, and 0 low: a nought behind it changes nothing.
func TestLastByteAlone(t *testing.T) {
	for _, s := range sumTexts() {
		if len(s)%2 == 0 {
			continue
		}
		whole := s + "\x00"
		if got, want := impl.OnesSum(s), impl.OnesSum(whole); got != want {
			t.Errorf("OnesSum(%s) = %d, and %d with a nought behind it", short(s), got, want)
		}
		if len(whole)+2 <= topDatagram {
			if got := impl.OnesSum(whole + twoBytes(impl.Checksum(s))); got != 65535 {
				t.Errorf("%s filled up and with its sum behind it sums to %d", short(s), got)
			}
		}
		last := len(s) / 2
		if got := impl.Turned(s, last, 65280); got != s {
			t.Errorf("Turned(%s, %d, 65280) = %s", short(s), last, short(got))
		}
		if impl.TurnShows(s, last, 65280) {
			t.Errorf("TurnShows(%s, %d, 65280)", short(s), last)
		}
	}
}

func TestSumUpdateByHand(t *testing.T) {
	for _, c := range [][4]int{
		{3579, 1, 2, 3578},
		{3579, 2, 1, 3580},
		{3579, 7, 7, 3579},
		{0, 0, 0, 0},
		{0, 0, 65535, 0},
		{0, 65535, 0, 0},
		{0, 65535, 65535, 0},
		{65535, 0, 0, 0},
		{65535, 0, 65535, 0},
		{65535, 65535, 0, 65535},
		{65535, 65535, 65535, 0},
		{65535, 65535, 1, 65534},
		{65535, 0, 1, 65534},
		{0, 1, 0, 1},
		{0, 0, 1, 65534},
		{1, 0, 1, 0},
		{1, 0, 2, 65534},
		{65534, 1, 0, 0},
		{65534, 1, 2, 65533},
		{65534, 65535, 65535, 65534},
	} {
		if got := impl.SumUpdate(c[0], c[1], c[2]); got != c[3] {
			t.Errorf("SumUpdate(%d, %d, %d) = %d, not %d", c[0], c[1], c[2], got, c[3])
		}
	}
}

func TestSumUpdateAtItsBounds(t *testing.T) {
	numbers := []int{math.MinInt, -65536, -1, 0, 1, 2, 32767, 32768, 65534, 65535, 65536, 131071, round, math.MaxInt}
	good := func(n int) bool { return 0 <= n && n <= topHalf }
	for _, sum := range numbers {
		for _, old := range numbers {
			for _, fresh := range numbers {
				want := -1
				if good(sum) && good(old) && good(fresh) {
					want = topHalf - ones(topHalf-sum+topHalf-old+fresh)
				}
				if got := impl.SumUpdate(sum, old, fresh); got != want {
					t.Errorf("SumUpdate(%d, %d, %d) = %d, not %d", sum, old, fresh, got, want)
				}
			}
		}
	}
}

func TestTurnedByHand(t *testing.T) {
	for _, c := range []struct {
		s    string
		k, x int
		want string
	}{
		{"ab", 0, 1, "ac"},
		{"ab", 0, 256, "`b"},
		{"ab", 0, 257, "`c"},
		{"ab", 0, 65535, "\x9e\x9d"},
		{"\x00\x00", 0, 65535, "\xff\xff"},
		{"\xff\xff", 0, 65535, "\x00\x00"},
		{"\xff\xff", 0, 65534, "\x00\x01"},
		{"abcd", 0, 3, "aacd"},
		{"abcd", 1, 7, "abcc"},
		{"abcd", 2, 7, "abcd"},
		{"abcd", -1, 7, "abcd"},
		{"abc", 0, 1, "acc"},
		{"abc", 1, 1, "abc"},
		{"abc", 1, 256, "abc"},
		{"abcde", 1, 258, "abbfe"},
		{"abcde", 2, 258, "abcde"},
		{"ab", 0, 0, "ab"},
		{"ab", 0, -1, "ab"},
		{"ab", 0, 65536, "ab"},
		{"ab", 0, 65537, "ab"},
		{"a", 0, 1, "a"},
		{"a", 0, 256, "a"},
		{"", 0, 1, ""},
		{"", -1, 1, ""},
	} {
		if got := impl.Turned(c.s, c.k, c.x); got != c.want {
			t.Errorf("Turned(%q, %d, %d) = %q, not %q", c.s, c.k, c.x, got, c.want)
		}
	}
}

// turnedByPieces puts the turned half between what stands ahead of it and behind it.
func turnedByPieces(s string, k, x int) string {
	return s[:2*k] + twoBytes(halfAt(s, k)^x) + s[2*k+2:]
}

func TestTurnedTurnsOneHalf(t *testing.T) {
	eachTurn(append(sumTexts(), bytesFrom(4, 2001), bytesFrom(5, 5000)), func(s string, k, x int) {
		got := impl.Turned(s, k, x)
		if got != turnedByPieces(s, k, x) {
			t.Errorf("Turned(%s, %d, %d) = %s", short(s), k, x, short(got))
		}
		if got == s {
			t.Errorf("Turned(%s, %d, %d) turns nothing", short(s), k, x)
		}
		if impl.Turned(got, k, x) != s {
			t.Errorf("Turned(%s, %d, %d) turned again is not as it was", short(s), k, x)
		}
	})
}

func TestTurnsThatAreNone(t *testing.T) {
	same := func(s string, k, x int) {
		if got := impl.Turned(s, k, x); got != s {
			t.Errorf("Turned(%s, %d, %d) = %s", short(s), k, x, short(got))
		}
		if impl.TurnShows(s, k, x) {
			t.Errorf("TurnShows(%s, %d, %d)", short(s), k, x)
		}
	}
	for _, s := range append(sumTexts(), bytesFrom(4, 2001)) {
		n := len(s) / 2
		for _, k := range []int{-1, -2, -n, -n - 1, n, n + 1, 2 * n, len(s), round, -round, math.MinInt, math.MinInt / 2, math.MaxInt/2 + 1, math.MaxInt} {
			if isWhole(s, k) {
				continue
			}
			for _, x := range edgeTurns {
				same(s, k, x)
			}
		}
		for _, k := range []int{-1, 0, n - 1, n} {
			for _, x := range badTurns {
				same(s, k, x)
			}
		}
	}
}

// P2: a turned half turns the sum as told.
func TestTurnedHalfTurnsTheSum(t *testing.T) {
	eachTurn(sumTexts(), func(s string, k, x int) {
		old := halfAt(s, k)
		told := impl.SumUpdate(impl.Checksum(s), old, old^x)
		got := impl.Checksum(impl.Turned(s, k, x))
		if !sameSum(got, told) {
			t.Errorf("Checksum(Turned(%s, %d, %d)) = %d, but SumUpdate tells %d", short(s), k, x, got, told)
		}
		if got != topHalf-ones(total(s)-old+(old^x)) {
			t.Errorf("Checksum(Turned(%s, %d, %d)) = %d", short(s), k, x, got)
		}
	})
}

func TestTurnShowsByHand(t *testing.T) {
	for _, c := range []struct {
		s    string
		k, x int
		want bool
	}{
		{"ab", 0, 1, true},
		{"ab", 1, 1, false},
		{"ab", -1, 1, false},
		{"ab", 0, 0, false},
		{"ab", 0, 65535, true},
		{"ab", 0, 65536, false},
		{"\x00\x00", 0, 65535, false},
		{"\xff\xff", 0, 65535, false},
		{"\x00\x00", 0, 1, true},
		{"\xff\xff", 0, 1, true},
		{"\x00\x00", 0, 65534, true},
		{"\xff\xff", 0, 65534, true},
		{"\x00\x01", 0, 65535, true},
		{"\xff\xfe", 0, 65535, true},
		{"\x00\x00\xff\xff", 0, 65535, false},
		{"\x00\x00\xff\xff", 1, 65535, false},
		{"\x00\x00\x00\x00", 1, 65535, false},
		{"\x00\x00ab", 0, 65535, false},
		{"\xff\xffab", 0, 65535, false},
		{"ab\xff\xff", 1, 65535, false},
		{"ab\xff\xff", 0, 65535, true},
		{"\x00\x01\xff\xfe", 0, 1, true},
		{"\x00\x00a", 0, 65535, false},
		{"\x00\x00a", 0, 255, true},
		{"a", 0, 1, false},
		{"", 0, 1, false},
	} {
		if got := impl.TurnShows(c.s, c.k, c.x); got != c.want {
			t.Errorf("TurnShows(%q, %d, %d) = %v", c.s, c.k, c.x, got)
		}
	}
}

func TestTurnShowsWhereTheSumChanges(t *testing.T) {
	eachTurn(sumTexts(), func(s string, k, x int) {
		want := !sameSum(ones(total(s)), ones(total(turnedByPieces(s, k, x))))
		if got := impl.TurnShows(s, k, x); got != want {
			t.Errorf("TurnShows(%s, %d, %d) = %v", short(s), k, x, got)
		}
	})
}

// A text beyond the limit has the sum -1 both before and after, so that no turn shows.
func TestTurnsOfTooLongTexts(t *testing.T) {
	for _, fill := range []string{"\x00", "a", "\xff"} {
		for _, x := range edgeTurns {
			for _, k := range []int{0, 999, 1000} {
				if s := strings.Repeat(fill, 2001); impl.TurnShows(s, k, x) {
					t.Errorf("TurnShows of %d bytes %q, %d, %d", len(s), fill, k, x)
				}
			}
			at := strings.Repeat(fill, 2000)
			if got, want := impl.TurnShows(at, 999, x), fill == "a" || x != 65535; got != want {
				t.Errorf("TurnShows of 2000 bytes %q, 999, %d = %v", fill, x, got)
			}
		}
	}
}
