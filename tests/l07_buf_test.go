package tests

import (
	"fmt"
	"math"
	"slices"
	"strings"
	"testing"
	"unsafe"

	"loop.example/g00107/impl"
)

const (
	topBuf    = 4096
	topBehind = 99999
)

// badRooms are no rooms of a buffer.
var badRooms = []int{0, -1, -2, -topBuf, -round, math.MinInt, math.MinInt + 1, topBuf + 1, topBuf + 2, 2 * topBuf, round, round + 1, math.MaxInt - 1, math.MaxInt}

// badAmounts are neither how many bytes may be taken nor read.
var badAmounts = []int{-1, -2, -topBuf, -round, math.MinInt, math.MinInt + 1, topBuf + 1, topBuf + 2, 2 * topBuf, round, round + 1, math.MaxInt - 1, math.MaxInt}

// bufPlaces are places to begin at, near to where the words come round and far from there.
var bufPlaces = []uint32{0, 1, 5, 100, 99998, 99999, 100000, halfWay - 3, halfWay, halfWay + 1, round - 5000, round - topBuf, round - 6, round - 3, round - 1}

func outAt(first uint32, data string, room int) impl.OutBuf {
	return impl.OutBuf{First: first, Data: data, Room: room}
}

func part(seq uint32, data string) impl.Part { return impl.Part{Seq: seq, Data: data} }

func inAt(next uint32, ready string, room int, parts ...impl.Part) impl.InBuf {
	return impl.InBuf{Next: next, Ready: ready, Room: room, Parts: parts}
}

// movedIn is b with all its places n farther on.
func movedIn(b impl.InBuf, n uint32) impl.InBuf {
	out := inAt(b.Next+n, b.Ready, b.Room)
	for _, p := range b.Parts {
		out.Parts = append(out.Parts, part(p.Seq+n, p.Data))
	}
	return out
}

func shownOut(b impl.OutBuf) string {
	return fmt.Sprintf("{%d %s %d}", b.First, short(b.Data), b.Room)
}

func shownIn(b impl.InBuf) string {
	var w strings.Builder
	fmt.Fprintf(&w, "{%d %s %d", b.Next, short(b.Ready), b.Room)
	for i, p := range b.Parts {
		if i == 6 {
			fmt.Fprintf(&w, " ..(%d)", len(b.Parts))
			break
		}
		fmt.Fprintf(&w, " %d:%s", p.Seq, short(p.Data))
	}
	return w.String() + "}"
}

func equalIns(a, b impl.InBuf) bool {
	return a.Next == b.Next && a.Ready == b.Ready && a.Room == b.Room && slices.Equal(a.Parts, b.Parts)
}

func sameOut(t *testing.T, what string, got impl.OutBuf, n int, want impl.OutBuf, many int) {
	t.Helper()
	if got != want || n != many {
		t.Errorf("%s: %s and %d, not %s and %d", what, shownOut(got), n, shownOut(want), many)
	}
}

func sameIn(t *testing.T, what string, got, want impl.InBuf) {
	t.Helper()
	if !equalIns(got, want) {
		t.Errorf("%s: %s, not %s", what, shownIn(got), shownIn(want))
	}
}

// badOuts have each one thing that no buffer of bytes to be sent has.
func badOuts() []impl.OutBuf {
	out := []impl.OutBuf{
		outAt(5, "ab", 1),
		outAt(5, "abcdef", 5),
		outAt(round-1, "abcdef", 5),
		outAt(5, bytesFrom(1, topBuf), topBuf-1),
		outAt(5, bytesFrom(1, topBuf+1), topBuf),
		outAt(5, bytesFrom(1, topBuf+1), topBuf+1),
		outAt(5, bytesFrom(1, 70000), topBuf),
	}
	for _, n := range badRooms {
		out = append(out, outAt(5, "", n), outAt(5, "abc", n))
	}
	return out
}

// badIns have each one thing that no buffer of bytes that came has.
func badIns() []impl.InBuf {
	out := []impl.InBuf{
		inAt(5, "ab", 1),
		inAt(5, "abcdef", 5),
		inAt(5, bytesFrom(1, topBuf), topBuf-1),
		inAt(5, bytesFrom(1, topBuf+1), topBuf),
		inAt(5, "abc", 10, part(7, "")),
		inAt(5, "abc", 10, part(7, "x"), part(9, "")),
		inAt(5, "abc", 10, part(7, ""), part(9, "y")),
		inAt(5, "abc", 10, part(5, "x")),
		inAt(5, "abc", 10, part(4, "x")),
		inAt(5, "abc", 10, part(4, "xyz")),
		inAt(5, "abc", 10, part(0, "x")),
		inAt(5, "abc", 10, part(halfWay+4, "x")),
		inAt(5, "abc", 10, part(halfWay+5, "x")),
		inAt(5, "abc", 10, part(halfWay+6, "x")),
		inAt(5, "abc", 10, part(11, "xy")),
		inAt(5, "abc", 10, part(6, "1234567")),
		inAt(5, "abc", 10, part(12, "x")),
		inAt(5, "abc", 10, part(13, "x")),
		inAt(5, "abc", 10, part(6, bytesFrom(2, 5000))),
		inAt(5, "abc", 20, part(7, "xy"), part(9, "z")),
		inAt(5, "abc", 20, part(7, "xy"), part(8, "y")),
		inAt(5, "abc", 20, part(7, "xy"), part(8, "yz")),
		inAt(5, "abc", 20, part(7, "xy"), part(7, "xy")),
		inAt(5, "abc", 20, part(7, "xyz"), part(8, "y")),
		inAt(5, "abc", 20, part(8, "y"), part(7, "xyz")),
		inAt(5, "abc", 20, part(10, "y"), part(7, "x")),
		inAt(5, "abc", 20, part(7, "x"), part(13, "z"), part(10, "y")),
		inAt(5, "abc", 20, part(7, "x"), part(10, "y"), part(11, "z")),
		inAt(5, "abc", 20, part(7, "x"), part(10, "y"), part(22, "z")),
		inAt(5, "abc", 20, part(7, "x"), part(10, "y"), part(5, "z")),
		inAt(5, "0123456789", 10, part(7, "x")),
		inAt(5, "0123456789", 10, part(6, "x")),
		inAt(5, "0123456789", 10, part(5, "x")),
		inAt(5, "012345678", 10, part(6, "x")),
	}
	for _, n := range badRooms {
		out = append(out, inAt(5, "", n), inAt(5, "abc", n), inAt(5, "", n, part(7, "x")))
	}
	return out
}

// goodIns are buffers with room at the front, between parts and behind them, and some without.
func goodIns() []impl.InBuf {
	return []impl.InBuf{
		inAt(100, "", 1),
		inAt(100, "x", 1),
		inAt(100, "", 12),
		inAt(100, "abc", 12),
		inAt(100, "abcdefghijkl", 12),
		inAt(100, "abcdefghijk", 12),
		inAt(100, "", 12, part(101, "B")),
		inAt(100, "", 12, part(102, "CD")),
		inAt(100, "ab", 12, part(109, "X")),
		inAt(100, "ab", 12, part(101, "123456789")),
		inAt(100, "", 12, part(101, "B"), part(103, "D"), part(105, "F"), part(107, "H"), part(109, "J"), part(111, "L")),
		inAt(100, "a", 14, part(102, "CDE"), part(107, "H"), part(110, "KLM")),
		inAt(100, "", topBuf, part(100+topBuf-1, "z")),
		inAt(100, bytesFrom(4, topBuf-1), topBuf),
		inAt(100, bytesFrom(4, 3000), topBuf, part(300, bytesFrom(5, 500)), part(1000, bytesFrom(6, 196))),
	}
}

// singles is a buffer of as much room as there may be, where every second byte has come.
func singles(next uint32) impl.InBuf {
	b := inAt(next, "", topBuf)
	for i := 1; i < topBuf; i += 2 {
		b.Parts = append(b.Parts, part(next+uint32(i), string([]byte{byte(i)})))
	}
	return b
}

// cameBy puts byte by byte, each at its own place.
func cameBy(b impl.InBuf, seq uint32, s string) (impl.InBuf, int) {
	window := b.Room - len(b.Ready)
	held := map[int]byte{}
	for _, p := range b.Parts {
		for i := range len(p.Data) {
			held[forward(b.Next, p.Seq)+i] = p.Data[i]
		}
	}
	had := len(held)
	for i := range len(s) {
		at := forward(b.Next, seq+uint32(i))
		if _, there := held[at]; at < window && !there {
			held[at] = s[i]
		}
	}
	return toldBy(b, held, window), len(held) - had
}

// toldBy is the buffer with the bytes of held from Next on: a run of them from 0 on is ready, every other run is a part.
func toldBy(b impl.InBuf, held map[int]byte, window int) impl.InBuf {
	out := inAt(b.Next, b.Ready, b.Room)
	for at := 0; at < window; at++ {
		run := []byte{}
		for c, there := held[at]; there; c, there = held[at+len(run)] {
			run = append(run, c)
		}
		if len(run) > 0 && at == 0 {
			out.Ready += string(run)
			out.Next += uint32(len(run))
		} else if len(run) > 0 {
			out.Parts = append(out.Parts, part(b.Next+uint32(at), string(run)))
		}
		at += len(run)
	}
	return out
}

func checkIn(t *testing.T, b impl.InBuf, seq uint32, s string) impl.InBuf {
	t.Helper()
	want, many := cameBy(b, seq, s)
	got, n := impl.InPut(b, seq, s)
	if !equalIns(got, want) || n != many {
		t.Fatalf("InPut(%s, %d, %s): %s and %d, not %s and %d", shownIn(b), seq, short(s), shownIn(got), n, shownIn(want), many)
	}
	if !impl.InOk(got) {
		t.Fatalf("InPut(%s, %d, %s) is not right: %s", shownIn(b), seq, short(s), shownIn(got))
	}
	return got
}

func TestOutOkByHand(t *testing.T) {
	for _, room := range []int{1, 2, 3, 100, topBuf - 1, topBuf} {
		for _, first := range bufPlaces {
			for _, n := range []int{0, 1, room / 2, room - 1, room} {
				if b := outAt(first, bytesFrom(3, n), room); !impl.OutOk(b) {
					t.Errorf("OutOk(%s) is false", shownOut(b))
				}
			}
			for _, n := range []int{room + 1, room + 2, 2*room + 1, 70000} {
				if b := outAt(first, bytesFrom(3, n), room); impl.OutOk(b) {
					t.Errorf("OutOk(%s) is true", shownOut(b))
				}
			}
		}
	}
	if impl.OutOk(impl.OutBuf{}) {
		t.Error("OutOk of the zero value is true")
	}
	for _, b := range badOuts() {
		if impl.OutOk(b) {
			t.Errorf("OutOk(%s) is true", shownOut(b))
		}
	}
}

func TestOutPutByHand(t *testing.T) {
	for _, c := range []struct {
		data, s string
		room    int
		want    string
		n       int
	}{
		{"", "", 5, "", 0},
		{"", "a", 5, "a", 1},
		{"", "abcd", 5, "abcd", 4},
		{"", "abcde", 5, "abcde", 5},
		{"", "abcdef", 5, "abcde", 5},
		{"abc", "", 5, "abc", 0},
		{"abc", "d", 5, "abcd", 1},
		{"abc", "de", 5, "abcde", 2},
		{"abc", "def", 5, "abcde", 2},
		{"abc", "abcabcabc", 5, "abcab", 2},
		{"abcde", "", 5, "abcde", 0},
		{"abcde", "f", 5, "abcde", 0},
		{"", "ab", 1, "a", 1},
		{"z", "ab", 1, "z", 0},
		{"\x00", "\xff\x00", 3, "\x00\xff\x00", 2},
	} {
		for _, first := range bufPlaces {
			got, n := impl.OutPut(outAt(first, c.data, c.room), c.s)
			sameOut(t, fmt.Sprintf("OutPut of %q behind %q, room %d", c.s, c.data, c.room), got, n, outAt(first, c.want, c.room), c.n)
		}
	}
}

func TestOutPutOfManyBytes(t *testing.T) {
	all := bytesFrom(8, 3*topBuf)
	for _, room := range []int{1, 536, topBuf - 1, topBuf} {
		for _, had := range []int{0, 1, room / 2, room - 1, room} {
			left := room - had
			for _, n := range []int{0, 1, left - 1, left, left + 1, room, room + 1, 2 * topBuf} {
				if n < 0 {
					continue
				}
				many := min(n, left)
				got, took := impl.OutPut(outAt(round-7, all[:had], room), all[had:had+n])
				sameOut(t, fmt.Sprintf("%d bytes behind %d of %d", n, had, room), got, took, outAt(round-7, all[:had+many], room), many)
			}
		}
	}
	got, n := impl.OutPut(outAt(1, "a", 9), strings.Repeat("x", 1<<24))
	sameOut(t, "a great many bytes", got, n, outAt(1, "axxxxxxxx", 9), 8)
}

func TestOutOfWrongBuffers(t *testing.T) {
	for _, b := range badOuts() {
		for _, s := range []string{"", "x", bytesFrom(3, topBuf)} {
			got, n := impl.OutPut(b, s)
			sameOut(t, "OutPut of what is not OutOk", got, n, b, 0)
		}
		for _, seq := range []uint32{b.First, b.First + 1, b.First + uint32(len(b.Data)), 0} {
			for _, n := range []int{0, 1, 5, topBuf} {
				if s := impl.OutTake(b, seq, n); s != "" {
					t.Errorf("OutTake(%s, %d, %d) is %s", shownOut(b), seq, n, short(s))
				}
			}
			got, n := impl.OutDone(b, seq)
			sameOut(t, "OutDone of what is not OutOk", got, n, b, 0)
		}
	}
}

func TestOutTakeByHand(t *testing.T) {
	for _, c := range []struct {
		at, n int
		want  string
	}{
		{0, 0, ""}, {0, 1, "a"}, {0, 4, "abcd"}, {0, 5, "abcde"}, {0, 6, "abcde"}, {0, topBuf, "abcde"},
		{2, 0, ""}, {2, 1, "c"}, {2, 2, "cd"}, {2, 3, "cde"}, {2, 4, "cde"}, {2, topBuf, "cde"},
		{4, 0, ""}, {4, 1, "e"}, {4, 2, "e"}, {4, topBuf, "e"},
		{5, 0, ""}, {5, 1, ""}, {5, topBuf, ""},
		{6, 1, ""}, {6, topBuf, ""}, {-1, 0, ""}, {-1, 1, ""}, {-1, 2, ""}, {-1, topBuf, ""},
		{7, 3, ""}, {8, 3, ""}, {9, 3, ""}, {-3, 5, ""}, {halfWay, 3, ""}, {halfWay - 1, 3, ""}, {halfWay + 1, 3, ""},
	} {
		for _, first := range bufPlaces {
			for _, room := range []int{5, 6, 8, topBuf} {
				if got := impl.OutTake(outAt(first, "abcde", room), first+uint32(c.at), c.n); got != c.want {
					t.Errorf("%d bytes from %d of \"abcde\" at %d, room %d: %q, not %q", c.n, c.at, first, room, got, c.want)
				}
			}
		}
	}
	for _, n := range badAmounts {
		for _, at := range []uint32{0, 2, 4, 5} {
			if got := impl.OutTake(outAt(round-2, "abcde", 9), round-2+at, n); got != "" {
				t.Errorf("%d bytes are taken: %q", n, got)
			}
		}
	}
	if got := impl.OutTake(outAt(3, "", 9), 3, 4); got != "" {
		t.Errorf("taken of nothing: %q", got)
	}
}

func TestOutTakeOfAsMuchAsThereMayBe(t *testing.T) {
	all := bytesFrom(11, topBuf)
	for _, first := range bufPlaces {
		b := outAt(first, all, topBuf)
		for _, at := range []int{0, 1, 2000, topBuf - 1, topBuf, topBuf + 1} {
			for _, n := range []int{0, 1, topBuf - 1, topBuf} {
				want := ""
				if at <= topBuf {
					want = all[at:min(at+n, topBuf)]
				}
				if got := impl.OutTake(b, first+uint32(at), n); got != want {
					t.Errorf("%d bytes from %d on at %d: %s, not %s", n, at, first, short(got), short(want))
				}
			}
		}
	}
}

func TestOutDoneByHand(t *testing.T) {
	for _, c := range []struct {
		at   int
		want string
		n    int
	}{
		{0, "abcde", 0}, {1, "bcde", 1}, {2, "cde", 2}, {4, "e", 4}, {5, "", 5},
	} {
		for _, first := range bufPlaces {
			for _, room := range []int{5, 6, topBuf} {
				seq := first + uint32(c.at)
				got, n := impl.OutDone(outAt(first, "abcde", room), seq)
				sameOut(t, fmt.Sprintf("OutDone of %d from %d on", c.at, first), got, n, outAt(seq, c.want, room), c.n)
			}
		}
	}
	for _, at := range []int{-1, -2, -5, 6, 7, 100, topBuf, halfWay - 1, halfWay, halfWay + 1} {
		for _, first := range bufPlaces {
			for _, room := range []int{5, 6, topBuf} {
				b := outAt(first, "abcde", room)
				got, n := impl.OutDone(b, first+uint32(at))
				sameOut(t, fmt.Sprintf("OutDone of %d from %d on", at, first), got, n, b, 0)
			}
		}
	}
	got, n := impl.OutDone(outAt(3, "", 9), 3)
	sameOut(t, "nothing done of nothing", got, n, outAt(3, "", 9), 0)
	got, n = impl.OutDone(outAt(3, "", 9), 4)
	sameOut(t, "one done of nothing", got, n, outAt(3, "", 9), 0)
}

// sameToTake holds every place of b, and those beside it, against the plain bytes that were put in and not done with.
func sameToTake(t *testing.T, b impl.OutBuf, kept string) {
	t.Helper()
	for at := -2; at <= len(kept)+2; at++ {
		for _, n := range []int{0, 1, 2, len(kept), topBuf} {
			want := ""
			if at >= 0 && at <= len(kept) {
				want = kept[at:min(at+n, len(kept))]
			}
			if got := impl.OutTake(b, b.First+uint32(at), n); got != want {
				t.Fatalf("OutTake of %d bytes from %d on of %s: %s, not %s", n, at, shownOut(b), short(got), short(want))
			}
		}
	}
}

func TestWhatIsPutInAndNotDoneWithCanBeTaken(t *testing.T) {
	for seed := range 40 {
		room := []int{1, 2, 3, 7, 20, 61}[seed%6]
		first := bufPlaces[seed%len(bufPlaces)]
		b, kept, given := outAt(first, "", room), "", 0
		words := spread(seed*200 + 240)[seed*200:]
		for step := 0; step < 240; step += 2 {
			s := bytesFrom(given, int(words[step])%(room+3))
			next, n := impl.OutPut(b, s)
			took := min(len(s), room-len(kept))
			kept += s[:took]
			given += took
			sameOut(t, "put", next, n, outAt(b.First, kept, room), took)
			sameToTake(t, next, kept)
			at := int(words[step+1]) % (len(kept) + 2)
			b, n = impl.OutDone(next, next.First+uint32(at))
			if at > len(kept) {
				at = 0
			}
			kept = kept[at:]
			sameOut(t, "done", b, n, outAt(next.First+uint32(at), kept, room), at)
			sameToTake(t, b, kept)
		}
		if given < 20 {
			t.Errorf("seed %d: only %d bytes were put in", seed, given)
		}
	}
}

func TestInOkOfRoomAndReady(t *testing.T) {
	for _, room := range []int{1, 2, 3, 100, topBuf - 1, topBuf} {
		for _, n := range []int{0, 1, room - 1, room} {
			for _, parts := range [][]impl.Part{nil, {}} {
				if b := inAt(7, bytesFrom(3, n), room, parts...); !impl.InOk(b) {
					t.Errorf("InOk(%s) is false", shownIn(b))
				}
			}
		}
		for _, n := range []int{room + 1, room + 2, 70000} {
			if b := inAt(7, bytesFrom(3, n), room); impl.InOk(b) {
				t.Errorf("InOk(%s) is true", shownIn(b))
			}
		}
	}
	if impl.InOk(impl.InBuf{}) {
		t.Error("InOk of the zero value is true")
	}
}

func TestInOkOfParts(t *testing.T) {
	for _, b := range goodIns() {
		for _, n := range bufPlaces {
			if moved := movedIn(b, n-b.Next); !impl.InOk(moved) {
				t.Errorf("InOk(%s) is false", shownIn(moved))
			}
		}
	}
	for _, b := range badIns() {
		for _, n := range bufPlaces {
			if moved := movedIn(b, n-b.Next); impl.InOk(moved) {
				t.Errorf("InOk(%s) is true", shownIn(moved))
			}
		}
	}
	for _, n := range bufPlaces {
		if !impl.InOk(singles(n)) {
			t.Errorf("every second byte from %d on is not right", n)
		}
	}
}

// One part of every length at every place beside a small window, and two of them, against the words of the document one by one.
func TestInOkOfEveryPlace(t *testing.T) {
	const window = 6
	right := func(parts []impl.Part, next uint32) bool {
		behind := next
		for _, p := range parts {
			gap, end := forward(behind, p.Seq), forward(next, p.Seq)+len(p.Data)
			if len(p.Data) == 0 || gap < 1 || gap > window || end > window {
				return false
			}
			behind = p.Seq + uint32(len(p.Data))
		}
		return true
	}
	for _, next := range []uint32{0, 1, 100, halfWay, round - 1, round - 3, round - 8} {
		for one := -4; one <= window+3; one++ {
			for n := range window + 2 {
				first := part(next+uint32(one), bytesFrom(1, n))
				if b := inAt(next, "ab", window+2, first); impl.InOk(b) != right(b.Parts, next) {
					t.Errorf("InOk(%s) is %t", shownIn(b), impl.InOk(b))
				}
				for two := -4; two <= window+3; two++ {
					for m := range 4 {
						b := inAt(next, "ab", window+2, first, part(next+uint32(two), bytesFrom(2, m)))
						if impl.InOk(b) != right(b.Parts, next) {
							t.Errorf("InOk(%s) is %t", shownIn(b), impl.InOk(b))
						}
					}
				}
			}
		}
	}
}

func TestInRoomAndInHeld(t *testing.T) {
	for _, c := range []struct {
		b          impl.InBuf
		room, held int
	}{
		{inAt(5, "", 1), 1, 0},
		{inAt(5, "a", 1), 0, 0},
		{inAt(5, "", 10), 10, 0},
		{inAt(5, "abc", 10), 7, 0},
		{inAt(5, "0123456789", 10), 0, 0},
		{inAt(5, "abc", 10, part(6, "x")), 7, 1},
		{inAt(5, "abc", 10, part(6, "x"), part(8, "yz")), 7, 3},
		{inAt(round-1, "abc", 10, part(0, "x"), part(2, "yz")), 7, 3},
		{inAt(5, "", topBuf), topBuf, 0},
		{inAt(5, bytesFrom(1, topBuf), topBuf), 0, 0},
		{inAt(5, "", topBuf, part(6, bytesFrom(1, topBuf-1))), topBuf, topBuf - 1},
		{singles(round - 100), topBuf, topBuf / 2},
	} {
		if n := impl.InRoom(c.b); n != c.room {
			t.Errorf("InRoom(%s) is %d, not %d", shownIn(c.b), n, c.room)
		}
		if n := impl.InHeld(c.b); n != c.held {
			t.Errorf("InHeld(%s) is %d, not %d", shownIn(c.b), n, c.held)
		}
	}
	for _, b := range badIns() {
		if room, held := impl.InRoom(b), impl.InHeld(b); room != 0 || held != 0 {
			t.Errorf("%s, which is not right, has a room of %d and holds %d", shownIn(b), room, held)
		}
	}
}

func TestInPutByHand(t *testing.T) {
	none := inAt(100, "", 10)
	some := inAt(100, "ab", 12, part(103, "DE"))
	two := inAt(100, "ab", 16, part(103, "DE"), part(108, "IJ"))
	for _, c := range []struct {
		why  string
		b    impl.InBuf
		seq  uint32
		s    string
		want impl.InBuf
		n    int
	}{
		{"nothing at Next", none, 100, "", none, 0},
		{"nothing farther on", some, 104, "", some, 0},
		{"nothing between", some, 102, "", some, 0},
		{"nothing beyond the window", some, 150, "", some, 0},
		{"at Next", none, 100, "abc", inAt(103, "abc", 10), 3},
		{"at Next, to the end of the window", none, 100, "0123456789", inAt(110, "0123456789", 10), 10},
		{"at Next, one beyond the window", none, 100, "0123456789x", inAt(110, "0123456789", 10), 10},
		{"behind what is ready", some, 100, "A", inAt(101, "abA", 12, part(103, "DE")), 1},
		{"ahead of its place by one", none, 101, "bc", inAt(100, "", 10, part(101, "bc")), 2},
		{"at the last place of the window", none, 109, "z", inAt(100, "", 10, part(109, "z")), 1},
		{"over the edge of the window", none, 108, "yz!", inAt(100, "", 10, part(108, "yz")), 2},
		{"just beyond the window", none, 110, "z", none, 0},
		{"far beyond the window", none, 400, "zzz", none, 0},
		{"the window less what is ready", some, 109, "yz", inAt(100, "ab", 12, part(103, "DE"), part(109, "y")), 1},
		{"beyond the window less what is ready", some, 110, "yz", some, 0},
		{"wholly behind", none, 97, "abc", none, 0},
		{"long behind", none, 3, "abc", none, 0},
		{"in part behind", none, 98, "zzabc", inAt(103, "abc", 10), 3},
		{"in part behind and beyond", none, 98, "zz0123456789x", inAt(110, "0123456789", 10), 10},
		{"behind and over what is held", some, 99, "zABCxyF", inAt(106, "abABCDEF", 12), 4},
		{"the same again", some, 103, "DE", some, 0},
		{"other bytes for the same places", some, 103, "xy", some, 0},
		{"other bytes for one of them", some, 104, "y", some, 0},
		{"over its first byte", some, 102, "Cx", inAt(100, "ab", 12, part(102, "CDE")), 1},
		{"over its last byte", some, 104, "xFG", inAt(100, "ab", 12, part(103, "DEFG")), 2},
		{"over all of it", some, 102, "CxyF", inAt(100, "ab", 12, part(102, "CDEF")), 2},
		{"touching it from ahead", some, 102, "C", inAt(100, "ab", 12, part(102, "CDE")), 1},
		{"touching it from behind", some, 105, "FG", inAt(100, "ab", 12, part(103, "DEFG")), 2},
		{"apart from it, ahead", some, 101, "B", inAt(100, "ab", 12, part(101, "B"), part(103, "DE")), 1},
		{"apart from it, behind", some, 106, "G", inAt(100, "ab", 12, part(103, "DE"), part(106, "G")), 1},
		{"between two", two, 106, "G", inAt(100, "ab", 16, part(103, "DE"), part(106, "G"), part(108, "IJ")), 1},
		{"between two, so that they join", two, 105, "FGH", inAt(100, "ab", 16, part(103, "DEFGHIJ")), 3},
		{"between two, touching the first", two, 105, "FG", inAt(100, "ab", 16, part(103, "DEFG"), part(108, "IJ")), 2},
		{"between two, touching the second", two, 106, "GH", inAt(100, "ab", 16, part(103, "DE"), part(106, "GHIJ")), 2},
		{"over two at once", two, 101, "BCxxFGHxxK", inAt(100, "ab", 16, part(101, "BCDEFGHIJK")), 6},
		{"into the gap at Next", two, 100, "ABC", inAt(105, "abABCDE", 16, part(108, "IJ")), 3},
		{"into every gap", two, 100, "ABCxxFGHxxKLMN!", inAt(114, "abABCDEFGHIJKLMN", 16), 10},
		{"one byte less than the gap at Next", two, 100, "AB", inAt(102, "abAB", 16, part(103, "DE"), part(108, "IJ")), 2},
		{"no room left", inAt(100, "0123456789", 10), 100, "x", inAt(100, "0123456789", 10), 0},
		{"no room left, farther on", inAt(100, "0123456789", 10), 103, "xyz", inAt(100, "0123456789", 10), 0},
		{"room for one", inAt(100, "012345678", 10), 100, "xyz", inAt(101, "012345678x", 10), 1},
		{"room for one, and it's the second", inAt(100, "012345678", 10), 101, "xyz", inAt(100, "012345678", 10), 0},
	} {
		for _, next := range bufPlaces {
			by := next - c.b.Next
			got, n := impl.InPut(movedIn(c.b, by), c.seq+by, c.s)
			if want := movedIn(c.want, by); !equalIns(got, want) || n != c.n {
				t.Errorf("%s, Next %d: %s and %d, not %s and %d", c.why, next, shownIn(got), n, shownIn(want), c.n)
			}
		}
	}
}

// Every piece at every place beside a small window, into buffers with every choice of bytes that have come.
func TestInPutOfEveryPlace(t *testing.T) {
	const window = 7
	for _, next := range []uint32{100, round - 4} {
		for set := range 1 << (window - 1) {
			held := map[int]byte{}
			for i := range window - 1 {
				if set>>i&1 == 1 {
					held[i+1] = byte('A' + i)
				}
			}
			b := toldBy(inAt(next, "rr", window+2), held, window)
			for at := -3; at <= window+2; at++ {
				for n := range window + 5 {
					checkIn(t, b, next+uint32(at), bytesFrom(n+at+3, n))
				}
			}
		}
	}
}

func TestInPutOfLongPieces(t *testing.T) {
	s := bytesFrom(7, 3*topSeg)
	for _, plain := range append(goodIns(), singles(100)) {
		for _, next := range []uint32{100, round - 1, round - 50, round - 300} {
			b := movedIn(plain, next-plain.Next)
			for _, n := range []int{topSeg - 1, topSeg} {
				for _, at := range []int{-n - 1, -n, -n + 1, -n + 2, -100, -1, 0, 1, 2, 3, 200, 1000, topBuf - n, topBuf - n + 1, topBuf - 2, topBuf - 1} {
					checkIn(t, b, next+uint32(at), s[:n])
				}
			}
			for _, n := range []int{topSeg + 1, topSeg + 2, 2 * topSeg, 3 * topSeg} {
				for _, at := range []int{-n, -1, 0, 1, 1000} {
					got, many := impl.InPut(b, next+uint32(at), s[:n])
					sameIn(t, fmt.Sprintf("%d bytes", n), got, b)
					if many != 0 {
						t.Errorf("%d of %d bytes came new", many, n)
					}
				}
			}
		}
	}
}

func TestInPutNearAndFar(t *testing.T) {
	for _, next := range bufPlaces {
		b := inAt(next, "ab", topBuf, part(next+5, "xyz"))
		for _, at := range []int{-topBehind, -topBehind + 1, -topBuf, -topSeg, -10, -1, 0, 1, topBuf - 4, topBuf - 3, topBuf - 2, topBuf - 1} {
			for _, n := range []int{0, 1, 2, 5, 12, topSeg} {
				checkIn(t, b, next+uint32(at), bytesFrom(3, n))
			}
		}
		for _, at := range []int{-topBehind - 1, -topBehind - 2, -halfWay + 1, -halfWay, topBuf, topBuf + 1, halfWay - 1} {
			for _, n := range []int{0, 1, 2, 5, topSeg} {
				got, many := impl.InPut(b, next+uint32(at), bytesFrom(3, n))
				sameIn(t, fmt.Sprintf("%d away", at), got, b)
				if many != 0 {
					t.Errorf("%d bytes came new from %d away", many, at)
				}
			}
		}
	}
}

func TestInPutIntoWrongBuffers(t *testing.T) {
	for _, b := range badIns() {
		for _, at := range []int{-1, 0, 1, 2, 5, 9, topBuf - 1, topBuf} {
			for _, s := range []string{"", "q", "qrs", bytesFrom(1, topSeg), bytesFrom(1, topSeg+1)} {
				got, n := impl.InPut(b, b.Next+uint32(at), s)
				sameIn(t, "InPut into what is not InOk", got, b)
				if n != 0 {
					t.Errorf("%d bytes came new into %s", n, shownIn(b))
				}
			}
		}
	}
}

func TestInReadByHand(t *testing.T) {
	parts := []impl.Part{part(103, "D"), part(105, "FG")}
	for _, c := range []struct {
		ready string
		n     int
		left  string
		read  string
	}{
		{"", 0, "", ""}, {"", 1, "", ""}, {"", topBuf, "", ""},
		{"abcde", 0, "abcde", ""}, {"abcde", 1, "bcde", "a"}, {"abcde", 4, "e", "abcd"},
		{"abcde", 5, "", "abcde"}, {"abcde", 6, "", "abcde"}, {"abcde", topBuf - 1, "", "abcde"}, {"abcde", topBuf, "", "abcde"},
	} {
		for _, next := range bufPlaces {
			b := movedIn(inAt(100, c.ready, 12, parts...), next-100)
			want := movedIn(inAt(100, c.left, 12, parts...), next-100)
			got, read := impl.InRead(b, c.n)
			sameIn(t, fmt.Sprintf("%d read of %q", c.n, c.ready), got, want)
			if read != c.read {
				t.Errorf("%d read of %q are %q, not %q", c.n, c.ready, read, c.read)
			}
		}
	}
	whole := bytesFrom(2, topBuf)
	for _, n := range []int{0, 1, topBuf - 1, topBuf} {
		got, read := impl.InRead(inAt(9, whole, topBuf), n)
		sameIn(t, fmt.Sprintf("%d of as much as there may be", n), got, inAt(9, whole[n:], topBuf))
		if read != whole[:n] {
			t.Errorf("%d of as much as there may be: %s", n, short(read))
		}
	}
}

func TestInReadOfWrongThings(t *testing.T) {
	for _, b := range goodIns() {
		for _, n := range badAmounts {
			got, read := impl.InRead(b, n)
			sameIn(t, fmt.Sprintf("InRead of %d", n), got, b)
			if read != "" {
				t.Errorf("InRead of %d reads %s", n, short(read))
			}
		}
	}
	for _, b := range badIns() {
		for _, n := range []int{-1, 0, 1, 3, topBuf, topBuf + 1} {
			got, read := impl.InRead(b, n)
			sameIn(t, "InRead of what is not InOk", got, b)
			if read != "" {
				t.Errorf("InRead of %s reads %s", shownIn(b), short(read))
			}
		}
	}
}

// checkBeginning holds what was read, and what is ready, against the stream to the first place that has not come.
func checkBeginning(t *testing.T, b impl.InBuf, start uint32, stream, read string, come []bool) {
	t.Helper()
	n := slices.Index(come, false)
	if n < 0 {
		n = len(stream)
	}
	if read+b.Ready != stream[:n] || b.Next != start+uint32(n) {
		t.Fatalf("%s and %s were read or are ready, not %s", short(read), short(b.Ready), short(stream[:n]))
	}
	held := 0
	for i := n; i < len(come); i++ {
		if come[i] {
			held++
		}
	}
	if impl.InHeld(b) != held || !impl.InOk(b) || impl.InRoom(b) != b.Room-len(b.Ready) {
		t.Fatalf("%s holds %d, not %d", shownIn(b), impl.InHeld(b), held)
	}
}

func TestPiecesInAnyOrderAreReadAsABeginning(t *testing.T) {
	for seed := range 60 {
		room := []int{1, 3, 8, 30, 100, 700}[seed%6]
		start := bufPlaces[seed%len(bufPlaces)]
		stream := bytesFrom(seed, 40+room)
		come := make([]bool, len(stream))
		words := spread(seed*50 + 1200)[seed*50:]
		b, read := inAt(start, "", room), ""
		for step := 0; step+3 < len(words) && len(read) < len(stream); step += 3 {
			at := int(words[step]) % len(stream)
			if words[step+1]%3 == 0 {
				at = min(max(0, len(read)+len(b.Ready)-int(words[step+1]>>8)%4), len(stream)-1)
			}
			n := min(1+int(words[step+1])%(room+4), len(stream)-at, topSeg)
			edge := len(read) + room
			fresh := 0
			for i := at; i < min(at+n, edge); i++ {
				if !come[i] {
					come[i] = true
					fresh++
				}
			}
			var many int
			b, many = impl.InPut(b, start+uint32(at), stream[at:at+n])
			if many != fresh {
				t.Fatalf("seed %d: %d bytes came new, not %d", seed, many, fresh)
			}
			checkBeginning(t, b, start, stream, read, come)
			var s string
			b, s = impl.InRead(b, int(words[step+2])%(room+2))
			read += s
			checkBeginning(t, b, start, stream, read, come)
		}
		if len(read) < 5 {
			t.Errorf("seed %d: only %d bytes were read", seed, len(read))
		}
	}
}

func TestPiecesBackwardsAndTwiceAreReadWhole(t *testing.T) {
	stream := bytesFrom(77, topBuf)
	for _, start := range []uint32{0, 100, round - 1, round - 2000} {
		for _, size := range []int{1, 2, 7, 100, topSeg} {
			b := inAt(start, "", topBuf)
			for at := (topBuf - 1) / size * size; at > 0; at -= size {
				piece := stream[at:min(at+size, topBuf)]
				for _, want := range []int{len(piece), 0} {
					var n int
					if b, n = impl.InPut(b, start+uint32(at), piece); n != want {
						t.Fatalf("%d bytes from %d on: %d came new, not %d", size, at, n, want)
					}
				}
				if b.Ready != "" || len(b.Parts) != 1 {
					t.Fatalf("backwards to %d: %s", at, shownIn(b))
				}
			}
			b, _ = impl.InPut(b, start, stream[:size])
			sameIn(t, fmt.Sprintf("backwards by %d from %d on", size, start), b, inAt(start+topBuf, stream, topBuf))
			if _, s := impl.InRead(b, topBuf); s != stream {
				t.Errorf("read: %s", short(s))
			}
		}
	}
}

// What other pieces say of a place that has come is not heard, whatever their order.
func TestBytesThatCameFirstAreKept(t *testing.T) {
	first, other := strings.Repeat("f", 40), strings.Repeat("o", 40)
	for at := 1; at < 40; at++ {
		for n := 1; at+n <= 40; n += 3 {
			b, _ := impl.InPut(inAt(round-20, "", 40), round-20+uint32(at), first[:n])
			b, many := impl.InPut(b, round-20, other)
			want := other[:at] + first[:n] + other[at+n:]
			sameIn(t, fmt.Sprintf("%d from %d on came first", n, at), b, inAt(20, want, 40))
			if many != 40-n {
				t.Errorf("%d came new, not %d", many, 40-n)
			}
		}
	}
}

// sharesText asks only of texts of two bytes or more: Go has each text of one byte just once.
func sharesText(a, b string) bool {
	if len(a) < 2 || len(b) < 2 {
		return false
	}
	from, other := uintptr(unsafe.Pointer(unsafe.StringData(a))), uintptr(unsafe.Pointer(unsafe.StringData(b)))
	return from < other+uintptr(len(b)) && other < from+uintptr(len(a))
}

// heap is the text in memory of its own, so that two equal texts of the test can't be one.
func heap(s string) string { return string([]byte(s)) }

func TestOutBufsAreNewMemory(t *testing.T) {
	for _, b := range append(badOuts(), outAt(5, heap("abcdefgh"), 8), outAt(5, heap("abcdefgh"), 12), outAt(5, "", 12)) {
		b.Data = heap(b.Data)
		s := heap("some more bytes to be sent")
		put, _ := impl.OutPut(b, s)
		empty, _ := impl.OutPut(b, "")
		done, _ := impl.OutDone(b, b.First+2)
		none, _ := impl.OutDone(b, b.First)
		far, _ := impl.OutDone(b, b.First-1)
		take := impl.OutTake(b, b.First, topBuf)
		for i, got := range []string{put.Data, empty.Data, done.Data, none.Data, far.Data, take} {
			if sharesText(got, b.Data) || sharesText(got, s) {
				t.Errorf("answer %d of %s shares its text", i, shownOut(b))
			}
		}
	}
}

// roomyIn is a buffer whose list has room behind it, filled with what must stay.
func roomyIn(b impl.InBuf, spare int) (impl.InBuf, []impl.Part) {
	whole := []impl.Part{}
	for _, p := range b.Parts {
		whole = append(whole, part(p.Seq, heap(p.Data)))
	}
	for i := range spare {
		whole = append(whole, part(uint32(7000+i), "spare"))
	}
	return inAt(b.Next, heap(b.Ready), b.Room, whole[:len(b.Parts)]...), whole
}

// inAnswers are all answers that hold a buffer, of what does something and of what does not.
func inAnswers(b impl.InBuf, s string) map[string]impl.InBuf {
	out := map[string]impl.InBuf{}
	for _, at := range []int{-topBehind - 1, -3, 0, 1, 2, 3, 8, 11, 12, topBuf - 1, topBuf} {
		out[fmt.Sprintf("InPut at %d", at)], _ = impl.InPut(b, b.Next+uint32(at), s)
		out[fmt.Sprintf("InPut of nothing at %d", at)], _ = impl.InPut(b, b.Next+uint32(at), "")
	}
	for _, n := range []int{-1, 0, 1, 2, topBuf, topBuf + 1} {
		out[fmt.Sprintf("InRead %d", n)], _ = impl.InRead(b, n)
	}
	return out
}

// textsOf are all texts of a buffer.
func textsOf(b impl.InBuf) []string {
	out := []string{b.Ready}
	for _, p := range b.Parts {
		out = append(out, p.Data)
	}
	return out
}

func TestInBufsAreNewMemory(t *testing.T) {
	for _, plain := range append(badIns(), goodIns()...) {
		b, whole := roomyIn(plain, 5)
		was := slices.Clone(whole)
		s := heap("pqrst")
		impl.InOk(b)
		impl.InRoom(b)
		impl.InHeld(b)
		for what, got := range inAnswers(b, s) {
			for _, mine := range textsOf(got) {
				for _, other := range append(textsOf(b), s) {
					if sharesText(mine, other) {
						t.Errorf("%s of %s shares a text", what, shownIn(plain))
					}
				}
			}
			list := got.Parts[:cap(got.Parts)]
			for i := range list {
				list[i] = part(9, "mine")
			}
			if !slices.Equal(whole, was) {
				t.Fatalf("%s of %s writes into its argument, or shares its list", what, shownIn(plain))
			}
		}
		if _, read := impl.InRead(b, 3); sharesText(read, b.Ready) {
			t.Errorf("InRead of %s shares its text", shownIn(plain))
		}
	}
}
