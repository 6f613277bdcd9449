package tests

import (
	"encoding/hex"
	"fmt"
	"math"
	"regexp"
	"slices"
	"strconv"
	"strings"
	"sync"
	"testing"

	"loop.example/g00107/impl"
)

const (
	topScript   = 30000
	topOpNumber = 9999
	topOpBytes  = 300
	topTold     = 40
)

// sideNames are told by the numbers of the sides.
var sideNames = []string{"left", "right"}

// wordKinds are the kinds that a word means on the left and on the right, as the document numbers them.
type wordKinds struct {
	word  string
	kinds [2]int
}

var actWords = []wordKinds{
	{"write", [2]int{0, 1}}, {"read", [2]int{2, 3}}, {"close", [2]int{4, 5}}, {"abort", [2]int{13, 14}},
	{"give", [2]int{7, 7}}, {"back", [2]int{8, 8}}, {"drop", [2]int{9, 9}}, {"lose", [2]int{10, 10}},
	{"twice", [2]int{11, 11}}, {"again", [2]int{12, 12}}, {"tick", [2]int{6, 6}},
}

// countWords are all but write.
var countWords = actWords[1:]

var (
	goodOpNumbers = []int{0, 1, 2, 7, 9, 10, 11, 99, 100, 101, 999, 1000, 1234, 9000, topOpNumber - 1, topOpNumber}
	badOpNumbers  = []int{-1, -2, -9, -10, -topOpNumber, -round, -round + 7, topOpNumber + 1, topOpNumber + 2, 12345, 99999, 100000, round, round + 1, round + 7, math.MinInt, math.MinInt + 1, math.MaxInt - 1, math.MaxInt}
	// wrongNumbers are texts where a number of 0 .. 9999 should stand.
	wrongNumbers = []string{
		"00", "000", "0000", "00000", "01", "001", "0001", "00001", "007", "010", "0100", "09999", "000000000000000000000000000000",
		"", "+", "-", "+0", "-0", "+1", "-1", "+7", "-7", "--1", "1-", "1+", "- 1", "a", "1a", "a1", "1a1", "9999a", "x7", "0x7", "7h", "0b1", "0o7", "1_0", "_1", "1_", "1.0", "1.", ".1", "1,0", "1e3", "1E3", "NaN", "Inf", "five",
		"10000", "10001", "12345", "99999", "100000", "4294967295", "4294967296", "4294967303", "9223372036854775807", "9223372036854775808", "18446744073709551615", "18446744073709551616", "18446744073709551623", "340282366920938463463374607431768211463", strings.Repeat("9", 400), strings.Repeat("1", 20000), strings.Repeat("0", 400) + "7",
		" ", " 7", "7 ", "  7", "7  ", "7 7", "7\n", "\n7", "7\t", "\t7", "7\r", "7\x00", "\x007", "7\v", "7\f", "7\u00a0", "7\xff", "٧", "７", "7;", "/", ":", "7/", "7:",
	}
	// wrongBytes are texts where bytes should stand.
	wrongBytes = []string{
		"", "0", "6", "f", "686", "68696", "0 0", "6 8", "68 69", " 68", "68 ", "68\n", "68\t", "6\n", "\n6", "68\x00", "6\x00",
		"6A", "A6", "6F", "AF", "FF", "0A", "A0", "6g", "g6", "zz", "0x", "0x68", "x6", "-6", "6-", "+6", "6+", "--", "-1", "+1", "-68", "+68", "-6869", "6.", "/0", "0/", ":0", "0:", "`a", "a`", "@a", "G0", "0G", "_6", "6_", "68_69", "68,69", "\xff\xff", "é", "٧", "６８",
	}
)

// readBack is the op that a line should be read as.
func readBack(side, kind, n int, data string) impl.WorldOp {
	return impl.WorldOp{Side: side, Op: impl.PairOp{Kind: kind, N: n, Data: data}}
}

func readsAs(t *testing.T, line string, want impl.WorldOp) {
	t.Helper()
	if got, ok := impl.ReadOp(line); !ok || got != want {
		t.Errorf("ReadOp(%s) is %s, %v, not %s", short(line), shownWorldOp(got), ok, shownWorldOp(want))
	}
}

func readsNot(t *testing.T, line string) {
	t.Helper()
	if got, ok := impl.ReadOp(line); ok || got != (impl.WorldOp{}) {
		t.Errorf("ReadOp(%s) is %s, %v", short(line), shownWorldOp(got), ok)
	}
}

func showsAs(t *testing.T, o impl.WorldOp, want string) {
	t.Helper()
	if got := impl.ShowOp(o); got != want {
		t.Errorf("ShowOp(%s) is %s, not %s", shownWorldOp(o), short(got), short(want))
	}
}

var (
	countForm = regexp.MustCompile(`\A(left|right) (read|close|abort|give|back|drop|lose|twice|again|tick) (0|[1-9][0-9]{0,3})\z`)
	writeForm = regexp.MustCompile(`\A(left|right) write ((?:[0-9a-f]{2}){1,300})\z`)
)

func sideBy(name string) int { return slices.Index(sideNames, name) }

// opBy holds a line against both of its forms.
func opBy(line string) (impl.WorldOp, bool) {
	if m := countForm.FindStringSubmatch(line); m != nil {
		i := slices.IndexFunc(actWords, func(w wordKinds) bool { return w.word == m[2] })
		n, _ := strconv.Atoi(m[3])
		return readBack(sideBy(m[1]), actWords[i].kinds[sideBy(m[1])], n, ""), true
	}
	if m := writeForm.FindStringSubmatch(line); m != nil {
		data, _ := hex.DecodeString(m[2])
		return readBack(sideBy(m[1]), sideBy(m[1]), 0, string(data)), true
	}
	return impl.WorldOp{}, false
}

// agrees asks that a line is read as its forms say.
func agrees(t *testing.T, line string) bool {
	t.Helper()
	want, some := opBy(line)
	if some {
		readsAs(t, line, want)
		showsAs(t, want, line)
	} else {
		readsNot(t, line)
	}
	return some
}

// textBy is the line of an op, put together by what the op has.
func textBy(o impl.WorldOp) string {
	if o.Side != 0 && o.Side != 1 {
		return ""
	}
	for _, w := range actWords {
		writes := w.word == "write"
		switch {
		case w.kinds[o.Side] != o.Op.Kind:
		case writes && o.Op.N == 0 && len(o.Op.Data) >= 1 && len(o.Op.Data) <= topOpBytes:
			return fmt.Sprintf("%s write %x", sideNames[o.Side], o.Op.Data)
		case !writes && o.Op.Data == "" && o.Op.N >= 0 && o.Op.N <= topOpNumber:
			return fmt.Sprintf("%s %s %d", sideNames[o.Side], w.word, o.Op.N)
		}
	}
	return ""
}

// This one stands ahead of all others that read or show a line, so that the first words of all are asked for at once.
func TestTheFirstWordsOfAll(t *testing.T) {
	var all sync.WaitGroup
	for i := range 32 {
		all.Add(1)
		go func() {
			defer all.Done()
			act := actWords[1+i%10]
			readsAs(t, "right "+act.word+" 7", readBack(1, act.kinds[1], 7, ""))
			showsAs(t, readBack(1, act.kinds[1], 7, ""), "right "+act.word+" 7")
		}()
	}
	all.Wait()
}

func TestDeskConstants(t *testing.T) {
	if impl.MaxScript != topScript || impl.MaxPairOps != topPairOps {
		t.Errorf("MaxScript %d, MaxPairOps %d", impl.MaxScript, impl.MaxPairOps)
	}
}

func TestReadOpByHand(t *testing.T) {
	for _, row := range []struct {
		line string
		want impl.WorldOp
	}{
		{"left write 6869", onLeft(writes(impl.PairWriteA, "hi"))}, {"right write 6869", onRight(writes(impl.PairWriteB, "hi"))},
		{"left read 300", onLeft(op(impl.PairReadA, 300))}, {"right read 300", onRight(op(impl.PairReadB, 300))},
		{"left close 0", onLeft(op(impl.PairCloseA, 0))}, {"right close 0", onRight(op(impl.PairCloseB, 0))},
		{"left abort 1", onLeft(op(impl.PairAbortA, 1))}, {"right abort 1", onRight(op(impl.PairAbortB, 1))},
		{"left give 2", onLeft(op(impl.PairGiveB, 2))}, {"right give 2", onRight(op(impl.PairGiveB, 2))},
		{"left back 3", onLeft(op(impl.PairGiveA, 3))}, {"right back 3", onRight(op(impl.PairGiveA, 3))},
		{"left drop 4", onLeft(op(impl.PairDropB, 4))}, {"right drop 4", onRight(op(impl.PairDropB, 4))},
		{"left lose 5", onLeft(op(impl.PairDropA, 5))}, {"right lose 5", onRight(op(impl.PairDropA, 5))},
		{"left twice 6", onLeft(op(impl.PairTwiceB, 6))}, {"right twice 6", onRight(op(impl.PairTwiceB, 6))},
		{"left again 7", onLeft(op(impl.PairTwiceA, 7))}, {"right again 7", onRight(op(impl.PairTwiceA, 7))},
		{"left tick 9999", onLeft(op(impl.PairTick, 9999))}, {"right tick 9999", onRight(op(impl.PairTick, 9999))},
	} {
		readsAs(t, row.line, row.want)
		showsAs(t, row.want, row.line)
	}
}

// Each word on each side, field by field, at every number that tells something.
func TestReadOpOfEachWord(t *testing.T) {
	for side, name := range sideNames {
		for _, w := range countWords {
			for _, n := range goodOpNumbers {
				line := fmt.Sprintf("%s %s %d", name, w.word, n)
				got, ok := impl.ReadOp(line)
				if !ok || got.Side != side || got.Op.Kind != w.kinds[side] || got.Op.N != n || got.Op.Data != "" {
					t.Errorf("ReadOp(%q) is %s, %v", line, shownWorldOp(got), ok)
				}
			}
			for _, n := range badOpNumbers {
				readsNot(t, fmt.Sprintf("%s %s %d", name, w.word, n))
			}
			for _, wrong := range wrongNumbers {
				readsNot(t, name+" "+w.word+" "+wrong)
			}
		}
	}
	for n := range topOpNumber + 1 {
		readsAs(t, fmt.Sprint("left tick ", n), onLeft(op(impl.PairTick, n)))
		readsNot(t, fmt.Sprint("left tick 0", n))
	}
}

func TestReadOpOfBytes(t *testing.T) {
	for side, name := range sideNames {
		good := func(text, data string) {
			t.Helper()
			got, ok := impl.ReadOp(name + " write " + text)
			if !ok || got.Side != side || got.Op.Kind != side || got.Op.N != 0 || got.Op.Data != data {
				t.Errorf("%s write %s is %s, %v", name, short(text), shownWorldOp(got), ok)
			}
		}
		for c := range 256 {
			text := "0123456789abcdef"[c/16:c/16+1] + "0123456789abcdef"[c%16:c%16+1]
			good(text, string([]byte{byte(c)}))
			good("00"+text+"ff", string([]byte{0, byte(c), 255}))
		}
		for _, row := range [][2]string{
			{"00", "\x00"}, {"0000", "\x00\x00"}, {"0001", "\x00\x01"}, {"000000000007", "\x00\x00\x00\x00\x00\x07"}, {"10", "\x10"}, {"01", "\x01"}, {"0a", "\n"}, {"20", " "},
			{"09", "\t"}, {"ff", "\xff"}, {"f0", "\xf0"}, {"0f", "\x0f"}, {"9999", "\x99\x99"}, {"10000a", "\x10\x00\n"}, {"68656c6c6f", "hello"}, {"c3a9", "é"},
		} {
			good(row[0], row[1])
		}
		for _, n := range []int{1, 2, 3, 150, topOpBytes - 1, topOpBytes} {
			data := bytesFrom(n, n)
			good(hex.EncodeToString([]byte(data)), data)
			good(strings.Repeat("00", n), strings.Repeat("\x00", n))
		}
		for _, n := range []int{topOpBytes + 1, topOpBytes + 2, 2 * topOpBytes, 5000, 50000} {
			readsNot(t, name+" write "+hex.EncodeToString([]byte(bytesFrom(n, n))))
			readsNot(t, name+" write "+strings.Repeat("00", n))
		}
		for _, wrong := range wrongBytes {
			readsNot(t, name+" write "+wrong)
			readsNot(t, name+" write 6869"+wrong+"x")
		}
		// A wrong digit anywhere is one too many, and so is half a byte behind any number of them.
		full := strings.Repeat("7a", topOpBytes)
		for i := range full {
			readsNot(t, name+" write "+full[:i]+"A"+full[i+1:])
			if i%2 == 1 {
				readsNot(t, name+" write "+full[:i])
			}
		}
		readsNot(t, name+" write "+full+"7")
	}
}

// A digit is one of sixteen bytes, whatever stands beside it.
func TestEveryByteAsADigit(t *testing.T) {
	for c := range 256 {
		digit := string([]byte{byte(c)})
		for _, line := range []string{"left write " + digit + "7", "left write 7" + digit, "left tick " + digit, "left tick 7" + digit, "left tick " + digit + "7", "right write 00" + digit + digit} {
			agrees(t, line)
		}
	}
}

func TestLinesThatAreNone(t *testing.T) {
	for _, line := range []string{
		"", " ", "  ", "   ", "\n", "\t", "left", "right", "tick", "1", "left ", "left  ", " left", "left tick", "left tick ", "left  tick", "tick 1", "left 1", "left write", "left write ", "write 68", "left 68",
		"left  tick 1", "left tick  1", "left  tick  1", " left tick 1", "left tick 1 ", "  left tick 1", "left tick 1  ", " left tick 1 ", "left tick 1 1", "left tick 1 right", "left left tick 1", "left tick tick 1", "left right tick 1", "left tick 1 left tick 1",
		"left\ttick 1", "left tick\t1", "left tick 1\t", "\tleft tick 1", "left tick 1\n", "\nleft tick 1", "left\ntick 1", "left tick\n1", "left tick 1\r", "left tick 1\r\n", "left\u00a0tick 1", "left\x00tick 1", "left tick 1\x00", "left tick 1\nleft tick 1",
		"LEFT tick 1", "Left tick 1", "left TICK 1", "left Tick 1", "RIGHT TICK 1", "left WRITE 68", "left Write 68", "lefttick 1", "left tick1", "lefttick1", "left,tick,1", "left-tick-1", "l tick 1", "lef tick 1", "leftt tick 1", "eft tick 1",
		"up tick 1", "down tick 1", "both tick 1", "0 tick 1", "1 tick 1", "a tick 1", "left ticks 1", "left tic 1", "left t 1", "left ick 1", "left giveb 1", "left PairTick 1", "left 6 1", "left  1", "left write 68 1", "left write 1 68", "left write 68 69", "left tick 68656c",
		"left read", "right close", "left close", "left abort", "right abort ", "tick left 1", "1 tick left", "left 1 tick", "right, tick 1", "# left tick 1", "left tick 1 #", "left tick 1;", "\ufeffleft tick 1", strings.Repeat(" ", 30000), strings.Repeat("left ", 6000), "left tick" + strings.Repeat(" ", 2000) + "1", strings.Repeat("left tick 1 ", 100),
	} {
		readsNot(t, line)
		if agrees(t, line) {
			t.Errorf("%q is a line after all", line)
		}
	}
}

// spoiltLines are a line with a byte of it taken away, put in, or made another.
func spoiltLines(line string) []string {
	out := []string{}
	for i := range len(line) + 1 {
		for _, c := range []string{" ", "\t", "\n", "\x00", "0", "1", "a", "A", "l", "-", "+"} {
			out = append(out, line[:i]+c+line[i:])
			if i < len(line) {
				out = append(out, line[:i]+c+line[i+1:])
			}
		}
		if i < len(line) {
			out = append(out, line[:i]+line[i+1:], line[:i], line[i:], line[:i]+strings.ToUpper(line[i:i+1])+line[i+1:])
		}
		if i+1 < len(line) {
			out = append(out, line[:i]+line[i+1:i+2]+line[i:i+1]+line[i+2:])
		}
	}
	return out
}

// P16: what is a line is read and told so, and what is none, however near, is not.
func TestSpoiltLines(t *testing.T) {
	seen := map[bool]int{}
	for _, name := range sideNames {
		for _, w := range actWords {
			for _, last := range []string{"0", "7", "10", "68", "9999", "00ff", "90a1"} {
				line := name + " " + w.word + " " + last
				seen[agrees(t, line)]++
				for _, spoilt := range spoiltLines(line) {
					seen[agrees(t, spoilt)]++
				}
			}
		}
	}
	if seen[true] < 1000 || seen[false] < 50000 {
		t.Errorf("%d are lines, %d are none", seen[true], seen[false])
	}
}

// Every kind on every side, at numbers and bytes that tell something, good ones and wrong ones.
func TestShowOpOfEveryOp(t *testing.T) {
	seen := map[bool]int{}
	datas := []string{"", "\x00", "x", "hi", "\x00\xff\n ", bytesFrom(3, topOpBytes-1), bytesFrom(4, topOpBytes), bytesFrom(5, topOpBytes+1), bytesFrom(6, 5000)}
	kinds := []int{-1, -2, 15, 16, 100, round, round + 6, -round, -round + 6, math.MinInt, math.MinInt + 6, math.MaxInt}
	for kind := range 15 {
		kinds = append(kinds, kind)
	}
	for _, side := range append([]int{0, 1}, noSides...) {
		for _, kind := range kinds {
			for _, n := range append(slices.Clone(goodOpNumbers), badOpNumbers...) {
				for _, data := range datas {
					o := readBack(side, kind, n, data)
					want := textBy(o)
					showsAs(t, o, want)
					seen[want != ""]++
					if want != "" {
						readsAs(t, want, o)
					}
				}
			}
		}
	}
	if seen[true] < 320 || seen[false] < 10000 {
		t.Errorf("%d have a line, %d have none", seen[true], seen[false])
	}
}

func TestShowOpByHand(t *testing.T) {
	for _, row := range []struct {
		o    impl.WorldOp
		want string
	}{
		{impl.WorldOp{}, ""}, {onLeft(writes(impl.PairWriteA, "x")), "left write 78"}, {onRight(writes(impl.PairWriteB, "x")), "right write 78"},
		{onLeft(writes(impl.PairWriteB, "x")), ""}, {onRight(writes(impl.PairWriteA, "x")), ""}, {onRight(impl.PairOp{}), ""}, {onRight(writes(impl.PairWriteB, "")), ""},
		{onLeft(op(impl.PairReadB, 1)), ""}, {onRight(op(impl.PairReadA, 1)), ""}, {onLeft(op(impl.PairCloseB, 0)), ""}, {onRight(op(impl.PairCloseA, 0)), ""}, {onLeft(op(impl.PairAbortB, 0)), ""}, {onRight(op(impl.PairAbortA, 0)), ""},
		{onLeft(op(impl.PairTick, -1)), ""}, {onLeft(op(impl.PairTick, 0)), "left tick 0"}, {onLeft(op(impl.PairTick, topOpNumber)), "left tick 9999"}, {onLeft(op(impl.PairTick, topOpNumber+1)), ""},
		{impl.WorldOp{Side: 2, Op: op(impl.PairTick, 1)}, ""}, {impl.WorldOp{Side: -1, Op: op(impl.PairTick, 1)}, ""}, {onLeft(op(-1, 1)), ""}, {onLeft(op(15, 1)), ""},
		// What ReadOp leaves at its zero value has no place in a line.
		{onLeft(impl.PairOp{Kind: impl.PairWriteA, N: 1, Data: "x"}), ""}, {onRight(impl.PairOp{Kind: impl.PairWriteB, N: -1, Data: "x"}), ""}, {onLeft(impl.PairOp{Kind: impl.PairTick, N: 1, Data: "x"}), ""}, {onRight(impl.PairOp{Kind: impl.PairGiveA, Data: "\x00"}), ""},
		{onLeft(writes(impl.PairWriteA, strings.Repeat("\x0f", topOpBytes))), "left write " + strings.Repeat("0f", topOpBytes)}, {onLeft(writes(impl.PairWriteA, strings.Repeat("\x0f", topOpBytes+1))), ""},
	} {
		showsAs(t, row.o, row.want)
	}
}

// scriptOps are so many ops that have lines, drawn so that something comes of them.
func scriptOps(seed, many int) []impl.WorldOp {
	words := spread(4 * (seed*7 + many))[4*seed*7:]
	out := []impl.WorldOp{}
	for i := range many {
		w := words[4*i:]
		side := int(w[0]>>8) % 2
		act := actWords[int(w[1]>>8)%len(actWords)]
		switch w[2] % 16 {
		case 0, 1, 2, 3, 4:
			act = actWords[4+int(w[1]>>8)%2]
		case 5, 6, 7:
			act = actWords[0]
		}
		if act.word == "abort" && w[3]%64 != 0 || act.word == "close" && w[3]%8 != 0 {
			act = actWords[10]
		}
		o := readBack(side, act.kinds[side], int(w[3]>>8)%4, "")
		switch {
		case act.word == "write":
			o.Op.N, o.Op.Data = 0, bytesFrom(int(w[3]%99), 1+int(w[2]>>8)%topOpBytes)
		case act.word == "read":
			o.Op.N = int(w[3]>>8) % 700
		case w[3]%32 == 0:
			o.Op.N = int(w[2]>>8) % 10000
		}
		out = append(out, o)
	}
	return out
}

func scriptBy(ops []impl.WorldOp) string {
	text := ""
	for _, o := range ops {
		text += textBy(o) + "\n"
	}
	return text
}

func isScriptOf(t *testing.T, text string, want []impl.WorldOp) {
	t.Helper()
	got, n, ok := impl.ReadScript(text)
	if !ok || n != 0 || !slices.Equal(got, want) {
		t.Errorf("ReadScript(%s) is %d ops, %d, %v; not %d ops", short(text), len(got), n, ok, len(want))
	}
}

func failsAt(t *testing.T, text string, line int) {
	t.Helper()
	got, n, ok := impl.ReadScript(text)
	if ok || n != line || len(got) != 0 {
		t.Errorf("ReadScript(%s) is %d ops, %d, %v; not refused at %d", short(text), len(got), n, ok, line)
	}
}

func isNoScript(t *testing.T, text string) {
	t.Helper()
	failsAt(t, text, 0)
}

func TestReadScriptByHand(t *testing.T) {
	isScriptOf(t, "", nil)
	isScriptOf(t, "left tick 1\n", []impl.WorldOp{onLeft(op(impl.PairTick, 1))})
	isScriptOf(t, "left tick 1\nright lose 0\nleft write 6869\n", []impl.WorldOp{onLeft(op(impl.PairTick, 1)), onRight(op(impl.PairDropA, 0)), onLeft(writes(impl.PairWriteA, "hi"))})
	isScriptOf(t, "right write 0a\nright write 0a0a\n", []impl.WorldOp{onRight(writes(impl.PairWriteB, "\n")), onRight(writes(impl.PairWriteB, "\n\n"))})
	for _, text := range []string{"left tick 1", "left tick 1\nright lose 0", "left tick 1\nright lose 0\nleft", "left tick 1\n ", "left tick 1\n\t", "left tick 1\n\r", "left tick 1\n\x00", " ", "x", "left tick 1\r"} {
		isNoScript(t, text)
	}
	for text, line := range map[string]int{
		"\n": 1, "\n\n": 1, " \n": 1, "x\n": 1, "\nleft tick 1\n": 1, "left tick 1\n\n": 2, "left tick 1\n\nleft tick 1\n": 2, "left tick 1\nwhat\n": 2, "what\nleft tick 1\n": 1, "left tick 1\r\n": 1, "left tick 1\nleft tick 2\r\n": 2,
		"left tick 1\nleft tick 01\nleft tick 1\n": 2, "left tick 1\nleft tick 2\nleft tick 10000\n": 3, "left tick 1 \n": 1, "left tick 1\n left tick 1\n": 2, "left tick 1;left tick 1\n": 1, "left tick 1\n# nothing\n": 2, "left tick 1\nleft write\nwhat\n": 2,
	} {
		failsAt(t, text, line)
	}
}

// P16: ops come back from their lines, and a script read in two parts is read at once.
func TestScriptsComeBack(t *testing.T) {
	for seed := range 40 {
		ops := scriptOps(seed, seed*4%130)
		text := ""
		for _, o := range ops {
			line := impl.ShowOp(o)
			if line != textBy(o) || line == "" {
				t.Fatalf("ShowOp(%s) is %q", shownWorldOp(o), line)
			}
			text += line + "\n"
		}
		isScriptOf(t, text, ops)
		for _, cut := range []int{0, len(ops) / 3, len(ops)} {
			one, two := scriptBy(ops[:cut]), scriptBy(ops[cut:])
			isScriptOf(t, one, ops[:cut])
			isScriptOf(t, two, ops[cut:])
			isScriptOf(t, one+two, ops)
		}
	}
}

// Wherever a line is none, the first such one is told.
func TestTheFirstLineThatIsNone(t *testing.T) {
	for _, many := range []int{1, 2, 3, 9, 10, 11, 60} {
		lines := strings.Split(strings.TrimSuffix(scriptBy(scriptOps(many, many)), "\n"), "\n")
		whole := func(list []string) string { return strings.Join(list, "\n") + "\n" }
		for i := range lines {
			for _, wrong := range []string{"", " ", "what", "left tick 01", lines[i] + " ", " " + lines[i], lines[i] + "\t", "left write " + strings.Repeat("61", topOpBytes+1), "right tick 10000"} {
				spoilt := slices.Clone(lines)
				spoilt[i] = wrong
				failsAt(t, whole(spoilt), i+1)
				failsAt(t, whole(append(slices.Clone(lines[:i]), append([]string{wrong}, lines[i:]...)...)), i+1)
				for _, j := range []int{i, (i + len(lines)) / 2, len(lines) - 1} {
					twice := slices.Clone(spoilt)
					twice[j] = "what else"
					failsAt(t, whole(twice), i+1)
				}
			}
		}
		failsAt(t, whole(append(slices.Clone(lines), "")), many+1)
		failsAt(t, whole(append(slices.Clone(lines), "what")), many+1)
	}
}

// shortLine is as short as a line can be.
const shortLine = "left tick 1\n"

// fullScript has so many lines, and so many bytes: what short lines lack is written on the left, two digits a byte, and one byte more is in the word of the other side.
func fullScript(t *testing.T, lines, size int) string {
	t.Helper()
	spare := size - len(shortLine)*lines
	text := strings.Repeat("right tick 1\n", spare%2)
	for range lines - spare%2 {
		n := min((size-len(text)-len(shortLine)*(lines-strings.Count(text, "\n")))/2, topOpBytes)
		if n == 0 {
			text += shortLine
		} else {
			text += "left write " + strings.Repeat("61", n) + "\n"
		}
	}
	if len(text) != size || strings.Count(text, "\n") != lines {
		t.Fatalf("%d bytes and %d lines", len(text), strings.Count(text, "\n"))
	}
	return text
}

func opsBy(text string) []impl.WorldOp {
	out := []impl.WorldOp{}
	for _, line := range strings.Split(strings.TrimSuffix(text, "\n"), "\n") {
		o, _ := opBy(line)
		out = append(out, o)
	}
	return out
}

func TestScriptsAtTheirLimits(t *testing.T) {
	for _, many := range []int{50, 51, 100, topPairOps - 1, topPairOps} {
		for _, size := range []int{topScript - 1, topScript} {
			text := fullScript(t, many, size)
			isScriptOf(t, text, opsBy(text))
		}
		for _, size := range []int{topScript + 1, topScript + 2, topScript + 100} {
			isNoScript(t, fullScript(t, many, size))
		}
	}
	for _, many := range []int{topPairOps - 1, topPairOps} {
		text := fullScript(t, many, len(shortLine)*many)
		isScriptOf(t, text, opsBy(text))
		isNoScript(t, text[:len(text)-1])
		failsAt(t, strings.Replace(text, "left", "lift", 1), 1)
		failsAt(t, text[:len(text)-1]+"0000\n", many)
	}
	for _, many := range []int{topPairOps + 1, topPairOps + 2, 2499, 2500} {
		isNoScript(t, fullScript(t, many, len(shortLine)*many))
	}
	isNoScript(t, fullScript(t, topPairOps+1, topScript))
	isNoScript(t, strings.Repeat(shortLine, 100000))
	isNoScript(t, strings.Repeat(shortLine, topPairOps)+"\n")
	for _, many := range []int{1, 2, topPairOps - 1, topPairOps} {
		failsAt(t, strings.Repeat("\n", many), 1)
	}
	for _, many := range []int{topPairOps + 1, topScript - 1, topScript, topScript + 1} {
		isNoScript(t, strings.Repeat("\n", many))
	}
	failsAt(t, strings.Repeat("x", topScript-1)+"\n", 1)
	isNoScript(t, strings.Repeat("x", topScript)+"\n")
	isNoScript(t, strings.Repeat("x", topScript))
}

// What is no script has no lines: it is refused as a whole, whatever its lines would be.
func TestWhichFailureIsTold(t *testing.T) {
	for _, bad := range []string{"what", "", "left tick 01"} {
		lines := bad + "\n"
		failsAt(t, lines+"left tick 1\n", 1)
		isNoScript(t, lines+"left tick 1")
		isNoScript(t, "left tick 1\n"+lines+"left tick 1")
		isNoScript(t, lines+"what")
		isNoScript(t, lines+" ")
		full := fullScript(t, 60, topScript)
		failsAt(t, bad+full[strings.Index(full, "\n"):], 1)
		isNoScript(t, lines+fullScript(t, 60, topScript))
		isNoScript(t, fullScript(t, 60, topScript)+lines)
		many := strings.Repeat(shortLine, topPairOps-1)
		failsAt(t, lines+many, 1)
		failsAt(t, many+lines, topPairOps)
		isNoScript(t, lines+many+"left tick 1\n")
		isNoScript(t, many+lines+"left tick 1\n")
		isNoScript(t, many+"left tick 1\n"+lines)
	}
	isNoScript(t, "left tick 1\nwhat")
}

func firstBytesBy(got string) string {
	if got == "" {
		return "-"
	}
	return fmt.Sprintf("%x", got[:min(len(got), topTold)])
}

// deskWorld is where the ops of a text lead to.
func deskWorld(iss [4]uint32, room, pipe int, ops []impl.WorldOp, calm int) impl.World {
	w, _ := impl.WorldStart(iss, room, pipe)
	return impl.WorldCalm(impl.WorldRun(w, ops), calm)
}

func deskBy(w impl.World) string {
	return impl.WorldText(w) + "\nserver " + firstBytesBy(w.Right.GotB) + "\nclient " + firstBytesBy(w.Left.GotA) + "\n"
}

var deskPlaces = [4]uint32{1000, 5000, 7000, 9000}

// stand opens both lines without a tick.
const stand = "left give 0\nleft back 0\nleft give 0\nright give 0\nright back 0\nright give 0\n"

func tellsDesk(t *testing.T, room, pipe int, text string, calm int, want string) {
	t.Helper()
	if got := impl.Desk(deskPlaces, room, pipe, text, calm); got != want {
		t.Errorf("Desk of rooms %d and %d, %s, %d ticks is %q, not %q", room, pipe, short(text), calm, got, want)
	}
}

func TestDeskByHand(t *testing.T) {
	for _, row := range []struct {
		text string
		calm int
		want string
	}{
		{"", 0, "1 0 0 0 0 0 0 0 0\nserver -\nclient -\n"}, {"", 5, "3 3 3 3 0 0 0 0 0\nserver -\nclient -\n"},
		{"left give 0\n", 0, "1 2 0 0 0 0 0 0 0\nserver -\nclient -\n"}, {"left give 0\nleft back 0\n", 0, "3 2 0 0 0 0 0 0 0\nserver -\nclient -\n"},
		{"left give 0\nleft back 0\nleft give 0\n", 0, "3 3 1 0 0 0 0 0 0\nserver -\nclient -\n"}, {stand, 0, "3 3 3 3 0 0 0 0 0\nserver -\nclient -\n"},
		{"left write 6869\n", 20, "3 3 3 3 2 2 0 0 0\nserver 6869\nclient -\n"}, {"right write 6869\n", 20, "3 3 3 3 0 0 0 0 0\nserver -\nclient -\n"},
		{stand + "left write 6869\n", 0, "3 3 3 3 2 0 0 0 0\nserver -\nclient -\n"}, {stand + "left write 6869\n", 3, "3 3 3 3 2 2 0 0 0\nserver 6869\nclient -\n"},
		{stand + "right write 00ff0a\n", 3, "3 3 3 3 0 0 3 3 0\nserver -\nclient 00ff0a\n"}, {stand + "left write 6869\nright write 6a6b6c\n", 3, "3 3 3 3 2 2 3 3 0\nserver 6869\nclient 6a6b6c\n"},
		{stand + "left close 0\nright close 0\n", 100, "0 0 0 0 0 0 0 0 0\nserver -\nclient -\n"}, {stand + "left abort 0\n", 3, "0 0 0 0 0 0 0 0 0\nserver -\nclient -\n"}, {stand + "right abort 7\n", 3, "0 0 0 0 0 0 0 0 0\nserver -\nclient -\n"},
		{stand + "right write 6162\nright back 0\nleft back 0\nleft read 1\n", 0, "3 3 3 3 0 0 2 1 0\nserver -\nclient 61\n"}, {stand + "left write 6162\nleft give 0\nright give 0\nright read 9\n", 0, "3 3 3 3 2 2 0 0 0\nserver 6162\nclient -\n"},
		{stand + "left write 6162\nleft drop 0\n", 1, "3 3 3 3 2 0 0 0 0\nserver -\nclient -\n"}, {stand + "left write 6162\nleft drop 0\n", 60, "3 3 3 3 2 2 0 0 0\nserver 6162\nclient -\n"}, {stand + "right write 6162\nright lose 0\n", 60, "3 3 3 3 0 0 2 2 0\nserver -\nclient 6162\n"},
		{"left drop 0\n", 3, "1 0 0 0 0 0 0 0 0\nserver -\nclient -\n"}, {"left drop 0\nright tick 600\n", 3, "3 3 3 3 0 0 0 0 0\nserver -\nclient -\n"}, {"left twice 0\nleft drop 0\n", 5, "3 3 3 3 0 0 0 0 0\nserver -\nclient -\n"},
		{"x\n", 5, "script 1\n"}, {"left tick 1\nwhat\n", 5, "script 2\n"}, {"left tick 1", 5, "script 0\n"}, {"x", 5, "script 0\n"}, {"\n", 5, "script 1\n"}, {stand + "left tick 007\n", 5, "script 7\n"},
	} {
		tellsDesk(t, 200, 50, row.text, row.calm, row.want)
	}
}

// What WorldStart has not is told first, whatever the text and the ticks are.
func TestDeskThatCannotStart(t *testing.T) {
	texts := []string{"", "left tick 1\n", "what\n", "left tick 1\n\n", "left tick 1", "x", strings.Repeat("\n", topScript+1)}
	for _, text := range texts {
		for _, calm := range []int{0, 5, topWorldCalm + 1, -1} {
			for _, bad := range badRooms {
				tellsDesk(t, bad, 50, text, calm, "start\n")
				tellsDesk(t, bad, 0, text, calm, "start\n")
			}
			for _, bad := range noPipeRooms {
				tellsDesk(t, 200, bad, text, calm, "start\n")
			}
		}
	}
	for _, room := range startRooms {
		for _, pipe := range pipeRooms {
			for i, want := range []string{"1 0 0 0 0 0 0 0 0\nserver -\nclient -\n", "1 0 0 0 0 0 0 0 0\nserver -\nclient -\n", "script 1\n", "script 2\n", "script 0\n", "script 0\n", "script 0\n"} {
				tellsDesk(t, room, pipe, texts[i], 0, want)
			}
		}
	}
}

// What no script tells does not hang on the ticks, and no world is begun for it.
func TestDeskWithoutAScript(t *testing.T) {
	lines := strings.Split(scriptBy(scriptOps(3, 30)), "\n")
	for _, calm := range []int{0, 1, 5, topWorldCalm, topWorldCalm + 1, -1} {
		for i := range 30 {
			spoilt := slices.Clone(lines)
			spoilt[i] += " "
			tellsDesk(t, 200, 50, strings.Join(spoilt, "\n"), calm, fmt.Sprintf("script %d\n", i+1))
		}
		tellsDesk(t, 200, 50, strings.Join(lines[:30], "\n"), calm, "script 0\n")
		tellsDesk(t, 200, 50, strings.Repeat(shortLine, topPairOps+1), calm, "script 0\n")
		tellsDesk(t, 200, 50, strings.Repeat(shortLine, topPairOps-1)+"left tick 1 \n", calm, "script 2000\n")
	}
}

func TestDeskCalm(t *testing.T) {
	text := "left write 6869\nleft drop 0\n"
	asked, came := "1 0 0 0 2 0 0 0 0\nserver -\nclient -\n", "3 3 3 3 2 2 0 0 0\nserver 6869\nclient -\n"
	for _, bad := range badWorldCalms {
		tellsDesk(t, 200, 50, text, bad, asked)
		tellsDesk(t, 200, 50, "", bad, "1 0 0 0 0 0 0 0 0\nserver -\nclient -\n")
	}
	for calm, want := range map[int]string{0: asked, 1: asked, 2: asked, 60: came, topWorldCalm - 1: came, topWorldCalm: came} {
		tellsDesk(t, 200, 50, text, calm, want)
	}
	for calm := range 120 {
		tellsDesk(t, 200, 50, text, calm, deskBy(deskWorld(deskPlaces, 200, 50, opsBy(text), calm)))
	}
}

// Of what both ends got the first bytes are told, each of them, and how many there are in all.
func TestDeskTellsWhatCame(t *testing.T) {
	many := []int{0, 1, 2, topTold - 1, topTold, topTold + 1, topTold + 2, 100, topOpBytes}
	line := func(side string, data string) string {
		if data == "" {
			return ""
		}
		return fmt.Sprintf("%s write %x\n", side, data)
	}
	for _, up := range many {
		for _, down := range many {
			wrote, answered := bytesFrom(up, up), bytesFrom(down+500, down)
			want := fmt.Sprintf("3 3 3 3 %d %d %d %d 0\nserver %s\nclient %s\n", up, up, down, down, firstBytesBy(wrote), firstBytesBy(answered))
			tellsDesk(t, 400, 70, stand+line("left", wrote)+line("right", answered), 50, want)
		}
	}
	for c := range 256 {
		b := string([]byte{byte(c)})
		tellsDesk(t, 400, 70, stand+line("left", b)+line("right", b+b), 5, fmt.Sprintf("3 3 3 3 1 1 2 2 0\nserver %02x\nclient %02x%02x\n", c, c, c))
	}
}

// P16: what the desk tells is what its parts tell, over drawn scripts.
func TestDeskIsItsParts(t *testing.T) {
	seen := map[string]int{}
	for seed := range 150 {
		words := spread(seed + 40)[seed:]
		iss := [4]uint32{words[0], round - 1, words[1], round - 200}
		room, pipe := []int{1, 30, 99, 150, 300, 1000, topBuf}[seed%7], []int{1, 10, 99, 500, topPipe}[seed%5]
		ops := scriptOps(seed, seed*3%280)
		calm := []int{0, 1, 7, 60, 300, -1, topWorldCalm + 1}[seed%11%7]
		w := deskWorld(iss, room, pipe, ops, calm)
		text, want := scriptBy(ops), deskBy(w)
		if got := impl.Desk(iss, room, pipe, text, calm); got != want {
			t.Fatalf("Desk of rooms %d and %d, script %d, %d ticks is %q, not %q", room, pipe, seed, calm, got, want)
		}
		read, _, _ := impl.ReadScript(text)
		sameWorld(t, "what is read", deskWorld(iss, room, pipe, read, calm), w)
		seen["bytes at the server"] += len(w.Right.GotB)
		seen["bytes at the client"] += len(w.Left.GotA)
		seen["more than is told"] += (len(w.Right.GotB) + len(w.Left.GotA)) / (topTold + 1)
		if w.Begun {
			seen["begun"]++
		}
	}
	for what, least := range map[string]int{"bytes at the server": 5000, "bytes at the client": 2000, "more than is told": 200, "begun": 80} {
		if seen[what] < least {
			t.Errorf("%s: %d", what, seen[what])
		}
	}
}

// As many lines as there may be, in as many bytes as there may be.
func TestDeskOfAFullScript(t *testing.T) {
	for _, text := range []string{fullScript(t, topPairOps, topScript), fullScript(t, 50, topScript)} {
		w := deskWorld(deskPlaces, 300, 50, opsBy(text), 300)
		tellsDesk(t, 300, 50, text, 300, deskBy(w))
		tellsDesk(t, 300, 50, text[:len(text)-1], 300, "script 0\n")
	}
}

// What is answered is new memory, and of two answers each has its own.
func TestDeskAnswersAreNewMemory(t *testing.T) {
	text := heap(scriptBy(scriptOps(5, 60)) + "left write 6161616161\nright write 6161616161\n")
	was := strings.Clone(text)
	one, _, _ := impl.ReadScript(text)
	two, _, _ := impl.ReadScript(text)
	datas := []string{}
	for _, o := range append(slices.Clone(one), two...) {
		if o.Op.Data != "" {
			datas = append(datas, o.Op.Data)
		}
	}
	ownTexts(t, "ReadScript", datas, []string{text})
	kept := slices.Clone(two)
	one = one[:cap(one)]
	for i := range one {
		one[i] = onRight(op(impl.PairAbortB, 77))
	}
	if again, _, _ := impl.ReadScript(text); !slices.Equal(two, kept) || !slices.Equal(again, kept) {
		t.Error("one answer's list is another's")
	}
	none, _, _ := impl.ReadScript("what\n")
	other, _, _ := impl.ReadScript("")
	if len(append(none, one[0])) != 1 || len(append(other, two[0])) != 1 || text != was {
		t.Error("written into")
	}
	o := onLeft(writes(impl.PairWriteA, heap("abc")))
	line := impl.ShowOp(o)
	read, _ := impl.ReadOp(line)
	again, _ := impl.ReadOp(line)
	ownTexts(t, "ReadOp", []string{read.Op.Data, again.Op.Data}, []string{line, o.Op.Data})
}

// Nothing is kept between calls that shows, and calls at the same time do not meet.
func TestDeskKeepsNothing(t *testing.T) {
	ops := scriptOps(8, 80)
	text := scriptBy(ops)
	tell := func() string {
		out := ""
		for _, line := range append(strings.Split(text, "\n"), "left tick 07", "up tick 7") {
			o, ok := impl.ReadOp(line)
			out += fmt.Sprint(o, ok, impl.ShowOp(o))
		}
		list, n, ok := impl.ReadScript(text)
		_, at, _ := impl.ReadScript(text + "what\n")
		return out + fmt.Sprint(list, n, ok, at) + impl.Desk(deskPlaces, 300, 50, text, 20) + impl.Desk(deskPlaces, 0, 50, text, 20) + impl.Desk(deskPlaces, 300, 50, text+"what\n", 20)
	}
	first := tell()
	answers := make([]string, 16)
	var all sync.WaitGroup
	for i := range answers {
		all.Add(1)
		go func() {
			defer all.Done()
			impl.Desk([4]uint32{uint32(i)}, 100+i, 1+i, scriptBy(scriptOps(i, 20)), i)
			impl.ReadScript(strings.Repeat(shortLine, i) + "what\n")
			answers[i] = tell()
		}()
	}
	all.Wait()
	for i, got := range answers {
		if got != first {
			t.Errorf("answer %d is another", i)
		}
	}
	if tell() != first {
		t.Error("told otherwise once more")
	}
}
