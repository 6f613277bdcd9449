package tests

import (
	"fmt"
	"math"
	"slices"
	"strings"
	"sync"
	"testing"

	"loop.example/g00107/impl"
)

const (
	topPipe   = 2048
	topPassed = 1000000000
)

// everyEnd are the reasons for which an end may be gone.
var everyEnd = []int{impl.EndNone, impl.EndReset, impl.EndRefused, impl.EndTired, impl.EndAborted}

var (
	pipeRooms   = []int{1, 2, 300, topPipe - 1, topPipe}
	noPipeRooms = []int{0, -1, -2, -topPipe, -round, math.MinInt, math.MinInt + 1, topPipe + 1, topPipe + 2, topBuf, round, round + 1, math.MaxInt - 1, math.MaxInt}
	passedGood  = []int{0, 1, 12345, topPassed - 1, topPassed}
	passedBad   = []int{-1, -2, -topPassed, -round, math.MinInt, math.MinInt + 1, topPassed + 1, topPassed + 2, round, round + 1, math.MaxInt - 1, math.MaxInt}
)

func pipeOf(room int, data string) impl.Pipe { return impl.Pipe{Room: room, Data: data, Passed: 70} }

func shownPipe(p impl.Pipe) string {
	return fmt.Sprintf("{Room %d, Data %s, Ended %v, Passed %d}", p.Room, short(p.Data), p.Ended, p.Passed)
}

// badPipes have each one thing that no pipe has.
func badPipes() []impl.Pipe {
	out := []impl.Pipe{{}, {Data: "ab"}, {Room: 1, Data: "ab"}, {Room: 2, Data: "abc", Ended: true}, {Room: topPipe, Data: bytesFrom(1, topPipe+1)}, {Room: topPipe, Data: bytesFrom(1, 70000)}}
	for _, room := range noPipeRooms {
		out = append(out, impl.Pipe{Room: room}, impl.Pipe{Room: room, Data: "ab", Passed: 5})
	}
	for _, passed := range passedBad {
		out = append(out, impl.Pipe{Room: 9, Passed: passed}, impl.Pipe{Room: 9, Data: "ab", Ended: true, Passed: passed})
	}
	return out
}

// goodPipes are empty, hold something and are full, with an end and without.
func goodPipes() []impl.Pipe {
	out := []impl.Pipe{}
	for _, ended := range []bool{false, true} {
		for _, passed := range []int{0, 70, topPassed - 4, topPassed} {
			for _, row := range []struct {
				room int
				data string
			}{{1, ""}, {1, "x"}, {5, ""}, {5, "in"}, {5, "inner"}, {topPipe, ""}, {topPipe, "in the pipe"}, {topPipe, bytesFrom(3, topPipe)}} {
				out = append(out, impl.Pipe{Room: row.room, Data: row.data, Ended: ended, Passed: passed})
			}
		}
	}
	return out
}

// giver is an end with so many bytes to be read and room for 100 more, so that nothing is owed for them.
func giver(state int, ready string) impl.Conn {
	return with(endIn(state), func(c *impl.Conn) { c.In = inAt(c.In.Next, ready, len(ready)+100) })
}

// taker is an end that has something to be sent and room for so many bytes more.
func taker(state, room int) impl.Conn {
	return with(otherEnd(state), func(c *impl.Conn) { c.Out = outAt(c.Out.First, "before ", 7+room) })
}

func hasGotFin(c *impl.Conn) { c.GotFin = true }

// movedBy goes through PipeMove step by step.
func movedBy(p impl.Pipe, from, to impl.Conn) (impl.Pipe, impl.Conn, impl.Conn) {
	if !impl.PipeOk(p) || !impl.ConnOk(from) || !impl.ConnOk(to) {
		return p, with(from), with(to)
	}
	from, text := impl.ConnRead(from, p.Room-len(p.Data))
	p.Data += text
	to, n := impl.ConnWrite(to, p.Data)
	p.Data, p.Passed = p.Data[n:], p.Passed+n
	if p.Passed > topPassed {
		p.Passed = topPassed
	}
	if from.GotFin && len(from.In.Ready) == 0 {
		p.Ended = true
	}
	if p.Ended && len(p.Data) == 0 {
		to = impl.ConnClose(to)
	}
	return p, from, to
}

// turn is what RelayMove answers.
type turn struct {
	r           impl.Relay
	left, right impl.Conn
	x, y        []impl.Seg
}

func turnOf(r impl.Relay, left, right impl.Conn) turn {
	out := turn{}
	out.r, out.left, out.right, out.x, out.y = impl.RelayMove(r, left, right)
	return out
}

// turnedBy goes through RelayMove step by step.
func turnedBy(r impl.Relay, left, right impl.Conn) turn {
	out := turn{r: r, left: with(left), right: with(right)}
	switch {
	case !impl.PipeOk(r.Up) || !impl.PipeOk(r.Down) || !impl.ConnOk(left) || !impl.ConnOk(right):
	case left.State == 0 && left.End != 0:
		out.right, out.y = impl.ConnAbort(right)
	case right.State == 0 && right.End != 0:
		out.left, out.x = impl.ConnAbort(left)
	default:
		out.r.Up, out.left, out.right = movedBy(r.Up, left, right)
		out.r.Down, out.right, out.left = movedBy(r.Down, out.right, out.left)
	}
	return out
}

func equalTurns(a, b turn) bool {
	return a.r == b.r && equalConns(a.left, b.left) && equalConns(a.right, b.right) && slices.Equal(a.x, b.x) && slices.Equal(a.y, b.y)
}

func shownTurn(a turn) string {
	return fmt.Sprintf("{Up %s, Down %s\n  left %s\n  right %s\n  left sends %s\n  right sends %s}", shownPipe(a.r.Up), shownPipe(a.r.Down), shownConn(a.left), shownConn(a.right), shownSegs(a.x), shownSegs(a.y))
}

func sameTurn(t *testing.T, what string, got, want turn) {
	t.Helper()
	if !equalTurns(got, want) {
		t.Fatalf("%s\n is  %s\n not %s", what, shownTurn(got), shownTurn(want))
	}
}

func sameMove(t *testing.T, what string, p impl.Pipe, from, to impl.Conn, wantPipe impl.Pipe, wantFrom, wantTo impl.Conn) {
	t.Helper()
	if p != wantPipe || !equalConns(from, wantFrom) || !equalConns(to, wantTo) {
		t.Fatalf("%s\n is  %s\n  from %s\n  to %s\n not %s\n  from %s\n  to %s", what, shownPipe(p), shownConn(from), shownConn(to), shownPipe(wantPipe), shownConn(wantFrom), shownConn(wantTo))
	}
}

// pipes asks that a turn of a pipe is what the steps say, that what was right stays so, and that nothing is written into.
func pipes(t *testing.T, p impl.Pipe, from, to impl.Conn) (impl.Pipe, impl.Conn, impl.Conn) {
	t.Helper()
	argFrom, argTo := with(from), with(to)
	gotPipe, gotFrom, gotTo := impl.PipeMove(p, argFrom, argTo)
	wantPipe, wantFrom, wantTo := movedBy(p, from, to)
	fault := ""
	switch {
	case gotPipe != wantPipe || !equalConns(gotFrom, wantFrom) || !equalConns(gotTo, wantTo):
		fault = "is something else"
	case !equalConns(argFrom, from) || !equalConns(argTo, to):
		fault = "writes into an end"
	case impl.PipeOk(p) != impl.PipeOk(gotPipe) || impl.ConnOk(from) != impl.ConnOk(gotFrom) || impl.ConnOk(to) != impl.ConnOk(gotTo):
		fault = "makes right what is wrong, or wrong what is right"
	}
	if fault != "" {
		shown := func(p impl.Pipe, from, to impl.Conn) string {
			return fmt.Sprintf("%s\n  from %s\n  to %s", shownPipe(p), shownConn(from), shownConn(to))
		}
		t.Fatalf("PipeMove of %s\n %s: %s\n not %s", shown(p, from, to), fault, shown(gotPipe, gotFrom, gotTo), shown(wantPipe, wantFrom, wantTo))
	}
	return gotPipe, gotFrom, gotTo
}

// relays asks the same of RelayMove.
func relays(t *testing.T, r impl.Relay, left, right impl.Conn) turn {
	t.Helper()
	argLeft, argRight := with(left), with(right)
	got, want := turnOf(r, argLeft, argRight), turnedBy(r, left, right)
	fault := ""
	switch {
	case !equalTurns(got, want):
		fault = "is something else"
	case !equalConns(argLeft, left) || !equalConns(argRight, right):
		fault = "writes into an end"
	case impl.PipeOk(r.Up) != impl.PipeOk(got.r.Up) || impl.PipeOk(r.Down) != impl.PipeOk(got.r.Down) || impl.ConnOk(left) != impl.ConnOk(got.left) || impl.ConnOk(right) != impl.ConnOk(got.right):
		fault = "makes right what is wrong, or wrong what is right"
	}
	if fault != "" {
		t.Fatalf("RelayMove of %s\n %s: %s\n not %s", shownTurn(turn{r: r, left: left, right: right}), fault, shownTurn(got), shownTurn(want))
	}
	return got
}

func TestRelayConstants(t *testing.T) {
	if impl.MaxPipe != topPipe {
		t.Errorf("MaxPipe %d", impl.MaxPipe)
	}
}

func TestPipeOk(t *testing.T) {
	check := func(p impl.Pipe, want bool) {
		t.Helper()
		for _, ended := range []bool{false, true} {
			p.Ended = ended
			if got := impl.PipeOk(p); got != want {
				t.Errorf("PipeOk(%s) is %v", shownPipe(p), got)
			}
		}
	}
	for _, room := range pipeRooms {
		for _, passed := range passedGood {
			for _, n := range []int{0, 1, room - 1, room} {
				check(impl.Pipe{Room: room, Data: bytesFrom(2, n), Passed: passed}, true)
			}
			for _, n := range []int{room + 1, room + 2, topPipe + 1, 70000} {
				check(impl.Pipe{Room: room, Data: bytesFrom(2, n), Passed: passed}, false)
			}
		}
		for _, passed := range passedBad {
			for _, n := range []int{0, 1, room, room + 1} {
				check(impl.Pipe{Room: room, Data: bytesFrom(2, n), Passed: passed}, false)
			}
		}
	}
	for _, room := range noPipeRooms {
		for _, n := range []int{0, 1, topPipe, topPipe + 1} {
			check(impl.Pipe{Room: room, Data: bytesFrom(2, n)}, false)
		}
	}
	check(impl.Pipe{Room: 1, Data: "\x00"}, true)
	check(impl.Pipe{Room: 2, Data: "\u00e9"}, true)
	check(impl.Pipe{Room: 1, Data: "\u00e9"}, false)
	for _, p := range goodPipes() {
		check(p, true)
	}
	for _, p := range badPipes() {
		check(p, false)
	}
}

func TestRelayStart(t *testing.T) {
	for _, room := range pipeRooms {
		r, ok := impl.RelayStart(room)
		if !ok || r != (impl.Relay{Up: impl.Pipe{Room: room}, Down: impl.Pipe{Room: room}}) || !impl.PipeOk(r.Up) || !impl.PipeOk(r.Down) || impl.RelayHeld(r) != 0 {
			t.Errorf("RelayStart(%d) is %s, %s, %v", room, shownPipe(r.Up), shownPipe(r.Down), ok)
		}
	}
	for _, room := range noPipeRooms {
		if r, ok := impl.RelayStart(room); ok || r != (impl.Relay{}) {
			t.Errorf("RelayStart(%d) is %s, %s, %v", room, shownPipe(r.Up), shownPipe(r.Down), ok)
		}
	}
}

// staysPut asks that a pipe and both ends are answered as they are.
func staysPut(t *testing.T, what string, p impl.Pipe, from, to impl.Conn) {
	t.Helper()
	gotPipe, gotFrom, gotTo := impl.PipeMove(p, from, to)
	sameMove(t, what, gotPipe, gotFrom, gotTo, p, from, to)
	pipes(t, p, from, to)
}

// One thing that is not right is enough, where all else would let bytes go in and out, and an end be told.
func TestPipeMoveOfWrongThings(t *testing.T) {
	good := pipeOf(50, "within ")
	for _, state := range everyState {
		from, to := with(giver(state, "ready"), hasGotFin), taker(impl.ConnOpen, 90)
		for _, p := range badPipes() {
			staysPut(t, "no pipe", p, from, to)
			staysPut(t, "no pipe, the other way", p, to, from)
		}
		for _, bad := range badEnds(state) {
			staysPut(t, "no end to read from", good, bad, to)
			staysPut(t, "no end to write to", good, from, bad)
			staysPut(t, "no ends", good, bad, bad)
			ready := with(bad, hasGotFin, func(c *impl.Conn) { c.In.Ready += "more" })
			if !impl.ConnOk(ready) {
				staysPut(t, "no end with bytes to read", good, ready, to)
			}
			ended := impl.Pipe{Room: 5, Ended: true}
			staysPut(t, "no end to close", ended, from, bad)
			staysPut(t, "no end to read from, and one to close", ended, bad, to)
		}
		moved, _, after := impl.PipeMove(good, from, to)
		if moved.Passed != 70+len("within ready") || moved.Data != "" || !moved.Ended || after.Out.Data != "before within ready" || !after.Fin {
			t.Errorf("state %d, with all right: %s to %s", state, shownPipe(moved), shownConn(after))
		}
	}
	staysPut(t, "nothing but zero", impl.Pipe{}, impl.Conn{}, impl.Conn{})
	staysPut(t, "zero ends", good, impl.Conn{}, impl.Conn{})
}

// How much goes in and out, by hand: of what is ready, with a pipe of some room that holds something, and an end that takes so much.
func TestPipeMoveByHand(t *testing.T) {
	for _, row := range []struct {
		ready, data string
		room, takes int
		rest, holds string
		gives       string
	}{
		// Nothing to read.
		{"", "", 4, 9, "", "", ""}, {"", "ab", 4, 9, "", "", "ab"}, {"", "ab", 4, 1, "", "b", "a"}, {"", "ab", 4, 0, "", "ab", ""}, {"", "abcd", 4, 2, "", "cd", "ab"},
		// Less than there is room for, just as much, and more.
		{"xyz", "", 4, 9, "", "", "xyz"}, {"wxyz", "", 4, 9, "", "", "wxyz"}, {"vwxyz", "", 4, 9, "z", "", "vwxy"}, {"uvwxyz", "", 4, 9, "yz", "", "uvwx"},
		{"x", "ab", 4, 9, "", "", "abx"}, {"xy", "ab", 4, 9, "", "", "abxy"}, {"xyz", "ab", 4, 9, "z", "", "abxy"}, {"xyz", "a", 2, 9, "yz", "", "ax"},
		// No room left in the pipe; there is some only behind what goes out, when the reading is over.
		{"xyz", "abcd", 4, 9, "xyz", "", "abcd"}, {"xyz", "abcd", 4, 2, "xyz", "cd", "ab"}, {"xyz", "abcd", 4, 0, "xyz", "abcd", ""}, {"xyz", "a", 1, 9, "xyz", "", "a"}, {"x", "a", 1, 0, "x", "a", ""},
		// Nothing is taken, a part, all.
		{"xy", "ab", 4, 0, "", "abxy", ""}, {"xy", "ab", 4, 1, "", "bxy", "a"}, {"xy", "ab", 4, 2, "", "xy", "ab"}, {"xy", "ab", 4, 3, "", "y", "abx"}, {"xy", "ab", 4, 4, "", "", "abxy"}, {"xy", "ab", 4, 5, "", "", "abxy"},
		{"xyz", "", 2, 1, "z", "y", "x"}, {"xyz", "", 2, 0, "z", "xy", ""}, {"xyz", "", 2, 2, "z", "", "xy"}, {"xyz", "ab", topPipe, 0, "", "abxyz", ""}, {"xyz", "ab", topPipe, 3, "", "yz", "abx"},
		{"\x00\xff\x00", "\xff\x00", 4, 3, "\x00", "\xff", "\xff\x00\x00"},
	} {
		for _, ended := range []bool{false, true} {
			p := impl.Pipe{Room: row.room, Data: row.data, Passed: 70, Ended: ended}
			from, to := giver(impl.ConnOpen, row.ready), taker(impl.ConnOpen, row.takes)
			gotPipe, gotFrom, gotTo := pipes(t, p, from, to)
			wantTo := with(to, func(c *impl.Conn) {
				c.Out.Data += row.gives
				c.Fin = ended && row.holds == ""
			})
			wantPipe := impl.Pipe{Room: row.room, Data: row.holds, Passed: 70 + len(row.gives), Ended: ended}
			sameMove(t, fmt.Sprintf("%q ready, %q in %d, %d may go", row.ready, row.data, row.room, row.takes), gotPipe, gotFrom, gotTo, wantPipe, with(from, func(c *impl.Conn) { c.In.Ready = row.rest }), wantTo)
		}
	}
}

// The same where there is much of everything.
func TestPipeMoveOfManyBytes(t *testing.T) {
	for _, room := range []int{1, 100, topPipe - 1, topPipe} {
		for _, holds := range []int{0, 1, room / 2, room - 1, room} {
			for _, ready := range []int{0, 1, room - holds - 1, room - holds, room - holds + 1, topPipe, topPipe + 1, topBuf - 100} {
				for _, takes := range []int{0, 1, holds, room - 1, room, topPipe, topBuf - 7} {
					if ready < 0 {
						continue
					}
					text, data := bytesFrom(5, ready), bytesFrom(9, holds)
					read := min(ready, room-holds)
					all := data + text[:read]
					gives := min(len(all), takes)
					p, from, to := pipes(t, pipeOf(room, data), giver(impl.ConnOpen, text), taker(impl.ConnOpen, takes))
					if p.Data != all[gives:] || from.In.Ready != text[read:] || to.Out.Data != "before "+all[:gives] || p.Passed != 70+gives || len(p.Data) > room {
						t.Fatalf("%d ready, %d in %d, %d may go: %s from %s to %s", ready, holds, room, takes, shownPipe(p), shownConn(from), shownConn(to))
					}
				}
			}
		}
	}
}

// Who had little room owes a word of the room that the pipe made; who was not read from owes nothing.
func TestPipeMoveOwesByWhatWasRead(t *testing.T) {
	for _, state := range everyState {
		for _, free := range []int{0, 1, 99, 100, 101} {
			for _, holds := range []int{0, 3, 4} {
				from := with(giver(state, "ready"), func(c *impl.Conn) { c.In.Room = len("ready") + free })
				_, got, _ := pipes(t, pipeOf(4, "pipe"[:holds]), from, taker(impl.ConnOpen, 0))
				if owing := holds < 4 && free < oneSeg && stands(from); got.Owe != owing || got.In.Ready != "ready"[4-holds:] {
					t.Errorf("state %d, %d free, %d held: %s", state, free, holds, shownConn(got))
				}
				_, got, _ = pipes(t, pipeOf(4, "pipe"[:holds]), with(from, owes), taker(impl.ConnOpen, 0))
				if !got.Owe {
					t.Errorf("state %d: what was owed is not: %s", state, shownConn(got))
				}
			}
		}
	}
}

// Bytes are read in every state; they are written only where an end may write, and has not said that it won't.
func TestPipeMoveInEveryState(t *testing.T) {
	for _, a := range everyState {
		for _, b := range everyState {
			for _, finished := range []bool{false, true} {
				from, to := giver(a, "ready"), with(taker(b, 9), func(c *impl.Conn) { c.Fin = finished })
				p, gotFrom, gotTo := pipes(t, pipeOf(7, "in"), from, to)
				if gotFrom.In.Ready != "" {
					t.Errorf("states %d and %d: %s stays", a, b, short(gotFrom.In.Ready))
				}
				mayWrite := slices.Contains(writing, b) && !finished
				if mayWrite && (gotTo.Out.Data != "before inready" || p.Data != "" || p.Passed != 77) || !mayWrite && (gotTo.Out.Data != "before " || p.Data != "inready" || p.Passed != 70) {
					t.Errorf("states %d and %d: %s to %s", a, b, shownPipe(p), shownConn(gotTo))
				}
				if p.Ended != from.GotFin || gotTo.Fin != (finished || from.GotFin && mayWrite) {
					t.Errorf("states %d and %d: %s to %s", a, b, shownPipe(p), shownConn(gotTo))
				}
				if gotFrom.State != a || gotTo.State != b || gotFrom.GotFin != from.GotFin {
					t.Errorf("states %d and %d became %d and %d", a, b, gotFrom.State, gotTo.State)
				}
			}
		}
	}
}

// All that a turn hangs on, at once, in each state of both ends.
func TestPipeMoveOfEverything(t *testing.T) {
	for _, a := range everyState {
		for _, b := range everyState {
			for _, ready := range []string{"", "rd", "ready to be read"} {
				for _, got := range []bool{false, true} {
					from := with(giver(a, ready), func(c *impl.Conn) { c.GotFin = got })
					for _, room := range []int{0, 3, 40} {
						for _, p := range goodPipes() {
							pipes(t, p, from, taker(b, room))
							pipes(t, p, from, with(taker(b, room), closes))
						}
					}
				}
			}
		}
	}
}

// Ends as they come about or not, with parts that wait, and places anywhere.
func TestPipeMoveOfManyEnds(t *testing.T) {
	const each = 40
	list := goodPipes()
	for _, a := range everyState {
		for _, b := range everyState {
			words := spread((a*10 + b + 1) * each * 41)[(a*10+b)*each*41:]
			for i := range each {
				w := words[i*41:]
				from, to := someEnd(a, w), someEnd(b, w[20:])
				if w[40]%2 == 0 {
					to.Out.Room = min(to.Out.Room+int(w[40]>>4)%40, topBuf)
				}
				pipes(t, list[int(w[40]>>8)%len(list)], from, to)
				relays(t, impl.Relay{Up: list[int(w[40]>>8)%len(list)], Down: list[int(w[39]>>8)%len(list)]}, from, to)
			}
		}
	}
}

func TestPassedAtItsMost(t *testing.T) {
	for _, row := range [][3]int{
		{topPassed - 6, 5, topPassed - 1}, {topPassed - 5, 5, topPassed}, {topPassed - 4, 5, topPassed}, {topPassed - 1, 5, topPassed}, {topPassed, 5, topPassed},
		{topPassed - 2, 1, topPassed - 1}, {topPassed - 1, 1, topPassed}, {topPassed, 1, topPassed}, {topPassed, 0, topPassed}, {topPassed - 1, 0, topPassed - 1}, {0, 0, 0}, {0, 1, 1}, {0, 5, 5},
		{topPassed - topPipe - 1, topPipe, topPassed - 1}, {topPassed - topPipe, topPipe, topPassed}, {topPassed - topPipe + 1, topPipe, topPassed}, {topPassed, topPipe, topPassed},
	} {
		passed, n, want := row[0], row[1], row[2]
		text := bytesFrom(4, n)
		inside := impl.Pipe{Room: topPipe, Data: text, Passed: passed}
		p, _, to := pipes(t, inside, giver(impl.ConnOpen, ""), taker(impl.ConnOpen, topPipe))
		// However much has passed, the bytes go on.
		if p.Passed != want || p.Data != "" || to.Out.Data != "before "+text {
			t.Errorf("%d bytes out, %d passed: %s to %s", n, passed, shownPipe(p), shownConn(to))
		}
		p, _, to = pipes(t, impl.Pipe{Room: topPipe, Passed: passed}, giver(impl.ConnOpen, text), taker(impl.ConnOpen, topPipe))
		if p.Passed != want || p.Data != "" || to.Out.Data != "before "+text {
			t.Errorf("%d bytes in and out, %d passed: %s to %s", n, passed, shownPipe(p), shownConn(to))
		}
		// What stays inside has not passed.
		p, _, _ = pipes(t, impl.Pipe{Room: topPipe, Data: text, Passed: passed}, giver(impl.ConnOpen, ""), taker(impl.ConnOpen, 0))
		if p.Passed != passed || p.Data != text {
			t.Errorf("%d bytes held, %d passed: %s", n, passed, shownPipe(p))
		}
	}
}

// When a pipe has ended, and when the other end is told so, by hand.
func TestWhenAnEndCloses(t *testing.T) {
	for _, row := range []struct {
		got         bool
		ready, data string
		room, takes int
		ended       bool
		ends, tells bool
	}{
		// No FIN came: nothing ends, whatever is there.
		{false, "", "", 4, 9, false, false, false}, {false, "xy", "", 4, 9, false, false, false}, {false, "", "ab", 4, 9, false, false, false}, {false, "xy", "ab", 4, 0, false, false, false},
		// A FIN came, and all ahead of it is read now, or was.
		{true, "", "", 4, 9, false, true, true}, {true, "xy", "", 4, 9, false, true, true}, {true, "", "ab", 4, 9, false, true, true}, {true, "xy", "ab", 4, 9, false, true, true}, {true, "", "ab", 4, 2, false, true, true}, {true, "", "", 4, 0, false, true, true},
		// A FIN came, and all ahead of it is read, but not all of it is out.
		{true, "", "ab", 4, 1, false, true, false}, {true, "", "ab", 4, 0, false, true, false}, {true, "xy", "", 4, 1, false, true, false}, {true, "xy", "ab", 4, 3, false, true, false}, {true, "xy", "ab", 4, 0, false, true, false},
		// A FIN came, but there are bytes ahead of it that are not read.
		{true, "xyz", "ab", 4, 9, false, false, false}, {true, "xyz", "", 2, 9, false, false, false}, {true, "x", "abcd", 4, 9, false, false, false}, {true, "x", "abcd", 4, 0, false, false, false},
		// What has ended stays so, even where something comes.
		{false, "", "", 4, 9, true, true, true}, {false, "", "ab", 4, 9, true, true, true}, {false, "", "ab", 4, 1, true, true, false}, {false, "xy", "", 4, 9, true, true, true}, {false, "xy", "", 4, 1, true, true, false},
		{true, "", "", 4, 9, true, true, true}, {true, "x", "abcd", 4, 9, true, true, true}, {true, "x", "abcd", 4, 3, true, true, false}, {false, "x", "abcd", 4, 9, true, true, true},
	} {
		for _, state := range everyState {
			for _, told := range everyState {
				mayWrite := slices.Contains(writing, told)
				if !mayWrite && row.data+row.ready != "" {
					// Nothing goes out there, so that only an empty pipe is as the row says.
					continue
				}
				from := with(giver(state, row.ready), func(c *impl.Conn) { c.GotFin = row.got })
				to := with(taker(told, row.takes), func(c *impl.Conn) { c.Fin = false })
				p, gotFrom, gotTo := pipes(t, impl.Pipe{Room: row.room, Data: row.data, Ended: row.ended}, from, to)
				if p.Ended != row.ends || gotTo.Fin != (row.tells && mayWrite) || gotTo.FinSent != to.FinSent || gotFrom.Fin != from.Fin {
					t.Errorf("states %d and %d, %+v: %s to %s", state, told, row, shownPipe(p), shownConn(gotTo))
				}
			}
		}
	}
}

// A FIN that came ahead of parts that still wait says nothing of these; what is ready alone counts.
func TestWhatWaitsDoesNotCount(t *testing.T) {
	from := with(giver(impl.ConnHalf, "ab"), func(c *impl.Conn) { c.In.Parts = []impl.Part{part(c.In.Next+5, "apart")} })
	p, gotFrom, to := pipes(t, pipeOf(9, ""), from, taker(impl.ConnOpen, 9))
	if !p.Ended || !to.Fin || to.Out.Data != "before ab" || !slices.Equal(gotFrom.In.Parts, from.In.Parts) {
		t.Errorf("%s from %s to %s", shownPipe(p), shownConn(gotFrom), shownConn(to))
	}
}

// P13: what goes in comes out in order, and no more than the room is ever held, turn by turn.
func TestAPipeGivesWhatItTook(t *testing.T) {
	for seed := range 60 {
		words := spread(seed*37 + 3*300)[seed*37:]
		stream, came := bytesFrom(seed, 6000), 0
		room := []int{1, 2, 7, 60, 500, topPipe}[seed%6]
		p := impl.Pipe{Room: room}
		from := with(giver(impl.ConnOpen, ""), func(c *impl.Conn) { c.In.Room = topBuf })
		to := with(taker(impl.ConnOpen, 0), func(c *impl.Conn) { c.Out.Data, c.Out.Room = "", 1+int(words[0]%600) })
		out := ""
		for i := 0; i < 300 || !p.Ended || p.Data != ""; i++ {
			w := words[3*(i%300):]
			n := min(int(w[0]>>4)%200, len(stream)-came, topBuf-len(from.In.Ready))
			from.In.Ready, came = from.In.Ready+stream[came:came+n], came+n
			from.GotFin = came == len(stream)
			was := p.Data
			ready, before := from.In.Ready, to.Out.Data
			p, from, to = pipes(t, p, from, to)
			read := len(ready) - len(from.In.Ready)
			if was+ready[:read] != to.Out.Data[len(before):]+p.Data || len(p.Data) > room || len(p.Data) < room && from.In.Ready != "" && len(to.Out.Data) == len(before) {
				t.Fatalf("turn %d: of %s and %s came %s, and %s is held", i, short(was), short(ready), short(to.Out.Data[len(before):]), short(p.Data))
			}
			done := min(int(w[1]>>4)%200, len(to.Out.Data))
			out, to.Out.Data = out+to.Out.Data[:done], to.Out.Data[done:]
			if !strings.HasPrefix(stream, out+to.Out.Data) || p.Passed != len(out)+len(to.Out.Data) || out+to.Out.Data+p.Data+from.In.Ready != stream[:came] {
				t.Fatalf("turn %d: %d bytes came, %d are out", i, came, len(out))
			}
			if p.Ended != (came == len(stream) && from.In.Ready == "") || to.Fin != (p.Ended && p.Data == "") {
				t.Fatalf("turn %d: %s to %s", i, shownPipe(p), shownConn(to))
			}
		}
		if out+to.Out.Data != stream || !to.Fin {
			t.Errorf("seed %d: %d of %d bytes", seed, len(out)+len(to.Out.Data), len(stream))
		}
	}
}

// busyRelay has bytes in both pipes, and room in both.
func busyRelay() impl.Relay {
	return impl.Relay{Up: impl.Pipe{Room: 20, Data: "up ", Passed: 5}, Down: impl.Pipe{Room: 30, Data: "down ", Passed: 9}}
}

// busyEnds have bytes to be read and to be sent, and room for both.
func busyEnds(a, b int) (impl.Conn, impl.Conn) {
	left := with(endIn(a), func(c *impl.Conn) {
		c.In.Ready, c.Out.Data, c.Out.Room = "from left", "to left: ", 40
	})
	right := with(otherEnd(b), func(c *impl.Conn) {
		c.In.Ready, c.Out.Data, c.Out.Room = "from right", "to right: ", 50
	})
	return left, right
}

func staysAsARelay(t *testing.T, what string, r impl.Relay, left, right impl.Conn) {
	t.Helper()
	sameTurn(t, what, turnOf(r, left, right), turn{r: r, left: left, right: right})
	relays(t, r, left, right)
}

// One thing that is not right is enough, where all else would let bytes go both ways, or an end be given up.
func TestRelayMoveOfWrongThings(t *testing.T) {
	good := busyRelay()
	for _, p := range badPipes() {
		for _, state := range everyState {
			left, right := busyEnds(state, impl.ConnOpen)
			staysAsARelay(t, "Up is no pipe", impl.Relay{Up: p, Down: good.Down}, left, right)
			staysAsARelay(t, "Down is no pipe", impl.Relay{Up: good.Up, Down: p}, left, right)
			left, right = busyEnds(impl.ConnOpen, state)
			staysAsARelay(t, "Up is no pipe", impl.Relay{Up: p, Down: good.Down}, left, right)
			staysAsARelay(t, "Down is no pipe", impl.Relay{Up: good.Up, Down: p}, left, right)
		}
		left, right := busyEnds(impl.ConnOpen, impl.ConnOpen)
		staysAsARelay(t, "both are none", impl.Relay{Up: p, Down: p}, left, right)
	}
	for _, state := range everyState {
		for _, bad := range badEnds(state) {
			for _, other := range []int{impl.ConnGone, impl.ConnOpen, impl.ConnHalf} {
				left, right := busyEnds(other, other)
				staysAsARelay(t, "left is no end", good, bad, right)
				staysAsARelay(t, "right is no end", good, left, bad)
			}
			staysAsARelay(t, "both are none", good, bad, bad)
		}
	}
	staysAsARelay(t, "nothing but zero", impl.Relay{}, impl.Conn{}, impl.Conn{})
}

func goneFor(c impl.Conn, why int) impl.Conn {
	return with(c, func(c *impl.Conn) { c.State, c.End = impl.ConnGone, why })
}

// resetOf is what an end tells the other that it gives up, where it does.
func resetOf(c impl.Conn) []impl.Seg {
	if slices.Contains([]int{impl.ConnHeard, impl.ConnOpen, impl.ConnFin1, impl.ConnFin2, impl.ConnHalf}, c.State) {
		return []impl.Seg{{Seq: c.Nxt, Ack: c.In.Next, Flags: rst + ack}}
	}
	return nil
}

// P13: where one line is given up, so is the other; no byte moves then, and no pipe changes.
func TestWhereOneLineIsGivenUp(t *testing.T) {
	r := busyRelay()
	for _, why := range everyEnd[1:] {
		for _, state := range everyState[1:] {
			// An End that an end has while it is not gone says nothing.
			for _, old := range everyEnd {
				left, right := busyEnds(state, state)
				left.End, right.End = old, old
				given := with(right, endsFor(impl.EndAborted))
				sameTurn(t, "left is gone", relays(t, r, goneFor(left, why), right), turn{r: r, left: goneFor(left, why), right: given, y: resetOf(right)})
				given = with(left, endsFor(impl.EndAborted))
				sameTurn(t, "right is gone", relays(t, r, left, goneFor(right, why)), turn{r: r, left: given, right: goneFor(right, why), x: resetOf(left)})
			}
		}
		for _, other := range everyEnd {
			left, right := busyEnds(impl.ConnGone, impl.ConnGone)
			left, right = goneFor(left, why), goneFor(right, other)
			sameTurn(t, "both are gone", relays(t, r, left, right), turn{r: r, left: left, right: right})
			left, right = goneFor(left, other), goneFor(right, why)
			sameTurn(t, "both are gone", relays(t, r, left, right), turn{r: r, left: left, right: right})
		}
	}
}

// It is only the reason and that it is gone that count: not where the bytes lie, nor what the pipes hold, nor whether a FIN came.
func TestGivenUpWhateverElse(t *testing.T) {
	for _, why := range everyEnd[1:] {
		for _, up := range goodPipes() {
			r := impl.Relay{Up: up, Down: impl.Pipe{Room: 3, Ended: !up.Ended}}
			for _, got := range []bool{false, true} {
				left, right := busyEnds(impl.ConnOpen, impl.ConnOpen)
				left.GotFin, right.GotFin = got, got
				if one := relays(t, r, goneFor(left, why), right); one.right.End != impl.EndAborted || one.r != r || one.right.Fin || one.left.In.Ready != left.In.Ready {
					t.Errorf("left is gone: %s", shownTurn(one))
				}
				if one := relays(t, r, left, goneFor(right, why)); one.left.End != impl.EndAborted || one.r != r || one.left.Fin || one.right.In.Ready != right.In.Ready {
					t.Errorf("right is gone: %s", shownTurn(one))
				}
			}
		}
	}
}

// Who is gone because both ends closed has not given up: what it has left is read, and the other end goes on.
func TestGoneIsNotGivenUp(t *testing.T) {
	left, right := busyEnds(impl.ConnOpen, impl.ConnOpen)
	r := busyRelay()
	gone := with(goneFor(left, impl.EndNone), hasGotFin)
	got := relays(t, r, gone, right)
	if got.right.State != impl.ConnOpen || got.right.Out.Data != "to right: up from left" || !got.right.Fin || got.left.In.Ready != "" || got.left.Out.Data != left.Out.Data || got.r.Down.Data != "down from right" || !got.r.Up.Ended || len(got.x)+len(got.y) != 0 {
		t.Errorf("left is gone: %s", shownTurn(got))
	}
	gone = with(goneFor(right, impl.EndNone), hasGotFin)
	got = relays(t, r, left, gone)
	if got.left.State != impl.ConnOpen || got.left.Out.Data != "to left: down from right" || !got.left.Fin || got.right.In.Ready != "" || got.right.Out.Data != right.Out.Data || got.r.Up.Data != "up from left" || !got.r.Down.Ended || len(got.x)+len(got.y) != 0 {
		t.Errorf("right is gone: %s", shownTurn(got))
	}
}

// Both turns, by hand: Up leads from left to right, Down from right to left, and each end holds what both turns made of it.
func TestRelayMoveByHand(t *testing.T) {
	left, right := busyEnds(impl.ConnOpen, impl.ConnOpen)
	r := busyRelay()
	wantLeft := with(left, func(c *impl.Conn) { c.In.Ready, c.Out.Data = "", "to left: down from right" })
	wantRight := with(right, func(c *impl.Conn) { c.In.Ready, c.Out.Data = "", "to right: up from left" })
	want := turn{r: impl.Relay{Up: impl.Pipe{Room: 20, Passed: 5 + 12}, Down: impl.Pipe{Room: 30, Passed: 9 + 15}}, left: wantLeft, right: wantRight}
	sameTurn(t, "both ways", relays(t, r, left, right), want)

	// Each pipe has a room of its own, and each end.
	left.Out.Room, right.Out.Room = len(left.Out.Data)+4, len(right.Out.Data)+7
	r.Up.Room, r.Down.Room = 5, 9
	want.r = impl.Relay{Up: impl.Pipe{Room: 5, Passed: 5 + 5}, Down: impl.Pipe{Room: 9, Data: " from", Passed: 9 + 4}}
	want.left = with(left, func(c *impl.Conn) { c.In.Ready, c.Out.Data = "om left", "to left: down" })
	want.right = with(right, func(c *impl.Conn) { c.In.Ready, c.Out.Data = " right", "to right: up fr" })
	sameTurn(t, "little room", relays(t, r, left, right), want)

	// One FIN closes the other line's end alone.
	left, right = busyEnds(impl.ConnHalf, impl.ConnOpen)
	got := relays(t, busyRelay(), left, right)
	if !got.r.Up.Ended || got.r.Down.Ended || !got.right.Fin || got.left.Fin {
		t.Errorf("left has closed: %s", shownTurn(got))
	}
	left, right = busyEnds(impl.ConnOpen, impl.ConnHalf)
	got = relays(t, busyRelay(), left, right)
	if got.r.Up.Ended || !got.r.Down.Ended || got.right.Fin || !got.left.Fin {
		t.Errorf("right has closed: %s", shownTurn(got))
	}
	left, right = busyEnds(impl.ConnHalf, impl.ConnHalf)
	got = relays(t, busyRelay(), left, right)
	if !got.r.Up.Ended || !got.r.Down.Ended || !got.right.Fin || !got.left.Fin || got.left.Out.Data != "to left: down from right" || got.right.Out.Data != "to right: up from left" {
		t.Errorf("both have closed: %s", shownTurn(got))
	}
}

// RelayMove is a turn of Up and then one of Down over what that left, in each state of both ends.
func TestRelayMoveInEveryState(t *testing.T) {
	for _, a := range everyState {
		for _, b := range everyState {
			for _, ended := range []bool{false, true} {
				left, right := busyEnds(a, b)
				left.End, right.End = impl.EndNone, impl.EndNone
				r := busyRelay()
				r.Up.Ended, r.Down.Ended = ended, !ended
				got := relays(t, r, left, right)
				up, midLeft, midRight := impl.PipeMove(r.Up, left, right)
				down, endRight, endLeft := impl.PipeMove(r.Down, midRight, midLeft)
				sameTurn(t, "two turns", got, turn{r: impl.Relay{Up: up, Down: down}, left: endLeft, right: endRight})
				if got.left.In.Ready+got.right.In.Ready != "" || got.left.State != a || got.right.State != b {
					t.Errorf("states %d and %d: %s", a, b, shownTurn(got))
				}
				for i := range 3 {
					for _, p := range goodPipes() {
						relays(t, []impl.Relay{{Up: p, Down: r.Down}, {Up: r.Up, Down: p}, {Up: p, Down: p}}[i], left, right)
					}
				}
			}
		}
	}
}

func TestRelayHeld(t *testing.T) {
	for _, n := range []int{0, 1, 5, topPipe} {
		for _, m := range []int{0, 1, 5, topPipe} {
			for _, ended := range []bool{false, true} {
				r := impl.Relay{Up: impl.Pipe{Room: topPipe, Data: bytesFrom(1, n), Ended: ended, Passed: 7}, Down: impl.Pipe{Room: max(m, 1), Data: bytesFrom(2, m), Ended: !ended}}
				if got := impl.RelayHeld(r); got != n+m {
					t.Errorf("%d and %d bytes: %d", n, m, got)
				}
			}
		}
	}
	// A pipe that is none holds nothing that counts; the other one does.
	for _, bad := range badPipes() {
		for _, p := range goodPipes() {
			if got := impl.RelayHeld(impl.Relay{Up: bad, Down: p}); got != len(p.Data) {
				t.Errorf("%s and %s hold %d", shownPipe(bad), shownPipe(p), got)
			}
			if got := impl.RelayHeld(impl.Relay{Up: p, Down: bad}); got != len(p.Data) {
				t.Errorf("%s and %s hold %d", shownPipe(p), shownPipe(bad), got)
			}
		}
		if got := impl.RelayHeld(impl.Relay{Up: bad, Down: bad}); got != 0 {
			t.Errorf("%s twice holds %d", shownPipe(bad), got)
		}
	}
}

// ownTexts asks that no two of these texts are one, and that none is one of the others.
func ownTexts(t *testing.T, what string, mine, others []string) {
	t.Helper()
	for i, m := range mine {
		for _, o := range append(slices.Clone(mine[:i]), others...) {
			if sharesText(m, o) {
				t.Fatalf("%s: %s is there twice, or is an argument's", what, short(m))
			}
		}
	}
}

// spoil writes all over the lists of ends and segments that were answered, and over the room behind them.
func spoil(ends []impl.Conn, lists ...[]impl.Seg) {
	for _, c := range ends {
		parts := c.In.Parts[:cap(c.In.Parts)]
		for i := range parts {
			parts[i] = part(9, "mine")
		}
	}
	for _, list := range lists {
		list = list[:cap(list)]
		for i := range list {
			list[i] = segOf(1, 2, 3, 4, "mine")
		}
	}
}

// apart asks that what is written over one end's list is not seen in the other's.
func apart(t *testing.T, what string, a, b impl.Conn) {
	t.Helper()
	was := slices.Clone(b.In.Parts)
	spoil([]impl.Conn{a})
	if !slices.Equal(b.In.Parts, was) {
		t.Fatalf("%s: both ends have one list", what)
	}
}

func TestRelaysAreNewMemory(t *testing.T) {
	relay := func(up, down impl.Pipe) impl.Relay {
		up.Data, down.Data = heap(up.Data), heap(down.Data)
		return impl.Relay{Up: up, Down: down}
	}
	listed := func(c impl.Conn) impl.Conn {
		return with(c, func(c *impl.Conn) {
			c.In.Parts = []impl.Part{part(c.In.Next+20, "ahead"), part(c.In.Next+40, "farther on")}
		})
	}
	rs := []impl.Relay{
		busyRelay(), {Up: pipeOf(20, ""), Down: pipeOf(20, "")}, {Up: pipeOf(5, "inner"), Down: pipeOf(5, "")}, {Up: pipeOf(5, "in"), Down: pipeOf(9, "inner")},
		{Up: pipeOf(1, "no pipe"), Down: pipeOf(20, "a pipe")}, {Up: pipeOf(20, "a pipe"), Down: pipeOf(1, "no pipe")},
	}
	for _, a := range everyState {
		for _, b := range everyState {
			left, right := busyEnds(a, b)
			ends := [][2]impl.Conn{
				{listed(left), listed(right)}, {left, listed(right)}, {with(left, func(c *impl.Conn) { c.Out.Room = 9 }), with(right, func(c *impl.Conn) { c.Out.Room = 12 })},
				{goneFor(listed(left), impl.EndNone), goneFor(listed(right), impl.EndNone)}, {with(listed(left), func(c *impl.Conn) { c.Tries = -1 }), listed(right)},
			}
			for _, pair := range ends {
				for _, plain := range rs {
					r := relay(plain.Up, plain.Down)
					from, wholeFrom := roomyEnd(pair[0])
					to, wholeTo := roomyEnd(pair[1])
					wasFrom, wasTo := slices.Clone(wholeFrom), slices.Clone(wholeTo)
					args := append(append(allTexts(from), allTexts(to)...), r.Up.Data, r.Down.Data)

					p, gotFrom, gotTo := impl.PipeMove(r.Up, from, to)
					ownTexts(t, "PipeMove", append(append(allTexts(gotFrom), allTexts(gotTo)...), p.Data), args)
					apart(t, "PipeMove", gotFrom, gotTo)
					spoil([]impl.Conn{gotFrom, gotTo})

					got := turnOf(r, from, to)
					ownTexts(t, "RelayMove", append(append(allTexts(got.left), allTexts(got.right)...), got.r.Up.Data, got.r.Down.Data), args)
					apart(t, "RelayMove", got.left, got.right)
					spoil([]impl.Conn{got.left, got.right}, got.x, got.y)
					impl.RelayHeld(r)
					impl.PipeOk(r.Up)

					if !slices.Equal(wholeFrom, wasFrom) || !slices.Equal(wholeTo, wasTo) || !equalConns(from, pair[0]) || !equalConns(to, pair[1]) || r != plain {
						t.Fatalf("something writes into its argument, or shares its list: %s", shownTurn(turn{r: plain, left: pair[0], right: pair[1]}))
					}
				}
			}
		}
	}
}

// The same end, and the same pipe, may be both: neither shares anything with the other then.
func TestOneEndAsBoth(t *testing.T) {
	end, whole := roomyEnd(with(endIn(impl.ConnOpen), func(c *impl.Conn) {
		c.In.Ready, c.In.Parts, c.Out.Data = "ready to be read", []impl.Part{part(c.In.Next+20, "ahead")}, "to be sent"
	}))
	was := slices.Clone(whole)
	for _, text := range []string{"", "held", "no pipe"} {
		p := impl.Pipe{Room: 5, Data: heap(text)}
		one, from, to := impl.PipeMove(p, end, end)
		ownTexts(t, "PipeMove", append(append(allTexts(from), allTexts(to)...), one.Data), append(allTexts(end), p.Data))
		apart(t, "PipeMove", from, to)
		got := turnOf(impl.Relay{Up: p, Down: p}, end, end)
		ownTexts(t, "RelayMove", append(append(allTexts(got.left), allTexts(got.right)...), got.r.Up.Data, got.r.Down.Data), append(allTexts(end), p.Data))
		apart(t, "RelayMove", got.right, got.left)
		relays(t, impl.Relay{Up: p, Down: p}, end, end)
	}
	if !slices.Equal(whole, was) {
		t.Error("the list of both is written into")
	}
}

// Nothing is kept between calls, and calls at the same time do not meet.
func TestRelaysKeepNothing(t *testing.T) {
	left, right := busyEnds(impl.ConnOpen, impl.ConnHalf)
	first := turnOf(busyRelay(), left, right)
	answers := make([]turn, 16)
	var all sync.WaitGroup
	for i := range answers {
		all.Add(1)
		go func() {
			defer all.Done()
			turnOf(impl.Relay{Up: pipeOf(9, "other"), Down: pipeOf(8, "one")}, endIn(i%10), otherEnd(9-i%10))
			answers[i] = turnOf(busyRelay(), left, right)
		}()
	}
	all.Wait()
	for _, got := range answers {
		sameTurn(t, "once more", got, first)
	}
}

// meeting is two lines with a relay between: the client is A of the left one, the server B of the right one.
type meeting struct {
	t           *testing.T
	left, right impl.Pair
	relay       impl.Relay
	tookUp      string
	tookDown    string
	gaveUp      string
	gaveDown    string
}

func meet(t *testing.T, iss [4]uint32, room, pipe int) *meeting {
	t.Helper()
	m := &meeting{t: t}
	ok := false
	if m.relay, ok = impl.RelayStart(pipe); !ok {
		t.Fatal("no relay")
	}
	m.left, _ = impl.PairStart(iss[0], iss[1], room)
	m.right, _ = impl.PairStart(iss[2], iss[3], room)
	return m
}

func (m *meeting) shown() string {
	return fmt.Sprintf("left %s\n right %s\n Up %s, Down %s", shownPair(m.left), shownPair(m.right), shownPipe(m.relay.Up), shownPipe(m.relay.Down))
}

// turn moves both pipes between the proxy's ends, and asks for what P13 says of it.
func (m *meeting) turn() {
	m.t.Helper()
	l, r := m.left.B, m.right.A
	got := relays(m.t, m.relay, l, r)
	givenUp := func(c impl.Conn) bool { return c.State == impl.ConnGone && c.End != impl.EndNone }
	if impl.ConnOk(l) && (givenUp(l) && got.right.State != impl.ConnGone || givenUp(r) && got.left.State != impl.ConnGone) {
		m.t.Fatalf("one line is given up, and the other is not: %s", m.shown())
	}
	m.tookUp += l.In.Ready[:len(l.In.Ready)-len(got.left.In.Ready)]
	m.tookDown += r.In.Ready[:len(r.In.Ready)-len(got.right.In.Ready)]
	m.gaveUp += got.right.Out.Data[len(r.Out.Data):]
	m.gaveDown += got.left.Out.Data[len(l.Out.Data):]
	m.relay = got.r
	fromB(&m.left, got.left, got.x)
	fromA(&m.right, got.right, got.y)
	if m.left.Heard {
		c, sent := impl.ConnSend(m.left.B, m.left.Now)
		fromB(&m.left, c, sent)
	}
	c, sent := impl.ConnSend(m.right.A, m.right.Now)
	fromA(&m.right, c, sent)
	m.keeps()
}

func (m *meeting) keeps() {
	m.t.Helper()
	up, down := m.relay.Up, m.relay.Down
	if m.tookUp != m.gaveUp+up.Data || m.tookDown != m.gaveDown+down.Data || up.Passed != len(m.gaveUp) || down.Passed != len(m.gaveDown) {
		m.t.Fatalf("a pipe gives what it did not take: %s", m.shown())
	}
	if !impl.PipeOk(up) || !impl.PipeOk(down) || impl.RelayHeld(m.relay) != len(up.Data)+len(down.Data) || !soundBy(m.left) || !soundBy(m.right) {
		m.t.Fatalf("something is not right: %s", m.shown())
	}
	if !isBeginning(m.right.GotB, m.left.WroteA) || !isBeginning(m.left.GotA, m.right.WroteB) {
		m.t.Fatalf("what is read is not what was written: %s", m.shown())
	}
}

func (m *meeting) onLeft(ops ...impl.PairOp) {
	m.t.Helper()
	for _, o := range ops {
		m.left = impl.PairDo(m.left, o)
		m.turn()
	}
}

func (m *meeting) onRight(ops ...impl.PairOp) {
	m.t.Helper()
	for _, o := range ops {
		m.right = impl.PairDo(m.right, o)
		m.turn()
	}
}

func (m *meeting) giveNext() bool {
	m.t.Helper()
	switch {
	case len(m.left.ToB) > 0:
		m.onLeft(op(impl.PairGiveB, 0))
	case len(m.left.ToA) > 0:
		m.onLeft(op(impl.PairGiveA, 0))
	case len(m.right.ToB) > 0:
		m.onRight(op(impl.PairGiveB, 0))
	case len(m.right.ToA) > 0:
		m.onRight(op(impl.PairGiveA, 0))
	default:
		return false
	}
	return true
}

// calm gives everything, lets the client and the server read, and a tick pass, until nothing waits or all ticks are over.
func (m *meeting) calm(ticks int) {
	m.t.Helper()
	for range ticks {
		for range 400 {
			if !m.giveNext() {
				break
			}
		}
		m.onLeft(op(impl.PairReadA, topBuf))
		m.onRight(op(impl.PairReadB, topBuf))
		if impl.PairOver(m.left) && impl.PairOver(m.right) {
			return
		}
		m.onLeft(op(impl.PairTick, 1))
		m.onRight(op(impl.PairTick, 1))
	}
}

func (m *meeting) states(what string, states ...int) {
	m.t.Helper()
	if got := []int{m.left.A.State, m.left.B.State, m.right.A.State, m.right.B.State}; !slices.Equal(got, states) {
		m.t.Fatalf("%s: states %v, not %v: %s", what, got, states, m.shown())
	}
}

func (m *meeting) through(what string) {
	m.t.Helper()
	if m.right.GotB != m.left.WroteA || m.left.GotA != m.right.WroteB || impl.RelayHeld(m.relay) != 0 {
		m.t.Fatalf("%s: not everything came through: %s", what, m.shown())
	}
}

func openMeeting(t *testing.T, room, pipe int) *meeting {
	t.Helper()
	m := meet(t, [4]uint32{1000, 5000, round - 3, round - 200}, room, pipe)
	m.calm(5)
	m.states("opened", impl.ConnOpen, impl.ConnOpen, impl.ConnOpen, impl.ConnOpen)
	return m
}

// Over good ways, step by step: the FIN of one side goes on to the other behind the last byte, and the other way stays open.
func TestTwoLinesFromAskingToParting(t *testing.T) {
	m := openMeeting(t, 300, 4)
	m.onLeft(writes(impl.PairWriteA, "hello there"), op(impl.PairCloseA, 0))
	m.states("the client has closed", impl.ConnFin1, impl.ConnOpen, impl.ConnOpen, impl.ConnOpen)
	m.onLeft(op(impl.PairGiveB, 0))
	// With a pipe of four bytes it takes three turns.
	if m.gaveUp != "hell" || m.relay.Up.Ended || m.right.A.Fin || m.left.B.In.Ready != "o there" {
		t.Fatalf("the first turn: %s", m.shown())
	}
	m.onLeft(op(impl.PairGiveB, 0))
	if m.gaveUp != "hello th" || m.relay.Up.Ended || m.right.A.Fin || m.left.B.In.Ready != "ere" || !m.left.B.GotFin {
		t.Fatalf("the second turn: %s", m.shown())
	}
	m.turn()
	if m.gaveUp != "hello there" || !m.relay.Up.Ended || m.right.A.State != impl.ConnFin1 || m.right.B.State != impl.ConnOpen {
		t.Fatalf("the third turn: %s", m.shown())
	}
	m.calm(5)
	m.states("told", impl.ConnFin2, impl.ConnHalf, impl.ConnFin2, impl.ConnHalf)
	m.through("one way")
	m.onRight(writes(impl.PairWriteB, "and back again"))
	m.calm(5)
	m.states("answered", impl.ConnFin2, impl.ConnHalf, impl.ConnFin2, impl.ConnHalf)
	m.through("and back")
	m.onRight(op(impl.PairCloseB, 0))
	m.calm(restFor + 5)
	m.states("parted", impl.ConnGone, impl.ConnGone, impl.ConnGone, impl.ConnGone)
	if m.right.GotB != "hello there" || m.left.GotA != "and back again" || gaveUp(m.left) || gaveUp(m.right) || !m.relay.Down.Ended || m.relay.Up.Passed != 11 || m.relay.Down.Passed != 14 {
		t.Errorf("in the end: %s", m.shown())
	}
}

// Over good ways, with rooms and pipes of all sizes, and much more than these hold.
func TestTwoLinesOverGoodWays(t *testing.T) {
	for _, room := range []int{1, 100, 300, topBuf} {
		for _, pipe := range []int{1, 3, 250, topPipe} {
			m := openMeeting(t, room, pipe)
			for i := range 4 {
				m.onLeft(writes(impl.PairWriteA, bytesFrom(i, 700)))
				m.onRight(writes(impl.PairWriteB, bytesFrom(i+9, 200*i)))
				m.calm(2000)
			}
			if len(m.left.WroteA) < 4*min(room, 700) {
				t.Fatalf("little was written: %s", m.shown())
			}
			m.through("both ways")
			m.states("still open", impl.ConnOpen, impl.ConnOpen, impl.ConnOpen, impl.ConnOpen)
			m.onRight(op(impl.PairCloseB, 0))
			m.onLeft(op(impl.PairCloseA, 0))
			m.calm(2000)
			m.states("parted", impl.ConnGone, impl.ConnGone, impl.ConnGone, impl.ConnGone)
			m.through("parted")
		}
	}
}

// While the server reads nothing, the pipe fills and no more; then it all comes through.
func TestAPipeHoldsNoMoreThanItsRoom(t *testing.T) {
	for _, pipe := range []int{1, 3, 99, 700, topPipe} {
		m := openMeeting(t, 50, pipe)
		for i := range 80 {
			m.onLeft(writes(impl.PairWriteA, bytesFrom(i, 50)))
			for range 40 {
				m.giveNext()
			}
			if len(m.relay.Up.Data) > pipe {
				t.Fatalf("more than %d are held: %s", pipe, m.shown())
			}
		}
		if len(m.relay.Up.Data) != pipe || len(m.left.B.In.Ready) == 0 || m.right.GotB != "" {
			t.Fatalf("a pipe of %d is not full: %s", pipe, m.shown())
		}
		m.onLeft(op(impl.PairCloseA, 0))
		m.calm(3000)
		m.through("read at last")
		if !m.relay.Up.Ended || !m.right.A.Fin {
			t.Errorf("told: %s", m.shown())
		}
	}
}

// P13: whoever gives up, all four ends are gone; and what was read till then is a beginning.
func TestTwoLinesWhereOneIsGivenUp(t *testing.T) {
	talks := func() *meeting {
		m := openMeeting(t, 300, 50)
		m.onLeft(writes(impl.PairWriteA, bytesFrom(1, 300)))
		m.onRight(writes(impl.PairWriteB, bytesFrom(2, 300)))
		for range 5 {
			m.giveNext()
		}
		return m
	}
	for i, gives := range []func(*meeting){
		func(m *meeting) { m.onLeft(op(impl.PairAbortA, 0)) }, func(m *meeting) { m.onLeft(op(impl.PairAbortB, 0)) },
		func(m *meeting) { m.onRight(op(impl.PairAbortA, 0)) }, func(m *meeting) { m.onRight(op(impl.PairAbortB, 0)) },
	} {
		m := talks()
		gives(m)
		m.calm(700)
		m.states("given up", impl.ConnGone, impl.ConnGone, impl.ConnGone, impl.ConnGone)
		wants := [][4]int{
			{impl.EndAborted, impl.EndReset, impl.EndAborted, impl.EndReset}, {impl.EndReset, impl.EndAborted, impl.EndAborted, impl.EndReset},
			{impl.EndReset, impl.EndAborted, impl.EndAborted, impl.EndReset}, {impl.EndReset, impl.EndAborted, impl.EndReset, impl.EndAborted},
		}
		if got := [4]int{m.left.A.End, m.left.B.End, m.right.A.End, m.right.B.End}; got != wants[i] {
			t.Errorf("case %d: gone for %v, not %v", i, got, wants[i])
		}
	}
}

// A line that nobody answers, or that is refused, takes the other with it.
func TestTwoLinesWhereOneIsNotAnswered(t *testing.T) {
	m := meet(t, [4]uint32{1000, 5000, 7, 9}, 300, 50)
	m.right.ToB = nil
	for range 7000 {
		m.onLeft(op(impl.PairGiveB, 0), op(impl.PairGiveA, 0), op(impl.PairTick, 1))
		m.onRight(op(impl.PairTick, 1), op(impl.PairDropB, 0))
	}
	m.states("tired", impl.ConnGone, impl.ConnGone, impl.ConnGone, impl.ConnGone)
	if m.right.A.End != impl.EndTired || m.left.B.End != impl.EndAborted || m.left.A.End != impl.EndReset {
		t.Errorf("tired: %s", m.shown())
	}

	m = meet(t, [4]uint32{1000, 5000, 7, 9}, 300, 50)
	m.onLeft(op(impl.PairGiveB, 0), op(impl.PairGiveA, 0), op(impl.PairGiveB, 0))
	m.right.ToA = []impl.Seg{{Flags: rst + ack, Ack: 8}}
	m.onRight(op(impl.PairGiveA, 0))
	if m.right.A.End != impl.EndRefused || m.left.B.End != impl.EndAborted || !slices.Equal(m.left.ToA, []impl.Seg{{Seq: 5001, Ack: 1001, Flags: rst + ack}}) {
		t.Errorf("refused: %s", m.shown())
	}
}

// notTheProxys turns what an end of the proxy would do itself into what the client or the server does.
func notTheProxys(o impl.PairOp, left bool) impl.PairOp {
	of := [][2]int{{impl.PairWriteA, impl.PairWriteB}, {impl.PairReadA, impl.PairReadB}, {impl.PairCloseA, impl.PairCloseB}, {impl.PairAbortA, impl.PairAbortB}}
	for _, kinds := range of {
		if o.Kind == kinds[0] || o.Kind == kinds[1] {
			o.Kind = kinds[1]
			if left {
				o.Kind = kinds[0]
			}
		}
	}
	return o
}

func (m *meeting) badStep(o impl.PairOp, left bool) {
	m.t.Helper()
	o = notTheProxys(o, left)
	switch {
	case o.Kind == impl.PairTick:
		m.onLeft(o)
		m.onRight(o)
	case left:
		m.onLeft(o)
	default:
		m.onRight(o)
	}
}

// P13, over ways that lose, double and turn around, on both lines; and then in the calm.
func TestTwoLinesOverBadWays(t *testing.T) {
	seen := map[string]int{}
	for seed := range 70 {
		words := spread(seed*89 + 4*600 + 4)[seed*89:]
		room, pipe := []int{1, 30, 99, 150, 300, 1000, topBuf}[seed%7], []int{1, 10, 99, 500, topPipe}[seed%5]
		m := meet(t, [4]uint32{words[0], round - 1, round - 300, words[1]}, room, pipe)
		for i := range 600 {
			w := words[4*i:]
			o := badDay(seed/2, w, i > 450 && seed%3 == 0)
			if seed%10 == 3 && i == 500 {
				o = op(impl.PairAbortA, 0)
			}
			m.badStep(o, w[3]>>8%2 == 0)
			seen["a pipe is full"] += (len(m.relay.Up.Data) + len(m.relay.Down.Data)) / (2 * pipe)
		}
		// Who was never heard can't close.
		m.calm(6000)
		m.onLeft(op(impl.PairCloseA, 0))
		m.onRight(op(impl.PairCloseB, 0))
		m.calm(6000)
		if gaveUp(m.left) || gaveUp(m.right) {
			seen["given up"]++
			if l, r := m.left.B, m.right.A; m.left.Heard && (l.State != impl.ConnGone || r.State != impl.ConnGone) && (l.End != impl.EndNone || r.End != impl.EndNone) {
				t.Fatalf("one line is given up, and the other is not: %s", m.shown())
			}
			continue
		}
		m.through("in the calm")
		m.states("parted", impl.ConnGone, impl.ConnGone, impl.ConnGone, impl.ConnGone)
		seen["through and parted"]++
		seen["bytes"] += len(m.right.GotB) + len(m.left.GotA)
	}
	for what, least := range map[string]int{"through and parted": 45, "given up": 8, "a pipe is full": 500, "bytes": 80000} {
		if seen[what] < least {
			t.Errorf("%s: %d", what, seen[what])
		}
	}
}
