package tests

import (
	"fmt"
	"math"
	"reflect"
	"slices"
	"strings"
	"sync"
	"testing"

	"loop.example/g00107/impl"
)

const (
	topWorldCalm = 3000
	worldGives   = 800
)

var (
	// noSides are neither of both.
	noSides       = []int{-1, 2, 3, -2, -round, round, round + 1, math.MinInt, math.MinInt + 1, math.MaxInt - 1, math.MaxInt}
	badWorldCalms = []int{-1, -2, topWorldCalm + 1, topWorldCalm + 2, topCalm, -topWorldCalm, -round, round, round + 1, math.MinInt, math.MinInt + 1, math.MaxInt - 1, math.MaxInt}
	// What an end says of its own accord: to write, to read, to close and to give up.
	saidByA = []int{impl.PairWriteA, impl.PairReadA, impl.PairCloseA, impl.PairAbortA}
	saidByB = []int{impl.PairWriteB, impl.PairReadB, impl.PairCloseB, impl.PairAbortB}
)

func onLeft(o impl.PairOp) impl.WorldOp { return impl.WorldOp{Side: impl.SideLeft, Op: o} }

func onRight(o impl.PairOp) impl.WorldOp { return impl.WorldOp{Side: impl.SideRight, Op: o} }

// nowhere is an op that is for neither line, so that nothing but what comes behind an op is done.
func nowhere() impl.WorldOp { return impl.WorldOp{Side: 2, Op: op(impl.PairGiveB, 0)} }

func shownWorld(w impl.World) string {
	return fmt.Sprintf("{begun %v, IssR %d, IssS %d, Up %s, Down %s\n left %s\n right %s}", w.Begun, w.IssR, w.IssS, shownPipe(w.Relay.Up), shownPipe(w.Relay.Down), shownPair(w.Left), shownPair(w.Right))
}

func shownWorldOp(o impl.WorldOp) string {
	return fmt.Sprintf("side %d, kind %d, %d, %s", o.Side, o.Op.Kind, o.Op.N, short(o.Op.Data))
}

// equalWorlds tells by both lines, and then by whatever else there is.
func equalWorlds(a, b impl.World) bool {
	if !equalPairs(a.Left, b.Left) || !equalPairs(a.Right, b.Right) {
		return false
	}
	a.Left, a.Right, b.Left, b.Right = impl.Pair{}, impl.Pair{}, impl.Pair{}, impl.Pair{}
	return reflect.DeepEqual(a, b)
}

// altered is a world of its own with these changes.
func altered(w impl.World, changes ...func(*impl.World)) impl.World {
	w.Left, w.Right = but(w.Left), but(w.Right)
	for _, change := range changes {
		change(&w)
	}
	return w
}

func sameWorld(t *testing.T, what string, got, want impl.World) {
	t.Helper()
	if !equalWorlds(got, want) {
		t.Fatalf("%s\n is  %s\n not %s", what, shownWorld(got), shownWorld(want))
	}
}

func soundWorldBy(w impl.World) bool {
	return soundBy(w.Left) && (!w.Begun || soundBy(w.Right)) && impl.PipeOk(w.Relay.Up) && impl.PipeOk(w.Relay.Down)
}

// actedBy is the op alone, ahead of both points.
func actedBy(w *impl.World, o impl.WorldOp) {
	kind := o.Op.Kind
	if kind == 6 || o.Side == 0 && !slices.Contains([]int{1, 3, 5, 14}, kind) {
		w.Left = pairBy(w.Left, o.Op)
	}
	if w.Begun && (kind == 6 || o.Side == 1 && !slices.Contains([]int{0, 2, 4, 13}, kind)) {
		w.Right = pairBy(w.Right, o.Op)
	}
}

// lineBy is a line on which A has just asked at a tick.
func lineBy(issA, issB uint32, room, now int) impl.Pair {
	return impl.Pair{A: startedBy(issA, room, now), IssB: issB, Room: room, Now: now, ToB: []impl.Seg{{Seq: issA, Flags: syn, Win: room, Mss: 100}}}
}

// worldBy goes through WorldDo step by step.
func worldBy(w impl.World, o impl.WorldOp) impl.World {
	w = altered(w)
	if !soundWorldBy(w) {
		return w
	}
	actedBy(&w, o)
	if !w.Begun && w.Left.Heard && w.Left.B.State != 0 && w.Left.B.State != 1 && w.Left.B.State != 2 {
		w.Right, w.Begun = lineBy(w.IssR, w.IssS, w.Left.Room, w.Left.Now), true
	}
	if !w.Begun {
		return w
	}
	moved := turnedBy(w.Relay, w.Left.B, w.Right.A)
	w.Relay = moved.r
	fromB(&w.Left, moved.left, moved.x)
	fromA(&w.Right, moved.right, moved.y)
	c, sent := impl.ConnSend(w.Left.B, w.Left.Now)
	fromB(&w.Left, c, sent)
	c, sent = impl.ConnSend(w.Right.A, w.Right.Now)
	fromA(&w.Right, c, sent)
	return w
}

// calmWorldBy goes through one tick of WorldCalm step by step.
func calmWorldBy(w impl.World) impl.World {
	for range worldGives {
		switch {
		case len(w.Left.ToB) > 0:
			w = worldBy(w, onLeft(op(7, 0)))
		case len(w.Left.ToA) > 0:
			w = worldBy(w, onLeft(op(8, 0)))
		case len(w.Right.ToB) > 0:
			w = worldBy(w, onRight(op(7, 0)))
		case len(w.Right.ToA) > 0:
			w = worldBy(w, onRight(op(8, 0)))
		}
	}
	return worldBy(worldBy(worldBy(w, onLeft(op(2, topBuf))), onRight(op(3, topBuf))), onLeft(op(6, 1)))
}

// turns asks that an op makes of w what the steps say, and that nothing is written into w.
func turns(t *testing.T, w impl.World, o impl.WorldOp) impl.World {
	t.Helper()
	arg := altered(w)
	got := impl.WorldDo(arg, o)
	if want := worldBy(w, o); !equalWorlds(got, want) {
		t.Fatalf("WorldDo(%s, %s)\n is  %s\n not %s", shownWorld(w), shownWorldOp(o), shownWorld(got), shownWorld(want))
	}
	if !equalWorlds(arg, w) {
		t.Fatalf("WorldDo(%s, %s) writes into it", shownWorld(w), shownWorldOp(o))
	}
	return got
}

// worldIn has ends in these states: the client's, both of the proxy's, and the server's. The proxy's have bytes to be read, and both pipes hold some.
func worldIn(client, left, right, server int) impl.World {
	w := impl.World{Left: pairIn(client, left), Right: pairIn(right, server), Begun: true, IssR: 7000, IssS: 9000, Relay: busyRelay()}
	w.Left.B.In.Ready, w.Right.A.In.Ready = "from the left line", "from the right line"
	w.Right.Now = nowTick + 3
	return w
}

// aloneIn has a left line with ends in these states, and no right one yet.
func aloneIn(client, left int) impl.World {
	return altered(worldIn(client, left, 3, 3), func(w *impl.World) { w.Right, w.Begun = impl.Pair{}, false })
}

// silentIn has a client in a state, and a proxy that was never heard.
func silentIn(client int) impl.World {
	return altered(aloneIn(client, 3), func(w *impl.World) { w.Left = loneIn(client) })
}

// partedWorld is worldIn, but who is gone there is so because both ends closed.
func partedWorld(w impl.World) impl.World {
	return altered(w, func(w *impl.World) {
		for _, c := range []*impl.Conn{&w.Left.A, &w.Left.B, &w.Right.A, &w.Right.B} {
			if c.State == impl.ConnGone {
				c.End = impl.EndNone
			}
		}
	})
}

// someWorlds are in all states of the proxy's ends, begun, not begun, and never heard.
func someWorlds() []impl.World {
	out := []impl.World{}
	for _, a := range everyState {
		out = append(out, silentIn(a), aloneIn(9-a, a))
		for _, b := range everyState {
			w := worldIn((a+b)%10, a, b, (a+3*b)%10)
			out = append(out, w)
			if a == impl.ConnGone || b == impl.ConnGone {
				out = append(out, partedWorld(w))
			}
		}
	}
	return out
}

func freshWorld(t *testing.T, room, pipe int) impl.World {
	t.Helper()
	w, ok := impl.WorldStart([4]uint32{1000, 5000, 7000, 9000}, room, pipe)
	if !ok {
		t.Fatal("no world")
	}
	return w
}

// openWorld has all four ends open at tick 0, and nothing under way.
func openWorld(t *testing.T, room, pipe int) impl.World {
	t.Helper()
	w := impl.WorldRun(freshWorld(t, room, pipe), []impl.WorldOp{
		onLeft(op(impl.PairGiveB, 0)), onLeft(op(impl.PairGiveA, 0)), onLeft(op(impl.PairGiveB, 0)),
		onRight(op(impl.PairGiveB, 0)), onRight(op(impl.PairGiveA, 0)), onRight(op(impl.PairGiveB, 0)),
	})
	if impl.WorldText(w) != "3 3 3 3 0 0 0 0 0" || onTheWay(w) != 0 || !w.Begun {
		t.Fatalf("not open: %s", shownWorld(w))
	}
	return w
}

func onTheWay(w impl.World) int {
	return len(w.Left.ToA) + len(w.Left.ToB) + len(w.Right.ToA) + len(w.Right.ToB)
}

func TestWorldConstants(t *testing.T) {
	if impl.SideLeft != 0 || impl.SideRight != 1 {
		t.Errorf("SideLeft %d, SideRight %d", impl.SideLeft, impl.SideRight)
	}
}

func TestWorldStart(t *testing.T) {
	for _, room := range startRooms {
		for _, pipe := range pipeRooms {
			for i := range startWords {
				word := func(k int) uint32 { return startWords[(i+k)%len(startWords)] }
				w, ok := impl.WorldStart([4]uint32{word(0), word(1), word(2), word(3)}, room, pipe)
				want := impl.World{
					Left: lineBy(word(0), word(1), room, 0), IssR: word(2), IssS: word(3),
					Relay: impl.Relay{Up: impl.Pipe{Room: pipe}, Down: impl.Pipe{Room: pipe}},
				}
				if !ok || !equalWorlds(w, want) {
					t.Errorf("rooms %d and %d: %s, %v", room, pipe, shownWorld(w), ok)
				}
			}
		}
	}
	refused := func(room, pipe int) {
		t.Helper()
		if w, ok := impl.WorldStart([4]uint32{1, 2, 3, 4}, room, pipe); ok || !equalWorlds(w, impl.World{}) {
			t.Errorf("rooms %d and %d: %s, %v", room, pipe, shownWorld(w), ok)
		}
	}
	for _, bad := range badRooms {
		for _, pipe := range append(slices.Clone(pipeRooms), noPipeRooms...) {
			refused(bad, pipe)
		}
	}
	for _, bad := range noPipeRooms {
		for _, room := range startRooms {
			refused(room, bad)
		}
	}
	refused(topBuf+1, 50)
	refused(300, topPipe+1)
}

// Each place by itself: where it goes, and that it goes nowhere else.
func TestWhereThePlacesGo(t *testing.T) {
	none, _ := impl.WorldStart([4]uint32{}, 300, 50)
	for k := range 4 {
		iss := [4]uint32{}
		iss[k] = 77
		w, _ := impl.WorldStart(iss, 300, 50)
		want := altered(none, func(w *impl.World) {
			switch k {
			case 0:
				w.Left = lineBy(77, 0, 300, 0)
			case 1:
				w.Left.IssB = 77
			case 2:
				w.IssR = 77
			case 3:
				w.IssS = 77
			}
		})
		sameWorld(t, fmt.Sprint("place ", k), w, want)
		open := impl.WorldCalm(w, 5)
		for i, c := range []impl.Conn{open.Left.A, open.Left.B, open.Right.A, open.Right.B} {
			if c.Iss != iss[i] || c.State != impl.ConnOpen {
				t.Errorf("place %d: end %d is %s", k, i, shownConn(c))
			}
		}
	}
}

// someWorldOps are one of each kind on each side and on none, and more, each of which does something to most worlds.
func someWorldOps() []impl.WorldOp {
	out := []impl.WorldOp{}
	for _, side := range []int{impl.SideLeft, impl.SideRight, -1, 2} {
		for _, o := range tellingOps() {
			out = append(out, impl.WorldOp{Side: side, Op: o})
		}
	}
	return out
}

// staysWhole asks that nothing makes anything of a world that is not right.
func staysWhole(t *testing.T, what string, w impl.World) {
	t.Helper()
	if soundWorldBy(w) {
		t.Fatalf("%s: right after all: %s", what, shownWorld(w))
	}
	arg := altered(w)
	for _, side := range []int{impl.SideLeft, impl.SideRight, 2} {
		for _, kind := range []int{impl.PairWriteA, impl.PairWriteB, impl.PairTick, impl.PairGiveB, impl.PairGiveA, impl.PairDropB, impl.PairAbortA, impl.PairAbortB, -1} {
			sameWorld(t, what+", WorldDo", impl.WorldDo(arg, impl.WorldOp{Side: side, Op: impl.PairOp{Kind: kind, N: 1, Data: "text"}}), w)
		}
	}
	sameWorld(t, what+", WorldRun", impl.WorldRun(arg, someWorldOps()), w)
	for _, ticks := range []int{0, 1, 3, topWorldCalm, topWorldCalm + 1} {
		sameWorld(t, what+", WorldCalm", impl.WorldCalm(arg, ticks), w)
	}
	sameWorld(t, what+", written into", arg, w)
}

// isDone asks that a segment that is dropped from the left line is gone, which it is of any world that is right.
func isDone(t *testing.T, what string, w impl.World) {
	t.Helper()
	got := turns(t, w, onLeft(op(impl.PairDropB, 0)))
	if equalWorlds(got, w) || len(got.Left.ToB) == 0 || got.Left.ToB[0] != w.Left.ToB[1] {
		t.Errorf("%s: nothing is done to %s", what, shownWorld(w))
	}
}

// wrongPairs have each one thing that no line has.
func wrongPairs() map[string]impl.Pair {
	out := map[string]impl.Pair{"the zero value": {}}
	wrong := func(what string, p impl.Pair, change func(*impl.Pair)) { out[what] = but(p, change) }
	for i, bad := range badEnds(impl.ConnOpen) {
		wrong(fmt.Sprint("A not right, ", i), pairIn(3, 3), func(p *impl.Pair) { p.A = bad })
		wrong(fmt.Sprint("B not right, ", i), pairIn(3, 3), func(p *impl.Pair) { p.B = bad })
	}
	wrong("never heard, but in a state", loneIn(3), func(p *impl.Pair) { p.B.State = impl.ConnOpen })
	wrong("never heard, but open", pairIn(3, 3), func(p *impl.Pair) { p.Heard = false })
	wrong("heard, but zero", loneIn(3), func(p *impl.Pair) { p.Heard = true })
	wrong("WroteA", pairIn(3, 3), func(p *impl.Pair) { p.WroteA = bytesFrom(1, topTotal+1) })
	wrong("WroteB", pairIn(3, 3), func(p *impl.Pair) { p.WroteB = bytesFrom(1, topTotal+1) })
	wrong("GotA", pairIn(3, 3), func(p *impl.Pair) { p.GotA = bytesFrom(1, topTotal+1) })
	wrong("GotB", pairIn(3, 3), func(p *impl.Pair) { p.GotB = bytesFrom(1, topTotal+1) })
	wrong("ToA", pairIn(3, 3), func(p *impl.Pair) { p.ToA = numbered(topWay + 1) })
	wrong("ToB", pairIn(3, 3), func(p *impl.Pair) { p.ToB = numbered(topWay + 1) })
	for _, room := range badRooms {
		wrong(fmt.Sprint("Room ", room), pairIn(3, 3), func(p *impl.Pair) { p.Room = room })
	}
	for _, now := range badTicks {
		wrong(fmt.Sprint("Now ", now), pairIn(3, 3), func(p *impl.Pair) { p.Now = now })
	}
	return out
}

// One thing that is not right is enough; only a right line that has not begun may be anything.
func TestWorldsThatAreNotRight(t *testing.T) {
	for what, p := range wrongPairs() {
		for _, base := range []impl.World{worldIn(3, 3, 3, 3), worldIn(3, 2, 1, 0), aloneIn(3, 3), aloneIn(3, 2)} {
			staysWhole(t, "left: "+what, altered(base, func(w *impl.World) { w.Left = but(p) }))
		}
		staysWhole(t, "right: "+what, altered(worldIn(3, 3, 3, 3), func(w *impl.World) { w.Right = but(p) }))
		staysWhole(t, "right, with a left that is never heard: "+what, altered(silentIn(3), func(w *impl.World) { w.Right, w.Begun = but(p), true }))

		// Without having begun it is as good as any, until it begins and is another one.
		for _, left := range []int{impl.ConnGone, impl.ConnHeard} {
			w := altered(aloneIn(3, left), func(w *impl.World) { w.Right = but(p) })
			isDone(t, "right, not begun: "+what, w)
			if got := impl.WorldDo(w, onLeft(op(impl.PairDropB, 0))); got.Begun || !equalPairs(got.Right, p) {
				t.Errorf("right, not begun: %s: %s", what, shownWorld(got))
			}
		}
		w := altered(aloneIn(3, 3), func(w *impl.World) { w.Right = but(p) })
		got := turns(t, w, nowhere())
		if want := impl.WorldDo(aloneIn(3, 3), nowhere()); !got.Begun || !equalWorlds(got, want) {
			t.Errorf("right, beginning: %s: %s", what, shownWorld(got))
		}
	}
	for _, base := range []impl.World{worldIn(3, 3, 3, 3), worldIn(3, 2, 1, 0), aloneIn(3, 3), aloneIn(3, 2), silentIn(3)} {
		for _, bad := range badPipes() {
			staysWhole(t, "Up is no pipe", altered(base, func(w *impl.World) { w.Relay.Up = bad }))
			staysWhole(t, "Down is no pipe", altered(base, func(w *impl.World) { w.Relay.Down = bad }))
		}
	}
	staysWhole(t, "the zero value", impl.World{})
	staysWhole(t, "a right line alone", impl.World{Right: pairIn(3, 3), Begun: true, Relay: busyRelay()})
}

func TestWorldsAtTheirLimits(t *testing.T) {
	for _, base := range []impl.World{worldIn(3, 3, 3, 3), worldIn(3, 2, 1, 3), aloneIn(3, 2), silentIn(3)} {
		isDone(t, "as it is", base)
		for _, change := range []func(*impl.Pair){
			func(p *impl.Pair) { p.WroteA = bytesFrom(1, topTotal) }, func(p *impl.Pair) { p.WroteB = bytesFrom(1, topTotal) },
			func(p *impl.Pair) { p.GotA = bytesFrom(1, topTotal) }, func(p *impl.Pair) { p.GotB = bytesFrom(1, topTotal) },
			func(p *impl.Pair) { p.ToA = numbered(topWay) }, func(p *impl.Pair) { p.ToB = numbered(topWay) },
			func(p *impl.Pair) { p.Room = 1 }, func(p *impl.Pair) { p.Room = topBuf }, func(p *impl.Pair) { p.Now = 0 }, func(p *impl.Pair) { p.Now = topTick },
		} {
			isDone(t, "left", altered(base, func(w *impl.World) { change(&w.Left) }))
			isDone(t, "right", altered(base, func(w *impl.World) { change(&w.Right) }))
			isDone(t, "both", altered(base, func(w *impl.World) { change(&w.Left); change(&w.Right) }))
		}
		for _, p := range goodPipes() {
			isDone(t, "Up", altered(base, func(w *impl.World) { w.Relay.Up = p }))
			isDone(t, "Down", altered(base, func(w *impl.World) { w.Relay.Down = p }))
		}
	}
}

// Every kind on every side, in every state of the proxy's ends, begun, not begun and never heard.
func TestWorldDoInEveryState(t *testing.T) {
	for _, w := range someWorlds() {
		if !soundWorldBy(w) {
			t.Fatalf("not right: %s", shownWorld(w))
		}
		for _, side := range []int{impl.SideLeft, impl.SideRight, -1, 2} {
			for _, kind := range append(slices.Clone(pairKinds), -1, 15) {
				for _, n := range []int{0, 4, -3} {
					turns(t, w, impl.WorldOp{Side: side, Op: impl.PairOp{Kind: kind, N: n, Data: "written now"}})
				}
			}
		}
		for _, o := range []impl.PairOp{op(impl.PairTick, 73), op(impl.PairTick, topStep), op(impl.PairTick, topStep+1)} {
			turns(t, w, onLeft(o))
			turns(t, w, onRight(o))
		}
	}
}

// Which kinds are for whom, by hand: what they do shows where nothing else can do anything.
func TestWhatIsBarred(t *testing.T) {
	w := altered(openWorld(t, 300, 50), func(w *impl.World) {
		w.Left.A.In.Ready, w.Right.B.In.Ready = "for the client", "for the server"
		w.Left.ToA, w.Left.ToB, w.Right.ToA, w.Right.ToB = numbered(1), numbered(2), numbered(3), numbered(4)
	})
	for _, kind := range pairKinds {
		o := impl.PairOp{Kind: kind, N: 3, Data: "hello"}
		l, r := impl.WorldDo(w, onLeft(o)), impl.WorldDo(w, onRight(o))
		doneLeft := altered(w, func(w *impl.World) { w.Left = impl.PairDo(w.Left, o) })
		doneRight := altered(w, func(w *impl.World) { w.Right = impl.PairDo(w.Right, o) })
		switch {
		case slices.Contains(saidByA, kind):
			sameWorld(t, fmt.Sprint("the client, kind ", kind), l, doneLeft)
			sameWorld(t, fmt.Sprint("the proxy on the right, kind ", kind), r, w)
		case slices.Contains(saidByB, kind):
			sameWorld(t, fmt.Sprint("the proxy on the left, kind ", kind), l, w)
			sameWorld(t, fmt.Sprint("the server, kind ", kind), r, doneRight)
		case kind != impl.PairTick:
			sameWorld(t, fmt.Sprint("the left ways, kind ", kind), l, doneLeft)
			sameWorld(t, fmt.Sprint("the right ways, kind ", kind), r, doneRight)
		}
		if kind != impl.PairTick && equalWorlds(l, w) && equalWorlds(r, w) {
			t.Errorf("kind %d does nothing anywhere", kind)
		}
		for _, side := range noSides {
			if kind != impl.PairTick {
				sameWorld(t, fmt.Sprint("side ", side, ", kind ", kind), impl.WorldDo(w, impl.WorldOp{Side: side, Op: o}), w)
			}
		}
	}
	// What the client and the server do, in full.
	got := impl.WorldRun(w, []impl.WorldOp{
		onLeft(writes(impl.PairWriteA, "asks")), onRight(writes(impl.PairWriteB, "answers")), onLeft(op(impl.PairReadA, 3)), onRight(op(impl.PairReadB, 7)), onLeft(op(impl.PairCloseA, 0)), onRight(op(impl.PairCloseB, 0)),
	})
	if got.Left.WroteA != "asks" || got.Right.WroteB != "answers" || got.Left.GotA != "for" || got.Right.GotB != "for the" || got.Left.A.State != impl.ConnFin1 || got.Right.B.State != impl.ConnFin1 || got.Left.B.State != impl.ConnOpen || got.Right.A.State != impl.ConnOpen {
		t.Errorf("what both do: %s", shownWorld(got))
	}
	got = impl.WorldRun(w, []impl.WorldOp{onLeft(op(impl.PairAbortA, 0)), onRight(op(impl.PairAbortB, 0))})
	if got.Left.A.End != impl.EndAborted || got.Right.B.End != impl.EndAborted || got.Left.B.State != impl.ConnOpen || got.Right.A.State != impl.ConnOpen {
		t.Errorf("both give up: %s", shownWorld(got))
	}
}

// Whatever the proxy's ends could do, no op makes them do it.
func TestTheProxysEndsAreBarredInEveryState(t *testing.T) {
	for _, w := range someWorlds() {
		nothing := impl.WorldDo(w, nowhere())
		for _, n := range []int{0, 1, topBuf, -1} {
			for i, kind := range saidByB {
				sameWorld(t, "the proxy on the left", impl.WorldDo(w, onLeft(impl.PairOp{Kind: kind, N: n, Data: "text"})), nothing)
				sameWorld(t, "the proxy on the right", impl.WorldDo(w, onRight(impl.PairOp{Kind: saidByA[i], N: n, Data: "text"})), nothing)
			}
		}
	}
}

// Before it has begun there is nobody on the right line, nor a way.
func TestNothingOnTheRightBeforeItHasBegun(t *testing.T) {
	for _, w := range []impl.World{
		freshWorld(t, 300, 50), aloneIn(3, impl.ConnHeard), aloneIn(3, impl.ConnGone), silentIn(3),
		altered(aloneIn(3, impl.ConnHeard), func(w *impl.World) { w.Right = pairIn(3, 3) }), altered(silentIn(3), func(w *impl.World) { w.Right = pairIn(1, 0) }),
	} {
		for _, o := range tellingOps() {
			if o.Kind == impl.PairTick {
				continue
			}
			sameWorld(t, fmt.Sprint("kind ", o.Kind), impl.WorldDo(w, onRight(o)), w)
			want := altered(w, func(w *impl.World) {
				if !slices.Contains(saidByB, o.Kind) {
					w.Left = impl.PairDo(w.Left, o)
				}
			})
			got := turns(t, w, onLeft(o))
			// Where that op is what opens the proxy's end, the other line begins behind it.
			if opens := want.Left.B.State >= impl.ConnOpen; got.Begun != opens {
				t.Errorf("kind %d: begun is %v: %s", o.Kind, got.Begun, shownWorld(got))
			} else if !opens {
				sameWorld(t, fmt.Sprint("kind ", o.Kind), got, want)
			}
		}
	}
}

// Time passes on both lines, whatever the side; on the right one once it has begun.
func TestTimeOnBothLines(t *testing.T) {
	sides := append([]int{impl.SideLeft, impl.SideRight}, noSides...)
	for _, n := range []int{0, 1, 73, 999, topStep} {
		for _, side := range sides {
			tick := impl.WorldOp{Side: side, Op: op(impl.PairTick, n)}
			w := openWorld(t, 300, 50)
			sameWorld(t, "begun", impl.WorldDo(w, tick), altered(w, func(w *impl.World) { w.Left.Now, w.Right.Now = n, n }))
			apart := altered(w, func(w *impl.World) { w.Left.Now, w.Right.Now = 40, 500 })
			sameWorld(t, "each at its own", impl.WorldDo(apart, tick), altered(w, func(w *impl.World) { w.Left.Now, w.Right.Now = 40+n, 500+n }))
			late := altered(w, func(w *impl.World) { w.Left.Now, w.Right.Now = topTick, 500 })
			if got := impl.WorldDo(late, tick); got.Left.Now != topTick || got.Right.Now != 500+n {
				t.Errorf("%d ticks, late on the left: %s", n, shownWorld(got))
			}
			late = altered(w, func(w *impl.World) { w.Left.Now, w.Right.Now = 40, topTick })
			if got := impl.WorldDo(late, tick); got.Left.Now != 40+n || got.Right.Now != topTick {
				t.Errorf("%d ticks, late on the right: %s", n, shownWorld(got))
			}
			before := altered(aloneIn(3, impl.ConnHeard), func(w *impl.World) { w.Right = pairIn(3, 3) })
			if got := impl.WorldDo(before, tick); got.Left.Now != nowTick+n || !equalPairs(got.Right, before.Right) || got.Begun {
				t.Errorf("%d ticks, not begun: %s", n, shownWorld(got))
			}
		}
	}
	for _, side := range sides {
		// What is due on each line goes out again.
		w := impl.WorldRun(openWorld(t, 300, 50), []impl.WorldOp{onLeft(writes(impl.PairWriteA, "asks")), onRight(writes(impl.PairWriteB, "answers")), onLeft(op(impl.PairDropB, 0)), onRight(op(impl.PairDropA, 0))})
		got := impl.WorldDo(w, impl.WorldOp{Side: side, Op: op(impl.PairTick, 2)})
		if !slices.Equal(got.Left.ToB, []impl.Seg{segOf(ack+push, 1001, 5001, 300, "asks")}) || !slices.Equal(got.Right.ToA, []impl.Seg{segOf(ack+push, 9001, 7001, 300, "answers")}) || got.Left.A.Tries != 1 || got.Right.B.Tries != 1 || len(got.Left.ToA)+len(got.Right.ToB) != 0 {
			t.Errorf("side %d, due: %s", side, shownWorld(got))
		}
		for _, n := range badSteps {
			sameWorld(t, fmt.Sprint(n, " ticks"), impl.WorldDo(w, impl.WorldOp{Side: side, Op: op(impl.PairTick, n)}), w)
		}
	}
}

// From asking on, by hand: the right line begins when the proxy knows that the client heard it, at the tick that it is then.
func TestWhenTheOtherLineBegins(t *testing.T) {
	w := freshWorld(t, 300, 50)
	w = turns(t, w, onLeft(writes(impl.PairWriteA, "early")))
	w = turns(t, w, onLeft(op(impl.PairTick, 3)))
	w = turns(t, w, onLeft(op(impl.PairGiveB, 0)))
	if w.Begun || !w.Left.Heard || w.Left.B.State != impl.ConnHeard {
		t.Fatalf("asked: %s", shownWorld(w))
	}
	w = turns(t, w, onLeft(op(impl.PairGiveA, 0)))
	w = turns(t, w, onLeft(op(impl.PairTick, 4)))
	if w.Begun || w.Left.A.State != impl.ConnOpen || !equalPairs(w.Right, impl.Pair{}) {
		t.Fatalf("answered: %s", shownWorld(w))
	}
	w = turns(t, w, onLeft(op(impl.PairGiveB, 0)))
	// What came with it is the relay's already, and the right end's, which may not send it yet.
	want := lineBy(7000, 9000, 300, 7)
	want.A.Out.Data = "early"
	if !w.Begun || w.Left.B.State != impl.ConnOpen || !equalPairs(w.Right, want) || w.Left.B.In.Ready != "" || w.Relay.Up != (impl.Pipe{Room: 50, Passed: 5}) {
		t.Fatalf("begun: %s", shownWorld(w))
	}
	for _, o := range []impl.PairOp{op(impl.PairGiveB, 0), op(impl.PairGiveA, 0), op(impl.PairGiveB, 0), op(impl.PairReadB, 9)} {
		w = turns(t, w, onRight(o))
	}
	if impl.WorldText(w) != "3 3 3 3 5 5 0 0 0" || w.Right.GotB != "early" {
		t.Errorf("through: %s", shownWorld(w))
	}
}

// Left.B in each of its states, heard and never heard.
func TestInWhichStatesTheOtherLineBegins(t *testing.T) {
	for _, client := range everyState {
		for _, state := range everyState {
			for _, side := range []int{impl.SideRight, -1, 2} {
				w := aloneIn(client, state)
				got := turns(t, w, impl.WorldOp{Side: side, Op: op(impl.PairGiveB, 0)})
				if begins := state >= impl.ConnOpen; got.Begun != begins || got.Right.Heard || begins != (got.Right.A.State == impl.ConnAsked) || !begins && !equalWorlds(got, w) {
					t.Errorf("states %d and %d: %s", client, state, shownWorld(got))
				}
			}
		}
		w := silentIn(client)
		sameWorld(t, "never heard", impl.WorldDo(w, nowhere()), w)
		// It is not the state alone: who was never heard may look gone for any reason.
		for _, why := range everyEnd {
			gone := altered(w, func(w *impl.World) { w.Left.B = goneFor(otherEnd(impl.ConnOpen), why) })
			sameWorld(t, "never heard, and gone", impl.WorldDo(gone, nowhere()), gone)
		}
	}
}

// The line that begins: its room, its tick, its places, its end and what is under way.
func TestTheLineThatBegins(t *testing.T) {
	for i, issR := range startWords {
		issS := startWords[(i+3)%len(startWords)]
		for _, room := range startRooms {
			for _, now := range startTicks {
				w := altered(aloneIn(3, 3), func(w *impl.World) {
					w.IssR, w.IssS, w.Left.Room, w.Left.Now, w.Left.B.In.Ready, w.Relay = issR, issS, room, now, "", impl.Relay{Up: impl.Pipe{Room: 5}, Down: impl.Pipe{Room: 5}}
				})
				for _, before := range []impl.Pair{{}, pairIn(4, 6), {Room: -5, Now: -1}} {
					w.Right = but(before)
					got := turns(t, w, nowhere())
					if !got.Begun || !equalPairs(got.Right, lineBy(issR, issS, room, now)) || got.IssR != issR || got.IssS != issS {
						t.Fatalf("room %d at %d: %s", room, now, shownWorld(got))
					}
				}
			}
		}
	}
}

// It begins once: what became of it is not asked for anew.
func TestTheOtherLineBeginsOnce(t *testing.T) {
	for _, left := range everyState {
		for _, right := range everyState {
			for _, base := range []impl.World{worldIn(3, left, right, 3), partedWorld(worldIn(3, left, right, 3))} {
				got := turns(t, base, nowhere())
				if !got.Begun || got.Right.A.Iss != base.Right.A.Iss || got.Right.Now != base.Right.Now || !got.Right.Heard || got.Right.WroteA != base.Right.WroteA {
					t.Errorf("states %d and %d: %s", left, right, shownWorld(got))
				}
			}
		}
	}
	w := openWorld(t, 300, 50)
	w = impl.WorldRun(w, []impl.WorldOp{onRight(op(impl.PairAbortB, 0)), onRight(op(impl.PairGiveA, 0)), onLeft(op(impl.PairTick, 9)), nowhere()})
	if !w.Begun || w.Right.A.End != impl.EndReset || w.Right.A.Iss != 7000 || onTheWay(w) != 1 {
		t.Errorf("given up: %s", shownWorld(w))
	}
	// A begun world in which the proxy was never heard has a relay all the same, which finds no end there.
	odd := altered(silentIn(3), func(w *impl.World) { w.Begun, w.Right = true, pairIn(3, 3) })
	got := turns(t, odd, nowhere())
	if got.Relay != odd.Relay || !equalConns(got.Left.B, impl.Conn{}) || !got.Begun {
		t.Errorf("never heard: %s", shownWorld(got))
	}
}

// A client that has nothing to say and closes early: the proxy is told all in one segment, and says so to the other line as soon as it begins.
func TestALineThatBeginsHalfClosed(t *testing.T) {
	w := impl.WorldRun(freshWorld(t, 300, 50), []impl.WorldOp{onLeft(op(impl.PairCloseA, 0)), onLeft(op(impl.PairGiveB, 0)), onLeft(op(impl.PairGiveA, 0))})
	if len(w.Left.ToB) != 1 || w.Left.ToB[0].Flags != fin+ack || w.Begun {
		t.Fatalf("closed early: %s", shownWorld(w))
	}
	w = turns(t, w, onLeft(op(impl.PairGiveB, 0)))
	if !w.Begun || w.Left.B.State != impl.ConnHalf || !w.Relay.Up.Ended || !w.Right.A.Fin || w.Right.A.State != impl.ConnAsked {
		t.Errorf("begun: %s", shownWorld(w))
	}
	w = impl.WorldCalm(w, 3)
	if impl.WorldText(w) != "5 6 5 6 0 0 0 0 0" {
		t.Errorf("told: %s", shownWorld(w))
	}
}

// Bytes from line to line, by hand: what the proxy confirms, and what it sends on at once.
func TestBytesFromLineToLine(t *testing.T) {
	w := openWorld(t, 300, 50)
	w = turns(t, w, onLeft(writes(impl.PairWriteA, "question")))
	w = turns(t, w, onLeft(op(impl.PairGiveB, 0)))
	if !slices.Equal(w.Left.ToA, []impl.Seg{segOf(ack, 5001, 1009, 292, "")}) || !slices.Equal(w.Right.ToB, []impl.Seg{segOf(ack+push, 7001, 9001, 300, "question")}) || w.Relay.Up.Passed != 8 || w.Left.B.In.Ready != "" {
		t.Fatalf("up: %s", shownWorld(w))
	}
	w = turns(t, w, onRight(op(impl.PairGiveB, 0)))
	w = turns(t, w, onRight(writes(impl.PairWriteB, "answer")))
	w = turns(t, w, onRight(op(impl.PairGiveA, 1)))
	if !slices.Equal(w.Left.ToA[1:], []impl.Seg{segOf(ack+push, 5001, 1009, 300, "answer")}) || !slices.Equal(w.Right.ToB, []impl.Seg{segOf(ack, 7009, 9007, 294, "")}) || w.Relay.Down.Passed != 6 || w.Right.A.In.Ready != "" {
		t.Fatalf("down: %s", shownWorld(w))
	}
	if w.Left.GotB+w.Left.WroteB+w.Right.GotA+w.Right.WroteA != "" || w.Left.WroteA != "question" || w.Right.WroteB != "answer" || w.Left.Now+w.Right.Now != 0 {
		t.Errorf("who wrote and read: %s", shownWorld(w))
	}

	// With little room, who was read from tells of it at once, behind its confirmation.
	w = impl.WorldDo(openWorld(t, 50, 20), onLeft(writes(impl.PairWriteA, "question")))
	w = turns(t, w, onLeft(op(impl.PairGiveB, 0)))
	if !slices.Equal(w.Left.ToA, []impl.Seg{segOf(ack, 5001, 1009, 42, ""), segOf(ack, 5001, 1009, 50, "")}) {
		t.Errorf("little room: %s", shownWorld(w))
	}

	// More than a pipe holds goes on turn by turn, also behind an op that does nothing else.
	w = impl.WorldDo(openWorld(t, 300, 3), onLeft(writes(impl.PairWriteA, "question")))
	w = turns(t, w, onLeft(op(impl.PairGiveB, 0)))
	for i, want := range []string{"que", "questi", "question", "question"} {
		sent := ""
		for _, s := range w.Right.ToB {
			sent += s.Data
		}
		if sent != want || w.Relay.Up.Passed != len(want) || w.Left.B.In.Ready != "question"[len(want):] {
			t.Errorf("turn %d: %s", i, shownWorld(w))
		}
		w = turns(t, w, []impl.WorldOp{nowhere(), onLeft(op(impl.PairAbortB, 0)), onRight(writes(impl.PairWriteA, "no")), onRight(op(-1, 0))}[i])
	}
}

// Where one of the proxy's ends is given up, the other's reset goes on its way at once: to the server, or to the client.
func TestTheWayOfWhoIsGivenUp(t *testing.T) {
	w := impl.WorldRun(openWorld(t, 300, 50), []impl.WorldOp{onLeft(op(impl.PairAbortA, 0)), onLeft(op(impl.PairGiveB, 0))})
	if w.Left.B.End != impl.EndReset || w.Right.A.End != impl.EndAborted || !slices.Equal(w.Right.ToB, []impl.Seg{segOf(rst+ack, 7001, 9001, 0, "")}) || onTheWay(w) != 1 {
		t.Errorf("the client gives up: %s", shownWorld(w))
	}
	w = impl.WorldRun(openWorld(t, 300, 50), []impl.WorldOp{onRight(op(impl.PairAbortB, 0)), onRight(op(impl.PairGiveA, 0))})
	if w.Right.A.End != impl.EndReset || w.Left.B.End != impl.EndAborted || !slices.Equal(w.Left.ToA, []impl.Seg{segOf(rst+ack, 5001, 1001, 0, "")}) || onTheWay(w) != 1 {
		t.Errorf("the server gives up: %s", shownWorld(w))
	}
	// The right line is refused, as soon as it is asked for.
	w = impl.WorldRun(freshWorld(t, 300, 50), []impl.WorldOp{onLeft(op(impl.PairGiveB, 0)), onLeft(op(impl.PairGiveA, 0)), onLeft(op(impl.PairGiveB, 0)), onRight(op(impl.PairDropB, 0))})
	w.Right.ToA = []impl.Seg{segOf(rst+ack, 0, 7001, 0, "")}
	w = turns(t, w, onRight(op(impl.PairGiveA, 0)))
	if w.Right.A.End != impl.EndRefused || w.Left.B.End != impl.EndAborted || !slices.Equal(w.Left.ToA, []impl.Seg{segOf(rst+ack, 5001, 1001, 0, "")}) {
		t.Errorf("refused: %s", shownWorld(w))
	}
	for _, why := range everyEnd[1:] {
		for _, state := range everyState[1:] {
			base := altered(worldIn(3, state, state, 3), func(w *impl.World) {
				w.Left.ToA, w.Left.ToB, w.Right.ToA, w.Right.ToB = nil, nil, nil, nil
			})
			left := altered(base, func(w *impl.World) { w.Left.B = goneFor(w.Left.B, why) })
			got := turns(t, left, nowhere())
			if got.Right.A.End != impl.EndAborted || got.Right.A.State != impl.ConnGone || !slices.Equal(got.Right.ToB, resetOf(base.Right.A)) || len(got.Left.ToA) != 0 || got.Relay != base.Relay {
				t.Errorf("the left line is given up: %s", shownWorld(got))
			}
			right := altered(base, func(w *impl.World) { w.Right.A = goneFor(w.Right.A, why) })
			got = turns(t, right, nowhere())
			if got.Left.B.End != impl.EndAborted || got.Left.B.State != impl.ConnGone || !slices.Equal(got.Left.ToA, resetOf(base.Left.B)) || len(got.Right.ToB) != 0 || got.Relay != base.Relay {
				t.Errorf("the right line is given up: %s", shownWorld(got))
			}
		}
	}
}

// What both ends of the proxy send behind the relay, each at its line's own tick.
func TestEachSendsAtItsOwnTick(t *testing.T) {
	w := altered(openWorld(t, 300, 50), func(w *impl.World) {
		w.Left.Now, w.Right.Now = 40, 500
		w.Relay.Up.Data, w.Relay.Down.Data = "up", "down"
	})
	got := turns(t, w, nowhere())
	if l := got.Left.B; !l.Timing || l.TimeAt != 40 || l.Again != 42 || !slices.Equal(got.Left.ToA, []impl.Seg{segOf(ack+push, 5001, 1001, 300, "down")}) {
		t.Errorf("on the left: %s", shownWorld(got))
	}
	if r := got.Right.A; !r.Timing || r.TimeAt != 500 || r.Again != 502 || !slices.Equal(got.Right.ToB, []impl.Seg{segOf(ack+push, 7001, 9001, 300, "up")}) {
		t.Errorf("on the right: %s", shownWorld(got))
	}
	if len(got.Left.ToB)+len(got.Right.ToA) != 0 || impl.RelayHeld(got.Relay) != 0 {
		t.Errorf("neither the client nor the server sends: %s", shownWorld(got))
	}
	// The client and the server send nothing behind the relay, even if they owe it.
	owing := altered(openWorld(t, 300, 50), func(w *impl.World) { w.Left.A.Owe, w.Left.B.Owe, w.Right.A.Owe, w.Right.B.Owe = true, true, true, true })
	got = turns(t, owing, nowhere())
	if len(got.Left.ToB)+len(got.Right.ToA) != 0 || len(got.Left.ToA) != 1 || len(got.Right.ToB) != 1 || !got.Left.A.Owe || !got.Right.B.Owe || got.Left.B.Owe || got.Right.A.Owe {
		t.Errorf("who owes: %s", shownWorld(got))
	}
	// Before it has begun, nobody does.
	alone := altered(aloneIn(3, impl.ConnHeard), func(w *impl.World) { w.Left.A.Owe, w.Left.B.Owe = true, true })
	sameWorld(t, "not begun", impl.WorldDo(alone, nowhere()), alone)
}

// On a full way what the proxy sends is lost, and it knows nothing of it.
func TestTheProxyOnAFullWay(t *testing.T) {
	for many := topWay - 4; many <= topWay; many++ {
		w := altered(openWorld(t, 500, 400), func(w *impl.World) {
			w.Left.ToA, w.Right.ToB = numbered(many), numbered(many)
			w.Left.B.Cong.Wnd, w.Right.A.Cong.Wnd = topWnd, topWnd
			w.Relay.Up.Data, w.Relay.Down.Data = bytesFrom(1, 350), bytesFrom(2, 350)
		})
		got := turns(t, w, nowhere())
		for i, way := range [][]impl.Seg{got.Right.ToB, got.Left.ToA} {
			text := bytesFrom(1+i, 350)
			sent := []string{}
			for _, s := range way[many:] {
				sent = append(sent, s.Data)
			}
			if !slices.Equal(sent, []string{text[:100], text[100:200], text[200:300], text[300:]}[:topWay-many]) || !slices.Equal(way[:many], numbered(many)) {
				t.Errorf("%d under way: %s", many, shownWorld(got))
			}
		}
		if l, r := got.Left.B, got.Right.A; l.Nxt != l.Una+350 || r.Nxt != r.Una+350 || len(got.Left.ToB)+len(got.Right.ToA) != 0 {
			t.Errorf("%d under way: %s", many, shownWorld(got))
		}
	}
	for many := topWay - 1; many <= topWay; many++ {
		w := altered(openWorld(t, 300, 50), func(w *impl.World) {
			w.Left.ToA, w.Right.ToB, w.Left.B = numbered(many), numbered(many), goneFor(w.Left.B, impl.EndTired)
		})
		if got := turns(t, w, nowhere()); got.Right.A.End != impl.EndAborted || len(got.Right.ToB) != topWay || (got.Right.ToB[topWay-1].Flags == rst+ack) != (many < topWay) || len(got.Left.ToA) != many {
			t.Errorf("a reset behind %d: %s", many, shownWorld(got))
		}
		w = altered(openWorld(t, 300, 50), func(w *impl.World) {
			w.Left.ToA, w.Right.ToB, w.Right.A = numbered(many), numbered(many), goneFor(w.Right.A, impl.EndTired)
		})
		if got := turns(t, w, nowhere()); got.Left.B.End != impl.EndAborted || len(got.Left.ToA) != topWay || (got.Left.ToA[topWay-1].Flags == rst+ack) != (many < topWay) || len(got.Right.ToB) != many {
			t.Errorf("a reset behind %d: %s", many, shownWorld(got))
		}
	}
	// What PairDo itself sends stands ahead of what goes out behind the relay.
	w := altered(openWorld(t, 50, 20), func(w *impl.World) { w.Left.ToA = numbered(topWay - 1) })
	w = impl.WorldRun(w, []impl.WorldOp{onLeft(writes(impl.PairWriteA, "question")), onLeft(op(impl.PairGiveB, 0))})
	if !slices.Equal(w.Left.ToA[topWay-1:], []impl.Seg{segOf(ack, 5001, 1009, 42, "")}) {
		t.Errorf("the last place: %s", shownWorld(w))
	}
}

// Where an op does nothing, both points are done all the same.
func TestOpsThatDoNothing(t *testing.T) {
	nothing := []impl.WorldOp{}
	for _, side := range noSides {
		for _, kind := range append(slices.Clone(pairKinds), noPairKinds...) {
			if kind != impl.PairTick {
				nothing = append(nothing, impl.WorldOp{Side: side, Op: impl.PairOp{Kind: kind, N: 1, Data: "text"}})
			}
		}
	}
	for i := range saidByA {
		nothing = append(nothing, onLeft(impl.PairOp{Kind: saidByB[i], N: 9, Data: "text"}), onRight(impl.PairOp{Kind: saidByA[i], N: 9, Data: "text"}))
	}
	waiting := altered(openWorld(t, 300, 50), func(w *impl.World) {
		w.Left.B.In.Ready, w.Right.A.In.Ready = "up", "down"
		w.Left.A.Owe, w.Right.B.Owe = true, true
	})
	for _, o := range nothing {
		got := turns(t, waiting, o)
		if !slices.Equal(got.Right.ToB, []impl.Seg{segOf(ack+push, 7001, 9001, 300, "up")}) || !slices.Equal(got.Left.ToA, []impl.Seg{segOf(ack+push, 5001, 1001, 300, "down")}) {
			t.Errorf("%s: no relay: %s", shownWorldOp(o), shownWorld(got))
		}
		// It is not that a line's op is done, which would let the client and the server send too.
		if len(got.Left.ToB)+len(got.Right.ToA) != 0 {
			t.Errorf("%s: more than both points: %s", shownWorldOp(o), shownWorld(got))
		}
		if begun := turns(t, aloneIn(3, 3), o); !begun.Begun || begun.Right.A.Out.Data != "up from the left lin" {
			t.Errorf("%s: nothing begins: %s", shownWorldOp(o), shownWorld(begun))
		}
	}
	// An op that the line itself does nothing for lets its ends send.
	for _, kind := range noPairKinds {
		l, r := turns(t, waiting, onLeft(op(kind, 0))), turns(t, waiting, onRight(op(kind, 0)))
		if len(l.Left.ToB) != 1 || len(l.Right.ToA) != 0 || len(r.Left.ToB) != 0 || len(r.Right.ToA) != 1 || len(l.Left.ToA) != 1 || len(r.Right.ToB) != 1 {
			t.Errorf("kind %d: %s and %s", kind, shownWorld(l), shownWorld(r))
		}
	}
	for _, o := range []impl.PairOp{op(impl.PairGiveA, 0), op(impl.PairDropB, 0), op(impl.PairTwiceA, 0), op(impl.PairReadA, -1), writes(impl.PairWriteA, bytesFrom(1, topTotal+1))} {
		if l := turns(t, waiting, onLeft(o)); len(l.Left.ToB) != 1 || len(l.Left.ToA) != 1 || len(l.Right.ToB) != 1 || len(l.Right.ToA) != 0 {
			t.Errorf("kind %d: %s", o.Kind, shownWorld(l))
		}
	}
}

// worldOps are so many ops of all kinds, on both sides and on none, at numbers near and far.
func worldOps(seed, many int) []impl.WorldOp {
	words := spread(seed*17 + many)[seed*17:]
	out := []impl.WorldOp{}
	for i, o := range pairOps(seed, many) {
		side := int(words[i]>>8) % 2
		if words[i]%32 == 0 {
			side = int(words[i]>>8)%5 - 2
		}
		out = append(out, impl.WorldOp{Side: side, Op: o})
	}
	return out
}

func TestWorldRunIsWorldDoOfEach(t *testing.T) {
	for seed := range 12 {
		start, _ := impl.WorldStart([4]uint32{uint32(seed) * 400000000, uint32(round - 1 - seed), 7, uint32(round - 500)}, 100*seed+1, 30*seed+1)
		for _, w := range []impl.World{start, openWorld(t, 300, 50), worldIn(3, seed%10, 9-seed%10, 3), aloneIn(3, seed%10), altered(openWorld(t, 300, 50), func(w *impl.World) { w.Right.Now = -1 })} {
			for _, many := range []int{0, 1, 2, 120} {
				ops := worldOps(seed, many)
				was, want := slices.Clone(ops), altered(w)
				for _, o := range ops {
					want = worldBy(want, o)
				}
				arg := altered(w)
				sameWorld(t, fmt.Sprint(many, " ops"), impl.WorldRun(arg, ops), want)
				sameWorld(t, "written into", arg, w)
				if !slices.Equal(ops, was) {
					t.Fatal("WorldRun writes into its ops")
				}
				for _, cut := range []int{0, many / 3, many} {
					sameWorld(t, "in two parts", impl.WorldRun(impl.WorldRun(w, ops[:cut]), ops[cut:]), want)
				}
			}
		}
	}
}

func TestWorldRunAtItsLimit(t *testing.T) {
	w := openWorld(t, 300, 50)
	for _, many := range []int{0, 1, topPairOps - 1, topPairOps, topPairOps + 1, topPairOps + 2, 3 * topPairOps} {
		ops := []impl.WorldOp{}
		for range many {
			ops = append(ops, impl.WorldOp{Side: len(ops) % 3, Op: op(impl.PairTick, 3)})
		}
		got := impl.WorldRun(w, ops)
		if many > topPairOps {
			sameWorld(t, fmt.Sprint(many, " ops"), got, w)
		} else if got.Left.Now != 3*many || got.Right.Now != 3*many {
			t.Errorf("%d ops: %d and %d", many, got.Left.Now, got.Right.Now)
		}
	}
	// Where there is no op, neither point is done.
	ready := altered(w, func(w *impl.World) { w.Left.B.In.Ready = "up" })
	sameWorld(t, "no ops", impl.WorldRun(ready, nil), ready)
	sameWorld(t, "no ops", impl.WorldRun(ready, []impl.WorldOp{}), ready)
	alone := aloneIn(3, 3)
	sameWorld(t, "no ops, nothing begins", impl.WorldRun(alone, nil), alone)
}

func TestWorldCalmIsItsSteps(t *testing.T) {
	for seed := range 12 {
		start, _ := impl.WorldStart([4]uint32{uint32(seed) * 400000000, uint32(round - 1 - seed), 7, uint32(round - 500)}, 100*seed+1, 30*seed+1)
		ran := impl.WorldRun(start, worldOps(seed, 100))
		busy := impl.WorldRun(openWorld(t, 300, 50), worldOps(seed+20, 100))
		for _, w := range []impl.World{start, ran, busy, worldIn(3, seed%10, 9-seed%10, 3), aloneIn(3, seed%10), silentIn(seed % 10)} {
			want := altered(w)
			for ticks := range 8 {
				arg := altered(w)
				sameWorld(t, fmt.Sprint(ticks, " ticks"), impl.WorldCalm(arg, ticks), want)
				sameWorld(t, "written into", arg, w)
				want = calmWorldBy(want)
			}
		}
	}
}

func TestWorldCalmAtItsLimits(t *testing.T) {
	w := impl.WorldRun(openWorld(t, 300, 50), []impl.WorldOp{onLeft(writes(impl.PairWriteA, "question")), onRight(writes(impl.PairWriteB, "answer"))})
	for _, ticks := range []int{0, 1, 2, topWorldCalm - 1, topWorldCalm} {
		got := impl.WorldCalm(w, ticks)
		if got.Left.Now != ticks || got.Right.Now != ticks || ticks > 0 && (got.Right.GotB != "question" || got.Left.GotA != "answer" || onTheWay(got) != 0) {
			t.Errorf("%d ticks: %s", ticks, shownWorld(got))
		}
	}
	sameWorld(t, "no ticks", impl.WorldCalm(w, 0), w)
	sameWorld(t, "no ticks, nothing begins", impl.WorldCalm(aloneIn(3, 3), 0), aloneIn(3, 3))
	for _, ticks := range badWorldCalms {
		sameWorld(t, fmt.Sprint(ticks, " ticks"), impl.WorldCalm(w, ticks), w)
	}
	late := altered(w, func(w *impl.World) { w.Left.Now, w.Right.Now = topTick-2, topTick-2 })
	if got := impl.WorldCalm(late, 5); got.Left.Now != topTick || got.Right.Now != topTick || got.Right.GotB != "question" || got.Left.GotA != "answer" {
		t.Errorf("up to the last tick: %s", shownWorld(got))
	}
	// Who is never answered gives up in the calm too.
	tired := altered(freshWorld(t, 300, 50), func(w *impl.World) { w.Left.A.Tries, w.Left.ToB = topTries, nil })
	if got := impl.WorldCalm(tired, 9); got.Left.A.State != impl.ConnAsked {
		t.Errorf("too early: %s", shownWorld(got))
	}
	if got := impl.WorldCalm(tired, 10); got.Left.A.End != impl.EndTired || got.Begun || got.Left.Now != 10 || got.Right.Now != 0 {
		t.Errorf("tired: %s", shownWorld(got))
	}
}

// tricklingWorld has a client that is told of no more than one byte of room, however much there is: each byte takes two gives on the left line.
func tricklingWorld(t *testing.T, many int) impl.World {
	t.Helper()
	w := altered(openWorld(t, topBuf, topPipe), func(w *impl.World) {
		w.Left.A.Wnd, w.Left.A.WndSeq, w.Left.A.Out.Data, w.Left.WroteA = 1, w.Left.A.WndSeq+1000, bytesFrom(7, many), bytesFrom(7, many)
	})
	w = impl.WorldDo(w, onLeft(op(-1, 0)))
	if onTheWay(w) != 1 || len(w.Left.ToB[0].Data) != 1 {
		t.Fatalf("trickling: %s", shownWorld(w))
	}
	return w
}

// Within one tick at most 800 come, on both lines together, and the left one's come first.
func TestWorldCalmGivesSoManyInATick(t *testing.T) {
	for _, many := range []int{396, 397, 398, 399, 400, 401, 402, 1000} {
		got := impl.WorldCalm(tricklingWorld(t, many), 1)
		want := min(2*max(400-many, 0), many)
		if got.Relay.Up.Passed != min(many, 400) || got.Right.GotB != bytesFrom(7, many)[:want] || got.Left.Now != 1 || len(got.Left.ToB) != min(1, max(many-400, 0)) {
			t.Errorf("%d bytes: %d passed, %d were read: %s", many, got.Relay.Up.Passed, len(got.Right.GotB), shownWorld(got))
		}
		// One more on its way, and there is one less for the right line.
		one := altered(tricklingWorld(t, many), func(w *impl.World) { w.Left.ToA = numbered(1) })
		got = impl.WorldCalm(one, 1)
		if want = max(want-1, 0); len(got.Right.GotB) != want || got.Relay.Up.Passed != min(many, 400) {
			t.Errorf("%d bytes and one: %d passed, %d were read", many, got.Relay.Up.Passed, len(got.Right.GotB))
		}
	}
	two := impl.WorldCalm(tricklingWorld(t, 1000), 2)
	if two.Relay.Up.Passed != 800 || two.Right.GotB != "" {
		t.Errorf("two ticks: %s", shownWorld(two))
	}
}

// The order in which segments come: as long as there is one on an earlier way, none comes on a later one.
func TestInWhichOrderSegmentsCome(t *testing.T) {
	asks := impl.WorldDo(openWorld(t, 300, 50), onLeft(writes(impl.PairWriteA, "question")))
	answers := impl.WorldDo(openWorld(t, 300, 50), onRight(writes(impl.PairWriteB, "answer")))

	// To the proxy ahead of to the client: its confirmation is lost on the full way there.
	full := altered(asks, func(w *impl.World) { w.Left.ToA = numbered(topWay) })
	if got := impl.WorldCalm(full, 1); got.Right.GotB != "question" || got.Left.A.Una != 1001 || onTheWay(got) != 0 {
		t.Errorf("to the proxy first: %s", shownWorld(got))
	}
	// To the proxy ahead of to the server: what the proxy sends on is lost on the full way there.
	full = altered(asks, func(w *impl.World) { w.Right.ToB = numbered(topWay) })
	if got := impl.WorldCalm(full, 1); got.Right.GotB != "" || got.Right.A.Una != 7001 || got.Relay.Up.Passed != 8 || got.Left.A.Una != 1009 || onTheWay(got) != 0 {
		t.Errorf("the left line first: %s", shownWorld(got))
	}
	// To the client ahead of from the server: the way is empty when the answer comes on it.
	full = altered(answers, func(w *impl.World) { w.Left.ToA = numbered(topWay) })
	if got := impl.WorldCalm(full, 1); got.Left.GotA != "answer" || onTheWay(got) != 0 {
		t.Errorf("to the client first: %s", shownWorld(got))
	}
	// To the server ahead of from the server: its confirmation is lost on the full way back.
	full = altered(impl.WorldDo(asks, onLeft(op(impl.PairGiveB, 0))), func(w *impl.World) { w.Left.ToA, w.Right.ToA = nil, numbered(topWay) })
	if got := impl.WorldCalm(full, 1); got.Right.GotB != "question" || got.Right.A.Una != 7001 || onTheWay(got) != 0 {
		t.Errorf("to the server first: %s", shownWorld(got))
	}
	// Behind each one that comes it is the first way again: the answer of the proxy to the server comes behind what came to the client.
	both := impl.WorldRun(openWorld(t, 300, 50), []impl.WorldOp{onRight(writes(impl.PairWriteB, "one")), onRight(writes(impl.PairWriteB, "two"))})
	both.Left.ToA = numbered(topWay - 1)
	if got := impl.WorldCalm(both, 1); got.Left.GotA != "onetwo" || onTheWay(got) != 0 {
		t.Errorf("once more from the first way on: %s", shownWorld(got))
	}
	// The oldest of a way comes first.
	older := altered(asks, func(w *impl.World) { w.Left.ToB = slices.Insert(w.Left.ToB, 0, segOf(rst, 1001, 0, 0, "")) })
	if got := impl.WorldCalm(older, 1); got.Left.B.End != impl.EndReset || got.Right.B.End != impl.EndReset || got.Right.GotB != "" {
		t.Errorf("the oldest first: %s", shownWorld(got))
	}
}

// Who reads, when, and how much.
func TestWhoReadsInTheCalm(t *testing.T) {
	w := altered(openWorld(t, topBuf, 1), func(w *impl.World) {
		w.Left.A.In.Ready, w.Right.B.In.Ready = bytesFrom(1, topBuf), bytesFrom(2, topBuf)
	})
	got := impl.WorldCalm(w, 1)
	if got.Left.GotA != bytesFrom(1, topBuf) || got.Right.GotB != bytesFrom(2, topBuf) || got.Left.GotB+got.Right.GotA != "" {
		t.Errorf("all of it: %s", shownWorld(got))
	}
	// They tell of their room ahead of the tick; it comes in the next one.
	if !slices.Equal(got.Left.ToB, []impl.Seg{segOf(ack, 1001, 5001, topBuf, "")}) || !slices.Equal(got.Right.ToA, []impl.Seg{segOf(ack, 9001, 7001, topBuf, "")}) {
		t.Errorf("told: %s", shownWorld(got))
	}
	// They read behind what comes in the same tick.
	w = impl.WorldRun(openWorld(t, 300, 50), []impl.WorldOp{onLeft(writes(impl.PairWriteA, "question")), onRight(writes(impl.PairWriteB, "answer"))})
	if got = impl.WorldCalm(w, 1); got.Right.GotB != "question" || got.Left.GotA != "answer" || got.Right.B.In.Ready+got.Left.A.In.Ready != "" {
		t.Errorf("what came: %s", shownWorld(got))
	}
	// Behind what they read the relay moves: three times in a tick, and once more for each segment.
	w = altered(openWorld(t, 300, 2), func(w *impl.World) { w.Left.B.In.Ready = "question" })
	if got = impl.WorldCalm(w, 1); got.Relay.Up.Passed != 6 || got.Left.B.In.Ready != "on" {
		t.Errorf("three turns: %s", shownWorld(got))
	}
	// Before the right line has begun, the client alone reads.
	alone := altered(aloneIn(3, impl.ConnGone), func(w *impl.World) {
		w.Left.A.In.Ready, w.Left.ToA, w.Left.ToB, w.Right = "for the client", nil, nil, pairIn(3, 3)
		w.Right.B.In.Ready, w.Right.ToA, w.Right.ToB = "for the server", nil, nil
	})
	if got = impl.WorldCalm(alone, 1); got.Left.GotA != "A got itfor the client" || !equalPairs(got.Right, alone.Right) || got.Left.Now != nowTick+1 || got.Begun {
		t.Errorf("not begun: %s", shownWorld(got))
	}
	// What is under way on a line that has not begun stays there, and keeps nobody from the rest of the tick.
	stuck := altered(alone, func(w *impl.World) { w.Right.ToA, w.Right.ToB = numbered(3), numbered(5) })
	if got = impl.WorldCalm(stuck, 2); got.Left.GotA != "A got itfor the client" || !equalPairs(got.Right, stuck.Right) || got.Left.Now != nowTick+2 {
		t.Errorf("stuck: %s", shownWorld(got))
	}
	sameWorld(t, "stuck", impl.WorldCalm(stuck, 2), calmWorldBy(calmWorldBy(stuck)))
	begins := altered(aloneIn(3, 3), func(w *impl.World) { w.Left.ToA, w.Left.ToB, w.Right = nil, nil, stuck.Right })
	sameWorld(t, "begins in the calm", impl.WorldCalm(begins, 2), calmWorldBy(calmWorldBy(begins)))
}

// WorldText, each number by itself, whatever else there is.
func TestWorldTextByHand(t *testing.T) {
	numbers := []func(*impl.World, int){
		func(w *impl.World, n int) { w.Left.A.State = n }, func(w *impl.World, n int) { w.Left.B.State = n },
		func(w *impl.World, n int) { w.Right.A.State = n }, func(w *impl.World, n int) { w.Right.B.State = n },
		func(w *impl.World, n int) { w.Left.WroteA = bytesFrom(1, n) }, func(w *impl.World, n int) { w.Right.GotB = bytesFrom(2, n) },
		func(w *impl.World, n int) { w.Right.WroteB = bytesFrom(3, n) }, func(w *impl.World, n int) { w.Left.GotA = bytesFrom(4, n) },
		func(w *impl.World, n int) { w.Relay.Up = impl.Pipe{Room: topPipe, Data: bytesFrom(5, n)} },
	}
	check := func(w impl.World, want ...int) {
		t.Helper()
		words := []string{}
		for _, n := range want {
			words = append(words, fmt.Sprint(n))
		}
		if got := impl.WorldText(w); got != strings.Join(words, " ") {
			t.Errorf("WorldText is %q, not %v, of %s", got, want, shownWorld(w))
		}
	}
	for _, begun := range []bool{false, true} {
		zero := impl.World{Begun: begun}
		check(zero, 0, 0, 0, 0, 0, 0, 0, 0, 0)
		for k, set := range numbers {
			list := []int{1, 2, 9, 10, 100, 2048}
			if k < 4 {
				list = append(list, -1, -10, topTick, math.MinInt, math.MaxInt)
			} else if k < 8 {
				list = append(list, topTotal, topTotal+1, 70000)
			}
			for _, n := range list {
				want := make([]int, 9)
				want[k] = n
				check(altered(zero, func(w *impl.World) { set(w, n) }), want...)
			}
		}
		all := altered(zero, func(w *impl.World) {
			for k, set := range numbers {
				set(w, 11*(k+1))
			}
		})
		check(all, 11, 22, 33, 44, 55, 66, 77, 88, 99)
		// What the proxy would have written and read tells nothing, nor does what is under way.
		check(altered(all, func(w *impl.World) {
			w.Left.WroteB, w.Left.GotB, w.Right.WroteA, w.Right.GotA = "a", "bb", "ccc", "dddd"
			w.Left.ToA, w.Right.ToB, w.Left.B.In.Ready, w.Right.A.Out.Data = numbered(3), numbered(70), "ready", "out"
			w.Left.Now, w.Right.Now, w.IssR, w.IssS = 5, -6, 7, 8
		}), 11, 22, 33, 44, 55, 66, 77, 88, 99)
		// Of the pipes those that are right count, both together.
		check(altered(all, func(w *impl.World) { w.Relay.Down = impl.Pipe{Room: 9, Data: "down"} }), 11, 22, 33, 44, 55, 66, 77, 88, 103)
		for _, bad := range badPipes() {
			check(altered(all, func(w *impl.World) { w.Relay.Down = bad }), 11, 22, 33, 44, 55, 66, 77, 88, 99)
			check(altered(all, func(w *impl.World) { w.Relay.Down, w.Relay.Up = w.Relay.Up, bad }), 11, 22, 33, 44, 55, 66, 77, 88, 99)
			check(altered(all, func(w *impl.World) { w.Relay.Down, w.Relay.Up = bad, bad }), 11, 22, 33, 44, 55, 66, 77, 88, 0)
		}
	}
	check(freshWorld(t, 300, 50), 1, 0, 0, 0, 0, 0, 0, 0, 0)
	check(openWorld(t, 300, 50), 3, 3, 3, 3, 0, 0, 0, 0, 0)
	check(worldIn(4, 6, 8, 2), 4, 6, 8, 2, 7, 10, 13, 8, 8)
	check(aloneIn(9, 5), 9, 5, 0, 0, 7, 0, 0, 8, 8)
}

// roomyWorld is a world in memory of its own, with spare room behind each list; ways and waiting are its lists with the room.
func roomyWorld(w impl.World) (impl.World, [][]impl.Seg, [][]impl.Part) {
	left, right := [][]impl.Part{}, [][]impl.Part{}
	ways, more := [][]impl.Seg{}, [][]impl.Seg{}
	w.Left, ways, left = roomyPair(w.Left)
	w.Right, more, right = roomyPair(w.Right)
	w.Relay.Up.Data, w.Relay.Down.Data = heap(w.Relay.Up.Data), heap(w.Relay.Down.Data)
	return w, append(ways, more...), append(left, right...)
}

func textsOfWorld(w impl.World) []string {
	return append(append(textsOfPair(w.Left), textsOfPair(w.Right)...), w.Relay.Up.Data, w.Relay.Down.Data)
}

// ownLists writes all over the lists of a world, and over the room behind them, and asks that none of them was another.
func ownLists(t *testing.T, what string, w impl.World) {
	t.Helper()
	ways := [][]impl.Seg{w.Left.ToA, w.Left.ToB, w.Right.ToA, w.Right.ToB}
	waiting := [][]impl.Part{w.Left.A.In.Parts, w.Left.B.In.Parts, w.Right.A.In.Parts, w.Right.B.In.Parts}
	for k := range 4 {
		for i := range ways[k][:cap(ways[k])] {
			ways[k][:cap(ways[k])][i] = impl.Seg{From: k + 1}
		}
		for i := range waiting[k][:cap(waiting[k])] {
			waiting[k][:cap(waiting[k])][i] = impl.Part{Seq: uint32(k + 1)}
		}
	}
	for k := range 4 {
		for _, s := range ways[k][:cap(ways[k])] {
			if s.From != k+1 {
				t.Fatalf("%s: two ways are one", what)
			}
		}
		for _, p := range waiting[k][:cap(waiting[k])] {
			if p.Seq != uint32(k+1) {
				t.Fatalf("%s: two ends have one list", what)
			}
		}
	}
}

func TestWorldsAreNewMemory(t *testing.T) {
	listed := func(w *impl.World) {
		for _, c := range []*impl.Conn{&w.Left.A, &w.Left.B, &w.Right.A, &w.Right.B} {
			if c.In.Room == ownRoom {
				c.In.Parts = []impl.Part{part(c.In.Next+40, "ahead"), part(c.In.Next+60, "farther on")}
			}
		}
	}
	list := []impl.World{{}, freshWorld(t, 300, 50), openWorld(t, 300, 50), impl.WorldRun(openWorld(t, 300, 5), worldOps(3, 60))}
	for k := range 10 {
		w := worldIn(3, k, 9-k, 3)
		list = append(list, altered(w, listed), altered(partedWorld(w), listed), altered(aloneIn(3, k), listed), silentIn(k))
		list = append(list, altered(w, listed, func(w *impl.World) { w.Relay.Up.Room = 1 }), altered(w, func(w *impl.World) { w.Right.ToA = numbered(topWay + 1) }), altered(w, func(w *impl.World) { w.Begun = false }))
	}
	for _, plain := range list {
		arg, ways, waiting := roomyWorld(plain)
		wasWays, wasWaiting := [][]impl.Seg{}, [][]impl.Part{}
		for k := range 4 {
			wasWays, wasWaiting = append(wasWays, slices.Clone(ways[k])), append(wasWaiting, slices.Clone(waiting[k]))
		}
		text := heap("some text to write")
		answers := map[string]impl.World{}
		for _, kind := range append(slices.Clone(pairKinds), -1) {
			for _, side := range []int{impl.SideLeft, impl.SideRight, 2} {
				answers[fmt.Sprintf("WorldDo of kind %d on side %d", kind, side)] = impl.WorldDo(arg, impl.WorldOp{Side: side, Op: impl.PairOp{Kind: kind, N: 1, Data: text}})
			}
		}
		answers["WorldRun"] = impl.WorldRun(arg, []impl.WorldOp{onLeft(writes(0, text)), onRight(writes(1, text)), onLeft(op(7, 1)), onRight(op(8, 1)), onLeft(op(11, 0)), onLeft(op(2, 5)), onRight(op(3, 5))})
		answers["WorldRun of nothing"] = impl.WorldRun(arg, nil)
		answers["WorldRun of too many"] = impl.WorldRun(arg, make([]impl.WorldOp, topPairOps+1))
		answers["WorldCalm"] = impl.WorldCalm(arg, 2)
		answers["WorldCalm of no ticks"] = impl.WorldCalm(arg, 0)
		answers["WorldCalm of wrong ticks"] = impl.WorldCalm(arg, -1)
		impl.WorldText(arg)
		others := append(textsOfWorld(arg), text)
		for what, got := range answers {
			ownTexts(t, what, textsOfWorld(got), others)
			ownLists(t, what, got)
		}
		if !reflect.DeepEqual(ways, wasWays) || !reflect.DeepEqual(waiting, wasWaiting) || !equalWorlds(arg, plain) || text != "some text to write" {
			t.Fatalf("something writes into its argument, or shares its list: %s", shownWorld(plain))
		}
	}
	one, _ := impl.WorldStart([4]uint32{1, 2, 3, 4}, 300, 50)
	two, _ := impl.WorldStart([4]uint32{1, 2, 3, 4}, 300, 50)
	ownLists(t, "WorldStart", one)
	sameWorld(t, "another WorldStart", two, altered(impl.World{Left: lineBy(1, 2, 300, 0), IssR: 3, IssS: 4, Relay: impl.Relay{Up: impl.Pipe{Room: 50}, Down: impl.Pipe{Room: 50}}}))
}

// Both lines may be one and the same value; neither shares anything with the other then.
func TestOnePairAsBothLines(t *testing.T) {
	pair, _, _ := roomyPair(but(pairIn(3, 3), func(p *impl.Pair) {
		p.A.In.Parts, p.B.In.Parts = []impl.Part{part(p.A.In.Next+40, "ahead")}, []impl.Part{part(p.B.In.Next+40, "ahead")}
	}))
	held := impl.Pipe{Room: 9, Data: heap("held")}
	w := impl.World{Left: pair, Right: pair, Begun: true, Relay: impl.Relay{Up: held, Down: held}}
	for _, o := range someWorldOps() {
		got := impl.WorldDo(w, o)
		ownTexts(t, "WorldDo", textsOfWorld(got), append(textsOfPair(pair), held.Data))
		sameWorld(t, "one pair as both", got, worldBy(w, o))
		ownLists(t, "WorldDo", got)
	}
}

// Nothing is kept between calls, and calls at the same time do not meet.
func TestWorldsKeepNothing(t *testing.T) {
	type told struct {
		ran, calm impl.World
		text      string
	}
	w := worldIn(3, 3, 3, 3)
	ops := worldOps(5, 60)
	tell := func() told {
		ran := impl.WorldRun(w, ops)
		return told{ran, impl.WorldCalm(ran, 3), impl.WorldText(ran)}
	}
	first := tell()
	answers := make([]told, 16)
	var all sync.WaitGroup
	for i := range answers {
		all.Add(1)
		go func() {
			defer all.Done()
			impl.WorldText(impl.WorldRun(worldIn(i%10, 9-i%10, 3, 4), worldOps(i, 30)))
			answers[i] = tell()
		}()
	}
	all.Wait()
	for _, got := range answers {
		sameWorld(t, "once more", got.ran, first.ran)
		sameWorld(t, "calm once more", got.calm, first.calm)
		if got.text != first.text {
			t.Errorf("told %q, not %q", got.text, first.text)
		}
	}
	for range 200 {
		if got := impl.WorldText(first.ran); got != first.text {
			t.Fatalf("told %q, not %q", got, first.text)
		}
	}
}

func hasGivenUp(c impl.Conn) bool { return c.State == impl.ConnGone && c.End != impl.EndNone }

// keepsWorldPromise asks for what P14 says of every step, from one world to the next, with this room and pipes of that one.
func keepsWorldPromise(t *testing.T, was, w impl.World, o impl.WorldOp, room, pipe int) {
	t.Helper()
	fails := func(what string) {
		t.Helper()
		t.Fatalf("%s: %s, of %s\n to %s", what, shownWorldOp(o), shownWorld(was), shownWorld(w))
	}
	if !isBeginning(w.Right.GotB, w.Left.WroteA) || !isBeginning(w.Left.GotA, w.Right.WroteB) {
		fails("what is read is not what was written")
	}
	if !isBeginning(w.Right.GotB+w.Right.B.In.Ready, w.Left.WroteA) || !isBeginning(w.Left.GotA+w.Left.A.In.Ready, w.Right.WroteB) {
		fails("what may be read is not what was written")
	}
	up, down := w.Relay.Up, w.Relay.Down
	// What the client keeps no more lies at the proxy, or went on; so it is with the server's.
	if len(w.Left.WroteA)-len(w.Left.A.Out.Data) > up.Passed+len(up.Data)+len(w.Left.B.In.Ready) || len(w.Right.WroteB)-len(w.Right.B.Out.Data) > down.Passed+len(down.Data)+len(w.Right.A.In.Ready) {
		fails("what was forgotten has not come")
	}
	if up.Passed > len(w.Left.WroteA) || down.Passed > len(w.Right.WroteB) || up.Passed < was.Relay.Up.Passed || down.Passed < was.Relay.Down.Passed {
		fails("what has passed")
	}
	if !soundWorldBy(w) || up.Room != pipe || down.Room != pipe || impl.RelayHeld(w.Relay) != len(up.Data)+len(down.Data) {
		fails("not right")
	}
	for i, c := range []impl.Conn{w.Left.A, w.Left.B, w.Right.A, w.Right.B} {
		there := []bool{true, w.Left.Heard, w.Begun, w.Right.Heard}[i]
		if there && (c.In.Room != room || c.Out.Room != room || len(c.In.Ready)+impl.InHeld(c.In) > room || len(c.Out.Data) > room) {
			fails(fmt.Sprint("more is held than may be, at end ", i))
		}
	}
	if w.Left.GotB+w.Left.WroteB+w.Right.GotA+w.Right.WroteA != "" {
		fails("the proxy's ends write and read nothing of their own")
	}
	if was.Begun && !w.Begun || w.Begun && w.Left.Now != w.Right.Now || w.Left.Now < was.Left.Now {
		fails("something is taken back, or time goes apart")
	}
	if w.Begun && (hasGivenUp(w.Left.B) && w.Right.A.State != impl.ConnGone || hasGivenUp(w.Right.A) && w.Left.B.State != impl.ConnGone) {
		fails("one line is given up, and the other is not")
	}
}

// journey is a world that goes on op by op, each of which is asked for what it should make of it and for P14.
type journey struct {
	t          *testing.T
	w          impl.World
	room, pipe int
}

func setOut(t *testing.T, iss [4]uint32, room, pipe int) *journey {
	t.Helper()
	w, ok := impl.WorldStart(iss, room, pipe)
	if !ok {
		t.Fatal("no world")
	}
	return &journey{t, w, room, pipe}
}

func (j *journey) goes(ops ...impl.WorldOp) {
	j.t.Helper()
	for _, o := range ops {
		got := turns(j.t, j.w, o)
		keepsWorldPromise(j.t, j.w, got, o, j.room, j.pipe)
		j.w = got
	}
}

func (j *journey) calm(ticks int) {
	j.t.Helper()
	for ticks > 0 {
		n := min(ticks, topWorldCalm)
		got := impl.WorldCalm(j.w, n)
		keepsWorldPromise(j.t, j.w, got, nowhere(), j.room, j.pipe)
		j.w, ticks = got, ticks-n
	}
}

func (j *journey) tells(what, want string) {
	j.t.Helper()
	if got := impl.WorldText(j.w); got != want {
		j.t.Fatalf("%s: told %q, not %q: %s", what, got, want, shownWorld(j.w))
	}
}

func (j *journey) anyGaveUp() bool { return gaveUp(j.w.Left) || gaveUp(j.w.Right) }

func (j *journey) cameThrough(what string) {
	j.t.Helper()
	if j.w.Right.GotB != j.w.Left.WroteA || j.w.Left.GotA != j.w.Right.WroteB || impl.RelayHeld(j.w.Relay) != 0 || onTheWay(j.w) != 0 {
		j.t.Fatalf("%s: not everything came through: %s", what, shownWorld(j.w))
	}
}

// P14, over good ways, from asking to parting, step by step.
func TestAWorldFromAskingToParting(t *testing.T) {
	for _, iss := range [][4]uint32{{1000, 5000, 7000, 9000}, {round - 1, round - 1, round - 1, round - 1}, {round - 3, 0, halfWay - 1, round - 9}} {
		j := setOut(t, iss, 300, 4)
		for i, want := range []string{"1 2 0 0 0 0 0 0 0", "3 2 0 0 0 0 0 0 0", "3 3 1 0 0 0 0 0 0"} {
			j.goes(onLeft(op(impl.PairGiveB+i%2, 0)))
			j.tells("the left line", want)
		}
		for i, want := range []string{"3 3 1 2 0 0 0 0 0", "3 3 3 2 0 0 0 0 0", "3 3 3 3 0 0 0 0 0"} {
			j.goes(onRight(op(impl.PairGiveB+i%2, 0)))
			j.tells("the right line", want)
		}
		j.goes(onLeft(writes(impl.PairWriteA, "hello there")), onLeft(op(impl.PairCloseA, 0)))
		j.tells("the client has closed", "4 3 3 3 11 0 0 0 0")
		j.goes(onLeft(op(impl.PairGiveB, 0)))
		j.tells("the bytes came to the proxy", "4 3 3 3 11 0 0 0 0")
		j.goes(onLeft(op(impl.PairGiveB, 0)))
		j.tells("and the FIN", "4 6 3 3 11 0 0 0 0")
		// With a pipe of four bytes it takes three turns, and the end is told behind them.
		j.goes(nowhere())
		j.tells("told to the server", "4 6 4 3 11 0 0 0 0")
		j.calm(5)
		j.tells("known to all", "5 6 5 6 11 11 0 0 0")
		j.goes(onRight(writes(impl.PairWriteB, "and back again")))
		j.calm(5)
		j.tells("answered", "5 6 5 6 11 11 14 14 0")
		j.goes(onRight(op(impl.PairCloseB, 0)))
		j.tells("the server has closed", "5 6 5 8 11 11 14 14 0")
		j.calm(5)
		j.tells("the client has heard it", "9 0 9 0 11 11 14 14 0")
		j.calm(restFor)
		j.tells("parted", "0 0 0 0 11 11 14 14 0")
		j.cameThrough("in the end")
		if j.w.Right.GotB != "hello there" || j.w.Left.GotA != "and back again" || j.anyGaveUp() || !impl.PairOver(j.w.Left) || !impl.PairOver(j.w.Right) {
			t.Errorf("in the end: %s", shownWorld(j.w))
		}
	}
}

// P14, over good ways, with rooms and pipes of all sizes, and much more than these hold.
func TestWorldsOverGoodWays(t *testing.T) {
	for _, room := range []int{1, 99, 100, 300, topBuf} {
		for _, pipe := range []int{1, 3, 250, topPipe} {
			j := setOut(t, [4]uint32{1000, round - 5, round - 300, 9000}, room, pipe)
			for i := range 5 {
				j.goes(onLeft(writes(impl.PairWriteA, bytesFrom(i, 3500))), onRight(writes(impl.PairWriteB, bytesFrom(i+9, 700*i))))
				j.calm(400)
				j.cameThrough("both ways")
			}
			if len(j.w.Left.WroteA) != 5*min(room, 3500) || len(j.w.Right.WroteB) < 4*min(room, 700) || j.anyGaveUp() || j.w.Left.Now != 5*400 {
				t.Fatalf("room %d, pipe %d: %s", room, pipe, shownWorld(j.w))
			}
			j.goes(onRight(op(impl.PairCloseB, 0)), onLeft(op(impl.PairCloseA, 0)))
			j.calm(400)
			if got := impl.WorldText(j.w); !strings.HasPrefix(got, "0 0 0 0 ") || j.anyGaveUp() {
				t.Errorf("room %d, pipe %d: %s", room, pipe, shownWorld(j.w))
			}
			j.cameThrough("parted")
		}
	}
}

// P14: while the server reads nothing, all between fills up to its rooms and no more; then it all comes through.
func TestNothingHoldsMoreThanItMay(t *testing.T) {
	for _, row := range [][2]int{{1, 1}, {50, 3}, {300, 99}, {150, 700}, {topBuf, topPipe}} {
		room, pipe := row[0], row[1]
		j := setOut(t, [4]uint32{1000, 5000, 7000, 9000}, room, pipe)
		j.calm(5)
		for i := range 60 {
			j.goes(onLeft(writes(impl.PairWriteA, bytesFrom(i, min(room, 700)))))
			for range 6 {
				j.goes(fourGives()...)
			}
		}
		full := []int{len(j.w.Left.A.Out.Data), len(j.w.Left.B.In.Ready), len(j.w.Relay.Up.Data), len(j.w.Right.A.Out.Data), len(j.w.Right.B.In.Ready)}
		if want := []int{room, room, pipe, room, room}; !slices.Equal(full, want) || j.w.Right.GotB != "" {
			t.Errorf("room %d, pipe %d: %v are held: %s", room, pipe, full, shownWorld(j.w))
		}
		j.goes(onLeft(op(impl.PairCloseA, 0)))
		j.calm(2 * topWorldCalm)
		j.cameThrough("read at last")
		if j.anyGaveUp() || !j.w.Right.B.GotFin || len(j.w.Left.WroteA) < 4*room {
			t.Errorf("told: %s", shownWorld(j.w))
		}
	}
}

// talk leaves bytes in both directions under way, on both lines and in the relay.
func (j *journey) talk() {
	j.t.Helper()
	j.calm(5)
	j.goes(onLeft(writes(impl.PairWriteA, bytesFrom(1, 300))), onRight(writes(impl.PairWriteB, bytesFrom(2, 300))))
	for range 2 {
		j.goes(fourGives()...)
	}
}

func (j *journey) ends() [4]int {
	return [4]int{j.w.Left.A.End, j.w.Left.B.End, j.w.Right.A.End, j.w.Right.B.End}
}

// P14, where the client or the server gives up: all four ends are gone, and what was read till then is a beginning.
func TestWorldsWhereOneGivesUp(t *testing.T) {
	for i, gives := range []impl.WorldOp{onLeft(op(impl.PairAbortA, 0)), onRight(op(impl.PairAbortB, 0))} {
		j := setOut(t, [4]uint32{1000, 5000, 7000, 9000}, 300, 50)
		j.talk()
		j.goes(gives)
		j.calm(700)
		want := [][4]int{{impl.EndAborted, impl.EndReset, impl.EndAborted, impl.EndReset}, {impl.EndReset, impl.EndAborted, impl.EndReset, impl.EndAborted}}[i]
		if got := j.ends(); got != want || !strings.HasPrefix(impl.WorldText(j.w), "0 0 0 0 ") {
			t.Errorf("case %d: gone for %v, not %v: %s", i, got, want, shownWorld(j.w))
		}
	}
}

// fourGives are the ops that let the oldest segment of a way come, a way each.
func fourGives() []impl.WorldOp {
	return []impl.WorldOp{onLeft(op(impl.PairGiveB, 0)), onLeft(op(impl.PairGiveA, 0)), onRight(op(impl.PairGiveB, 0)), onRight(op(impl.PairGiveA, 0))}
}

// P14, where one way loses all: who is not confirmed tires, and the proxy gives up its other line with it.
func TestWorldsWhereOneTires(t *testing.T) {
	drops := []impl.WorldOp{onLeft(op(impl.PairDropB, 0)), onLeft(op(impl.PairDropA, 0)), onRight(op(impl.PairDropB, 0)), onRight(op(impl.PairDropA, 0))}
	for i, lost := range drops {
		j := setOut(t, [4]uint32{1000, 5000, 7000, 9000}, 300, 50)
		j.talk()
		step := fourGives()
		step[i] = lost
		for range 250 {
			for range 6 {
				j.goes(step...)
			}
			j.goes(impl.WorldOp{Side: i, Op: op(impl.PairTick, 30)})
		}
		j.calm(2 * topWorldCalm)
		ends := j.ends()
		if !slices.Contains(ends[:], impl.EndTired) || !slices.Contains(ends[1:3], impl.EndAborted) || j.w.Left.B.State != impl.ConnGone || j.w.Right.A.State != impl.ConnGone {
			t.Errorf("way %d: gone for %v: %s", i, ends, shownWorld(j.w))
		}
	}
}

// P14, where the server never hears of the line: the proxy's right end tires, and the client learns of it.
func TestAServerThatIsNeverHeard(t *testing.T) {
	j := setOut(t, [4]uint32{1000, 5000, 7000, 9000}, 300, 50)
	j.goes(onLeft(writes(impl.PairWriteA, "is anybody there")), onLeft(op(impl.PairGiveB, 0)), onLeft(op(impl.PairGiveA, 0)), onLeft(op(impl.PairGiveB, 0)), onLeft(op(impl.PairGiveA, 0)))
	for range 300 {
		j.goes(onRight(op(impl.PairDropB, 0)), impl.WorldOp{Side: 2, Op: op(impl.PairTick, 20)})
	}
	if j.w.Right.Heard || j.w.Right.A.End != impl.EndTired || j.w.Left.B.End != impl.EndAborted || j.w.Left.A.State != impl.ConnOpen {
		t.Fatalf("tired: %s", shownWorld(j.w))
	}
	j.calm(5)
	if j.w.Left.A.End != impl.EndReset || j.w.Right.GotB != "" {
		t.Errorf("learned: %s", shownWorld(j.w))
	}
}

// badWorldDay is what befalls both lines at one step; now and then somebody tries to speak for the proxy.
func badWorldDay(day int, w []uint32, closing bool) impl.WorldOp {
	o := badDay(day, w, closing)
	side := int(w[3]>>8) % 2
	if w[3]%16 != 0 {
		o = notTheProxys(o, side == impl.SideLeft)
	} else if w[3]>>12%8 == 0 {
		side = 2
	}
	return impl.WorldOp{Side: side, Op: o}
}

// P14, over ways that lose, double and turn around, on both lines; and then in the calm.
func TestWorldsOverBadWays(t *testing.T) {
	seen := map[string]int{}
	for seed := range 45 {
		words := spread(seed*83 + 4*500 + 4)[seed*83:]
		room, pipe := []int{1, 30, 99, 150, 300, 1000, topBuf}[seed%7], []int{1, 10, 99, 500, topPipe}[seed%5]
		j := setOut(t, [4]uint32{words[0], round - 1, round - 300, words[1]}, room, pipe)
		for i := range 500 {
			o := badWorldDay(seed/2, words[4*i:], i > 400 && seed%3 == 0)
			switch {
			case seed%10 == 3 && i == 450:
				o = onLeft(op(impl.PairAbortA, 0))
			case seed%10 == 7 && i == 450:
				o = onRight(op(impl.PairAbortB, 0))
			}
			j.goes(o)
			seen["a pipe is full"] += (len(j.w.Relay.Up.Data) + len(j.w.Relay.Down.Data)) / (2 * pipe)
			seen["a way is full"] += max(len(j.w.Left.ToA), len(j.w.Left.ToB), len(j.w.Right.ToA), len(j.w.Right.ToB)) / topWay
		}
		j.calm(2 * topWorldCalm)
		if j.anyGaveUp() {
			seen["given up"]++
			continue
		}
		if !j.w.Begun || !j.w.Right.Heard {
			t.Fatalf("no lines: %s", shownWorld(j.w))
		}
		j.cameThrough("in the calm")
		j.goes(onLeft(op(impl.PairCloseA, 0)), onRight(op(impl.PairCloseB, 0)))
		j.calm(2 * topWorldCalm)
		if got := impl.WorldText(j.w); !strings.HasPrefix(got, "0 0 0 0 ") || j.anyGaveUp() {
			t.Fatalf("not parted: %s", shownWorld(j.w))
		}
		j.cameThrough("parted")
		seen["through and parted"]++
		seen["bytes"] += len(j.w.Right.GotB) + len(j.w.Left.GotA)
	}
	for what, least := range map[string]int{"through and parted": 25, "given up": 8, "a pipe is full": 300, "a way is full": 10, "bytes": 40000} {
		if seen[what] < least {
			t.Errorf("%s: %d", what, seen[what])
		}
	}
}
