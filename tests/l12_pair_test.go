package tests

import (
	"fmt"
	"math"
	"reflect"
	"slices"
	"strings"
	"testing"

	"loop.example/g00107/impl"
)

const (
	topWay     = 60
	topTotal   = 20000
	topPairOps = 2000
	topStep    = 1000
	topCalm    = 5000
	calmGives  = 400
)

// pairKinds are the kinds of ops, in the order of their numbers.
var pairKinds = []int{
	impl.PairWriteA, impl.PairWriteB, impl.PairReadA, impl.PairReadB, impl.PairCloseA, impl.PairCloseB, impl.PairTick, impl.PairGiveB,
	impl.PairGiveA, impl.PairDropB, impl.PairDropA, impl.PairTwiceB, impl.PairTwiceA, impl.PairAbortA, impl.PairAbortB,
}

var (
	noPairKinds = []int{-1, -2, 15, 16, -round, round, round + 6, math.MinInt, math.MinInt + 1, math.MaxInt - 1, math.MaxInt}
	badSteps    = []int{-1, -2, topStep + 1, topStep + 2, -topStep, -round, round, round + 1, math.MinInt, math.MinInt + 1, math.MaxInt - 1, math.MaxInt}
	badCalms    = []int{-1, -2, topCalm + 1, topCalm + 2, -topCalm, -round, round, round + 1, math.MinInt, math.MinInt + 1, math.MaxInt - 1, math.MaxInt}
)

func op(kind, n int) impl.PairOp { return impl.PairOp{Kind: kind, N: n} }

func writes(kind int, data string) impl.PairOp { return impl.PairOp{Kind: kind, Data: data} }

func shownPair(p impl.Pair) string {
	return fmt.Sprintf("{now %d, heard %v, IssB %d, Room %d\n  A %s\n  B %s\n  ToB %s\n  ToA %s\n  WroteA %s, WroteB %s, GotA %s, GotB %s}",
		p.Now, p.Heard, p.IssB, p.Room, shownConn(p.A), shownConn(p.B), shownSegs(p.ToB), shownSegs(p.ToA), short(p.WroteA), short(p.WroteB), short(p.GotA), short(p.GotB))
}

// equalPairs tells by the fields that are listed, and then by whatever else there is.
func equalPairs(a, b impl.Pair) bool {
	if !equalConns(a.A, b.A) || !equalConns(a.B, b.B) || !slices.Equal(a.ToA, b.ToA) || !slices.Equal(a.ToB, b.ToB) {
		return false
	}
	a.A, a.B, a.ToA, a.ToB = impl.Conn{}, impl.Conn{}, nil, nil
	b.A, b.B, b.ToA, b.ToB = impl.Conn{}, impl.Conn{}, nil, nil
	return reflect.DeepEqual(a, b)
}

// but is a pair of its own with these changes.
func but(p impl.Pair, changes ...func(*impl.Pair)) impl.Pair {
	p.A, p.B, p.ToA, p.ToB = with(p.A), with(p.B), slices.Clone(p.ToA), slices.Clone(p.ToB)
	for _, change := range changes {
		if change != nil {
			change(&p)
		}
	}
	return p
}

func samePair(t *testing.T, what string, got, want impl.Pair) {
	t.Helper()
	if !equalPairs(got, want) {
		t.Fatalf("%s\n is  %s\n not %s", what, shownPair(got), shownPair(want))
	}
}

// soundBy tells whether a pair is sound, condition by condition.
func soundBy(p impl.Pair) bool {
	if !impl.ConnOk(p.A) || p.Heard && !impl.ConnOk(p.B) || !p.Heard && p.B.State != 0 {
		return false
	}
	for _, s := range []string{p.WroteA, p.WroteB, p.GotA, p.GotB} {
		if len(s) > topTotal {
			return false
		}
	}
	return len(p.ToA) <= topWay && len(p.ToB) <= topWay && p.Room >= 1 && p.Room <= topBuf && p.Now >= 0 && p.Now <= topTick
}

func firstSixty(list []impl.Seg) []impl.Seg { return list[:min(len(list), topWay)] }

func fromA(p *impl.Pair, c impl.Conn, sent []impl.Seg) {
	p.A, p.ToB = c, firstSixty(append(p.ToB, sent...))
}

func fromB(p *impl.Pair, c impl.Conn, sent []impl.Seg) {
	p.B, p.ToA = c, firstSixty(append(p.ToA, sent...))
}

// placeBy is a place among so many, gone to step by step as far as that is near.
func placeBy(n, many int) int {
	n %= many
	for n < 0 {
		n += many
	}
	return n
}

func without(list []impl.Seg, i int) []impl.Seg { return append(slices.Clone(list[:i]), list[i+1:]...) }

func writtenBy(c *impl.Conn, all *string, data string) {
	if len(*all)+len(data) > topTotal {
		return
	}
	after, n := impl.ConnWrite(*c, data)
	*c, *all = after, *all+data[:n]
}

func readBy(c *impl.Conn, all *string, n int) {
	if lacks := topTotal - len(*all); lacks < n {
		n = lacks
	}
	if n < 0 {
		return
	}
	after, text := impl.ConnRead(*c, n)
	*c, *all = after, *all+text
}

// cameToB is what a segment makes of B, heard or not.
func cameToB(p *impl.Pair, s impl.Seg) {
	if p.Heard {
		c, sent := impl.ConnCame(p.B, s, p.Now)
		fromB(p, c, sent)
		return
	}
	if c, answer, asks := impl.ConnHear(s, p.IssB, p.Room, p.Now); asks {
		p.Heard = true
		fromB(p, c, []impl.Seg{answer})
	}
}

// onWayBy is what the ops on segments under way make of a pair.
func onWayBy(p *impl.Pair, o impl.PairOp) {
	toB := o.Kind == 7 || o.Kind == 9 || o.Kind == 11
	way := &p.ToA
	if toB {
		way = &p.ToB
	}
	if len(*way) == 0 {
		return
	}
	i := placeBy(o.N, len(*way))
	s := (*way)[i]
	if o.Kind > 10 {
		*way = firstSixty(append(*way, s))
		return
	}
	*way = without(*way, i)
	switch o.Kind {
	case 7:
		cameToB(p, s)
	case 8:
		c, sent := impl.ConnCame(p.A, s, p.Now)
		fromA(p, c, sent)
	}
}

func tickedBy(p *impl.Pair, n int) {
	if n < 0 || n > topStep || p.Now > topTick-n {
		return
	}
	p.Now += n
	c, sent := impl.ConnTick(p.A, p.Now)
	fromA(p, c, sent)
	if p.Heard {
		c, sent = impl.ConnTick(p.B, p.Now)
		fromB(p, c, sent)
	}
}

func endsBy(p *impl.Pair, o impl.PairOp) {
	switch o.Kind {
	case 0:
		writtenBy(&p.A, &p.WroteA, o.Data)
	case 2:
		readBy(&p.A, &p.GotA, o.N)
	case 4:
		p.A = impl.ConnClose(p.A)
	case 13:
		c, sent := impl.ConnAbort(p.A)
		fromA(p, c, sent)
	}
	if !p.Heard {
		return
	}
	switch o.Kind {
	case 1:
		writtenBy(&p.B, &p.WroteB, o.Data)
	case 3:
		readBy(&p.B, &p.GotB, o.N)
	case 5:
		p.B = impl.ConnClose(p.B)
	case 14:
		c, sent := impl.ConnAbort(p.B)
		fromB(p, c, sent)
	}
}

// pairBy goes through PairDo step by step.
func pairBy(p impl.Pair, o impl.PairOp) impl.Pair {
	p = but(p)
	if !soundBy(p) {
		return p
	}
	switch {
	case o.Kind == 6:
		tickedBy(&p, o.N)
	case o.Kind > 6 && o.Kind < 13:
		onWayBy(&p, o)
	default:
		endsBy(&p, o)
	}
	c, sent := impl.ConnSend(p.A, p.Now)
	fromA(&p, c, sent)
	if p.Heard {
		c, sent = impl.ConnSend(p.B, p.Now)
		fromB(&p, c, sent)
	}
	return p
}

// calmedBy goes through one tick of PairCalm step by step.
func calmedBy(p impl.Pair) impl.Pair {
	for i := 0; i < calmGives && len(p.ToA)+len(p.ToB) > 0; i++ {
		if len(p.ToB) > 0 {
			p = pairBy(p, op(7, 0))
		} else {
			p = pairBy(p, op(8, 0))
		}
	}
	return pairBy(pairBy(pairBy(p, op(2, topBuf)), op(3, topBuf)), op(6, 1))
}

// does asks that an op makes of p what the steps say, and that nothing is written into p.
func does(t *testing.T, p impl.Pair, o impl.PairOp) impl.Pair {
	t.Helper()
	arg := but(p)
	got := impl.PairDo(arg, o)
	if want := pairBy(p, o); !equalPairs(got, want) {
		t.Fatalf("PairDo(%s, %d %d %s)\n is  %s\n not %s", shownPair(p), o.Kind, o.N, short(o.Data), shownPair(got), shownPair(want))
	}
	if !equalPairs(arg, p) {
		t.Fatalf("PairDo(%s, %d %d %s) writes into it", shownPair(p), o.Kind, o.N, short(o.Data))
	}
	return got
}

// otherEnd is an end of the tables that lies on the other side of them.
func otherEnd(state int) impl.Conn {
	return movedEnd(endIn(state), otherIss-ownIss, round-(otherIss-ownIss))
}

// strange are segments that no end sends, but that may be on a way.
func strange() []impl.Seg {
	return []impl.Seg{
		{From: 7, To: -9, Seq: 5001, Ack: 1001, Flags: ack, Win: 5, Mss: 3, Data: "ports"},
		{Flags: 32}, {Flags: -1, Data: "no flags"}, {Flags: ack, Win: topWin + 1}, {Flags: syn, Win: -1}, {Flags: ack, Data: bytesFrom(3, topSeg+1)},
	}
}

// wayTo are segments that may come to an end of the tables: an ordinary confirmation first.
func wayTo(c impl.Conn) []impl.Seg {
	return append([]impl.Seg{
		segOf(ack, c.In.Next, c.Una, 400, ""), segOf(ack, c.In.Next, c.Max, 300, "some bytes"), segOf(ack, c.In.Next+20, c.Una, 300, "farther on"), segOf(ack, c.In.Next-5, c.Una, 300, "older"),
		segOf(fin+ack, c.In.Next, c.Max, 200, ""), segOf(rst+ack, c.In.Next, c.Iss+1, 0, ""), segOf(syn, 77, 0, 300, ""), segOf(syn+ack, 77, c.Iss+1, 300, ""),
	}, strange()...)
}

// pairIn has ends in these states, both of which have written and read, and segments on both ways.
func pairIn(a, b int) impl.Pair {
	p := impl.Pair{
		A: endIn(a), B: otherEnd(b), Heard: true, IssB: 5000, Room: ownRoom, Now: nowTick,
		WroteA: "A wrote", WroteB: "B has written", GotA: "A got it", GotB: "B got that",
	}
	p.ToA, p.ToB = wayTo(p.A), wayTo(p.B)
	return p
}

// loneIn has an end A in a state, and a B that was never heard.
func loneIn(a int) impl.Pair {
	return but(pairIn(a, 0), func(p *impl.Pair) { p.B, p.Heard, p.WroteB, p.GotB = impl.Conn{}, false, "", "" })
}

// everyPair are pairs in all states, heard and never heard.
func everyPair() []impl.Pair {
	out := []impl.Pair{}
	for _, a := range everyState {
		out = append(out, loneIn(a))
		for _, b := range everyState {
			out = append(out, pairIn(a, b))
		}
	}
	return out
}

// opened is a pair whose ends stand, with nothing under way.
func opened(t *testing.T, issA, issB uint32, room int) impl.Pair {
	t.Helper()
	p, ok := impl.PairStart(issA, issB, room)
	p = impl.PairRun(p, []impl.PairOp{op(impl.PairGiveB, 0), op(impl.PairGiveA, 0), op(impl.PairGiveB, 0)})
	if !ok || p.A.State != impl.ConnOpen || p.B.State != impl.ConnOpen || len(p.ToA)+len(p.ToB) != 0 {
		t.Fatalf("no line: %s", shownPair(p))
	}
	return p
}

func TestPairConstants(t *testing.T) {
	for i, kind := range pairKinds {
		if kind != i {
			t.Errorf("kind %d is %d", i, kind)
		}
	}
	if impl.MaxWay != topWay || impl.MaxTotal != topTotal || impl.MaxPairOps != topPairOps {
		t.Errorf("MaxWay %d, MaxTotal %d, MaxPairOps %d", impl.MaxWay, impl.MaxTotal, impl.MaxPairOps)
	}
}

func TestPairStart(t *testing.T) {
	for _, a := range startWords {
		for _, b := range startWords {
			for _, room := range startRooms {
				p, ok := impl.PairStart(a, b, room)
				want := impl.Pair{A: startedBy(a, room, 0), IssB: b, Room: room, ToB: []impl.Seg{{Seq: a, Flags: syn, Win: room, Mss: 100}}}
				if !ok || !equalPairs(p, want) {
					t.Errorf("PairStart(%d, %d, %d) is %s, %v", a, b, room, shownPair(p), ok)
				}
			}
			for _, room := range badRooms {
				if p, ok := impl.PairStart(a, b, room); ok || !equalPairs(p, impl.Pair{}) {
					t.Errorf("PairStart(%d, %d, %d) is %s, %v", a, b, room, shownPair(p), ok)
				}
			}
		}
	}
}

// tellingOps are one of each kind, and more, each of which does something to most pairs.
func tellingOps() []impl.PairOp {
	out := []impl.PairOp{}
	for _, kind := range append(slices.Clone(pairKinds), noPairKinds...) {
		out = append(out, impl.PairOp{Kind: kind, N: 1, Data: "text"})
	}
	return append(out, op(impl.PairTick, 0), op(impl.PairTick, topStep), op(impl.PairGiveA, 4), op(impl.PairGiveB, 6))
}

// staysAsItIs asks that nothing makes anything of a pair that is not sound.
func staysAsItIs(t *testing.T, what string, p impl.Pair) {
	t.Helper()
	if soundBy(p) {
		t.Fatalf("%s: sound after all: %s", what, shownPair(p))
	}
	arg := but(p)
	for _, o := range tellingOps() {
		samePair(t, what+", PairDo", impl.PairDo(arg, o), p)
	}
	samePair(t, what+", PairRun", impl.PairRun(arg, tellingOps()), p)
	samePair(t, what+", PairRun of nothing", impl.PairRun(arg, nil), p)
	for _, ticks := range []int{0, 1, 3, topCalm, topCalm + 1} {
		samePair(t, what+", PairCalm", impl.PairCalm(arg, ticks), p)
	}
	samePair(t, what+", written into", arg, p)
}

// isSound asks that a segment that is dropped is gone, which it is of any pair that is sound.
func isSound(t *testing.T, what string, p impl.Pair) {
	t.Helper()
	got := impl.PairDo(p, op(impl.PairDropB, 0))
	if equalPairs(got, p) || !slices.Equal(got.ToB[:min(len(got.ToB), len(p.ToB)-1)], p.ToB[1:]) {
		t.Errorf("%s: nothing is done to %s", what, shownPair(p))
	}
	for _, o := range tellingOps() {
		does(t, p, o)
	}
}

func TestPairsWithWrongEnds(t *testing.T) {
	for _, state := range everyState {
		for _, bad := range badEnds(state) {
			staysAsItIs(t, "A not right", but(pairIn(3, 3), func(p *impl.Pair) { p.A = bad }))
			staysAsItIs(t, "B not right", but(pairIn(3, 3), func(p *impl.Pair) { p.B = bad }))
			staysAsItIs(t, "A not right, B never heard", but(loneIn(3), func(p *impl.Pair) { p.A = bad }))
		}
		for _, o := range everyState {
			isSound(t, "both right", pairIn(state, o))
		}
		isSound(t, "A right, B never heard", loneIn(state))
	}
	staysAsItIs(t, "heard, but zero", but(loneIn(3), func(p *impl.Pair) { p.Heard = true }))
	staysAsItIs(t, "the zero value", impl.Pair{})
}

func TestPairsWithAStateThatWasNeverHeard(t *testing.T) {
	for _, state := range append(slices.Clone(everyState[1:]), -1, impl.ConnRest+1, math.MinInt, math.MaxInt) {
		staysAsItIs(t, "a state alone", but(loneIn(3), func(p *impl.Pair) { p.B.State = state }))
		if state > 0 && state <= impl.ConnRest {
			staysAsItIs(t, "an end", but(pairIn(3, state), func(p *impl.Pair) { p.Heard = false }))
		}
	}
	// It is the State alone that has to be its zero value.
	for _, b := range []impl.Conn{{Iss: 5}, {End: 9}, {Rest: -1}, {In: impl.InBuf{Ready: "bytes"}}, otherEnd(impl.ConnGone), with(otherEnd(impl.ConnGone), func(c *impl.Conn) { c.In.Ready = "bytes" })} {
		p := but(loneIn(3), func(p *impl.Pair) { p.B = b })
		isSound(t, "another field", p)
		for _, o := range tellingOps() {
			if got := impl.PairDo(p, o); !got.Heard && !equalConns(got.B, b) {
				t.Errorf("kind %d: %s", o.Kind, shownPair(got))
			}
		}
	}
}

func TestPairsAtTheirLimits(t *testing.T) {
	for _, base := range []impl.Pair{pairIn(3, 3), pairIn(2, 6), loneIn(3), loneIn(1)} {
		for name, at := range map[string]func(*impl.Pair) *string{
			"WroteA": func(p *impl.Pair) *string { return &p.WroteA }, "WroteB": func(p *impl.Pair) *string { return &p.WroteB },
			"GotA": func(p *impl.Pair) *string { return &p.GotA }, "GotB": func(p *impl.Pair) *string { return &p.GotB },
		} {
			for _, n := range []int{0, 1, topTotal - 1, topTotal} {
				isSound(t, fmt.Sprint(name, " of ", n), but(base, func(p *impl.Pair) { *at(p) = bytesFrom(1, n) }))
			}
			for _, n := range []int{topTotal + 1, topTotal + 2, 2 * topTotal} {
				staysAsItIs(t, fmt.Sprint(name, " of ", n), but(base, func(p *impl.Pair) { *at(p) = bytesFrom(1, n) }))
			}
		}
		for _, n := range []int{1, topWay - 1, topWay} {
			isSound(t, fmt.Sprint("ToB of ", n), but(base, func(p *impl.Pair) { p.ToB = numbered(n) }))
			isSound(t, fmt.Sprint("ToA of ", n), but(base, func(p *impl.Pair) { p.ToA = numbered(n) }))
			isSound(t, fmt.Sprint("both of ", n), but(base, func(p *impl.Pair) { p.ToA, p.ToB = numbered(n), numbered(n) }))
		}
		for _, n := range []int{topWay + 1, topWay + 2, 500} {
			staysAsItIs(t, fmt.Sprint("ToB of ", n), but(base, func(p *impl.Pair) { p.ToB = numbered(n) }))
			staysAsItIs(t, fmt.Sprint("ToA of ", n), but(base, func(p *impl.Pair) { p.ToA = numbered(n) }))
		}
		for _, room := range startRooms {
			isSound(t, fmt.Sprint("Room ", room), but(base, func(p *impl.Pair) { p.Room = room }))
		}
		for _, room := range badRooms {
			staysAsItIs(t, fmt.Sprint("Room ", room), but(base, func(p *impl.Pair) { p.Room = room }))
		}
		for _, now := range startTicks {
			isSound(t, fmt.Sprint("Now ", now), but(base, func(p *impl.Pair) { p.Now = now }))
		}
		for _, now := range badTicks {
			staysAsItIs(t, fmt.Sprint("Now ", now), but(base, func(p *impl.Pair) { p.Now = now }))
		}
	}
}

// numbered are so many segments, none of which an end that waits for place 5001 or 1001 answers.
func numbered(n int) []impl.Seg {
	out := []impl.Seg{}
	for i := range n {
		out = append(out, impl.Seg{From: i, Seq: uint32(i), Flags: rst, Data: fmt.Sprint("segment ", i)})
	}
	return out
}

// placesOf is which of the numbered segments a list has, in its order.
func placesOf(list []impl.Seg) []int {
	out := []int{}
	for _, s := range list {
		out = append(out, s.From)
	}
	return out
}

// Every kind, in every state, heard and never heard, at many numbers.
func TestPairDoInEveryState(t *testing.T) {
	for _, p := range everyPair() {
		for _, kind := range append(slices.Clone(pairKinds), noPairKinds...) {
			for _, n := range []int{0, 1, 2, 5, 13, 14, 27, -1, -14, 300, topStep, topBuf + 1, math.MinInt, math.MaxInt} {
				does(t, p, impl.PairOp{Kind: kind, N: n, Data: "written now"})
			}
		}
		for _, now := range []int{0, 130, 173, 174, 5000, topTick} {
			for n := range 14 {
				does(t, but(p, func(p *impl.Pair) { p.Now = now }), op(impl.PairGiveB, n))
				does(t, but(p, func(p *impl.Pair) { p.Now = now }), op(impl.PairGiveA, n))
			}
			does(t, but(p, func(p *impl.Pair) { p.Now = now }), op(impl.PairTick, 73))
		}
	}
}

// Another kind does nothing, but what may be sent is sent all the same.
func TestPairDoOfOtherKinds(t *testing.T) {
	p := opened(t, 1000, 5000, 300)
	for _, kind := range noPairKinds {
		samePair(t, "another kind", impl.PairDo(p, impl.PairOp{Kind: kind, N: 1, Data: "x"}), p)
		owing := but(p, func(p *impl.Pair) { p.A.Owe, p.B.Owe = true, true })
		want := but(p, func(p *impl.Pair) {
			p.ToB, p.ToA = []impl.Seg{segOf(ack, 1001, 5001, 300, "")}, []impl.Seg{segOf(ack, 5001, 1001, 300, "")}
		})
		samePair(t, "another kind, owing", impl.PairDo(owing, impl.PairOp{Kind: kind, N: 1, Data: "x"}), want)
	}
}

// What is refused does nothing, but what may be sent is sent all the same.
func TestPairDoOfWhatIsRefused(t *testing.T) {
	p := opened(t, 1000, 5000, 300)
	owing := but(p, func(p *impl.Pair) {
		p.A.Owe, p.B.Owe, p.WroteA, p.WroteB = true, true, bytesFrom(1, topTotal), bytesFrom(2, topTotal)
	})
	want := but(owing, func(p *impl.Pair) {
		p.A.Owe, p.B.Owe = false, false
		p.ToB, p.ToA = []impl.Seg{segOf(ack, 1001, 5001, 300, "")}, []impl.Seg{segOf(ack, 5001, 1001, 300, "")}
	})
	for _, o := range []impl.PairOp{
		writes(impl.PairWriteA, "x"), writes(impl.PairWriteB, "x"), op(impl.PairReadA, -1), op(impl.PairReadB, -1), op(impl.PairTick, -1), op(impl.PairTick, topStep+1),
		op(impl.PairGiveA, 0), op(impl.PairGiveB, 0), op(impl.PairDropA, 0), op(impl.PairDropB, 0), op(impl.PairTwiceA, 0), op(impl.PairTwiceB, 0),
	} {
		samePair(t, fmt.Sprint("kind ", o.Kind), impl.PairDo(owing, o), want)
	}
	// Who was never heard sends nothing, even if it could.
	lone := but(owing, func(p *impl.Pair) { p.Heard, p.B = false, with(otherEnd(impl.ConnGone), owes) })
	samePair(t, "never heard", impl.PairDo(lone, op(-1, 0)), but(lone, func(p *impl.Pair) {
		p.A.Owe, p.ToB = false, []impl.Seg{segOf(ack, 1001, 5001, 300, "")}
	}))
}

// Writing by hand: what was taken goes behind what was written, and out at once.
func TestPairWriteByHand(t *testing.T) {
	p := but(opened(t, 1000, 5000, 300), func(p *impl.Pair) { p.WroteA, p.WroteB = "before ", "ahead " })
	for n, took := range map[int]int{0: 0, 1: 1, 5: 5, 99: 99, 100: 100, 101: 101, 299: 299, 300: 300, 301: 300, 5000: 300, topTotal - 7: 300} {
		text := bytesFrom(n, n)
		a := impl.PairDo(p, writes(impl.PairWriteA, text))
		if a.WroteA != "before "+text[:took] || a.A.Out.Data != text[:took] || a.WroteB != p.WroteB || !equalConns(a.B, p.B) || len(a.ToA) != 0 {
			t.Errorf("A writes %d bytes: %s", n, shownPair(a))
		}
		b := impl.PairDo(p, writes(impl.PairWriteB, text))
		if b.WroteB != "ahead "+text[:took] || b.B.Out.Data != text[:took] || b.WroteA != p.WroteA || !equalConns(b.A, p.A) || len(b.ToB) != 0 {
			t.Errorf("B writes %d bytes: %s", n, shownPair(b))
		}
		for _, way := range [][]impl.Seg{a.ToB, b.ToA} {
			sent := ""
			for _, s := range way {
				sent += s.Data
			}
			// At first 200 bytes may be under way.
			if sent != text[:min(took, 200)] {
				t.Errorf("%d bytes written, %d under way", n, len(sent))
			}
		}
	}
	hello := impl.PairDo(p, writes(impl.PairWriteA, "hello"))
	if !slices.Equal(hello.ToB, []impl.Seg{{Seq: 1001, Ack: 5001, Flags: ack + push, Win: 300, Data: "hello"}}) || hello.A.Nxt != 1006 {
		t.Errorf("hello: %s", shownPair(hello))
	}
}

// With all of it what was written may be MaxTotal bytes; it counts even what would not be taken.
func TestPairWriteUpToTheTotal(t *testing.T) {
	for _, side := range []int{0, 1} {
		for _, room := range []int{50, topBuf} {
			for _, written := range []int{0, 1, topTotal - 100, topTotal - 51, topTotal - 50, topTotal - 49, topTotal - 1, topTotal} {
				for _, n := range []int{0, 1, topTotal - written - 1, topTotal - written, topTotal - written + 1, topTotal - written + 2, topTotal, topTotal + 1, 70000} {
					if n < 0 {
						continue
					}
					p := but(opened(t, 1000, 5000, room), func(p *impl.Pair) {
						*[]*string{&p.WroteA, &p.WroteB}[side] = bytesFrom(1, written)
					})
					got := does(t, p, writes(side, bytesFrom(3, n)))
					many := len([]string{got.WroteA, got.WroteB}[side]) - written
					if want := min(n, room); n > topTotal-written && many != 0 || n <= topTotal-written && many != want {
						t.Errorf("%d bytes behind %d into a room of %d: %d taken", n, written, room, many)
					}
				}
			}
		}
	}
}

func TestPairReadByHand(t *testing.T) {
	for _, side := range []int{0, 1} {
		kind := impl.PairReadA + side
		for _, row := range []struct{ ready, got, n, reads int }{
			{10, 3, -1, 0}, {10, 3, -topBuf, 0}, {10, 3, math.MinInt, 0}, {10, 3, 0, 0}, {10, 3, 1, 1}, {10, 3, 9, 9}, {10, 3, 10, 10}, {10, 3, 11, 10}, {10, 3, topBuf - 1, 10}, {10, 3, topBuf, 10},
			// No end reads more than MaxBuf bytes at once; who asks for more reads nothing.
			{10, 3, topBuf + 1, 0}, {10, 3, topTotal - 3, 0}, {10, 3, topTotal, 0}, {10, 3, math.MaxInt, 0},
			{0, 3, 5, 0}, {1, 0, 1, 1}, {300, 0, topBuf, 300},
			{10, topTotal - 11, 20, 10}, {10, topTotal - 10, 10, 10}, {10, topTotal - 10, 20, 10}, {10, topTotal - 9, 9, 9}, {10, topTotal - 9, 10, 9}, {10, topTotal - 1, 10, 1}, {10, topTotal - 1, 1, 1}, {10, topTotal - 1, 0, 0}, {10, topTotal - 1, -1, 0},
			{10, topTotal, 0, 0}, {10, topTotal, 1, 0}, {10, topTotal, 10, 0}, {10, topTotal, topBuf, 0}, {10, topTotal, -1, 0},
			// What is lacking counts ahead of what may be read at once.
			{10, topTotal - 9, math.MaxInt, 9}, {10, topTotal - 9, topBuf + 1, 9}, {10, topTotal, math.MaxInt, 0}, {10, topTotal - topBuf, topTotal, 10}, {10, topTotal - topBuf - 1, topTotal, 0},
		} {
			ready, had := bytesFrom(5, row.ready), bytesFrom(6, row.got)
			p := but(opened(t, 1000, 5000, 1000), func(p *impl.Pair) {
				*[]*string{&p.GotA, &p.GotB}[side] = had
				[]*impl.Conn{&p.A, &p.B}[side].In.Ready = ready
			})
			want := but(p, func(p *impl.Pair) {
				*[]*string{&p.GotA, &p.GotB}[side] = had + ready[:row.reads]
				[]*impl.Conn{&p.A, &p.B}[side].In.Ready = ready[row.reads:]
			})
			samePair(t, fmt.Sprintf("end %d reads %d of %d behind %d", side, row.n, row.ready, row.got), does(t, p, op(kind, row.n)), want)
		}
	}
}

// Who has room again says so at once, and who is gone may still read.
func TestPairReadTellsOfRoom(t *testing.T) {
	p := but(opened(t, 1000, 5000, 300), func(p *impl.Pair) { p.A.In.Ready, p.B.In.Ready = bytesFrom(1, 250), bytesFrom(2, 250) })
	a, b := impl.PairDo(p, op(impl.PairReadA, 200)), impl.PairDo(p, op(impl.PairReadB, 200))
	if !slices.Equal(a.ToB, []impl.Seg{segOf(ack, 1001, 5001, 250, "")}) || len(a.ToA) != 0 || a.GotA != bytesFrom(1, 200) {
		t.Errorf("A has read: %s", shownPair(a))
	}
	if !slices.Equal(b.ToA, []impl.Seg{segOf(ack, 5001, 1001, 250, "")}) || len(b.ToB) != 0 || b.GotB != bytesFrom(2, 200) {
		t.Errorf("B has read: %s", shownPair(b))
	}
	for _, state := range everyState {
		q := but(p, func(p *impl.Pair) {
			p.A, p.B, p.ToA, p.ToB = endIn(state), otherEnd(state), nil, nil
			p.A.In.Ready, p.B.In.Ready = "for A", "for B"
		})
		if got := impl.PairRun(q, []impl.PairOp{op(impl.PairReadA, 9), op(impl.PairReadB, 9)}); got.GotA != "for A" || got.GotB != "for B" {
			t.Errorf("state %d: %s", state, shownPair(got))
		}
	}
}

func TestPairCloseInEveryState(t *testing.T) {
	for _, state := range everyState {
		p := but(pairIn(state, state), func(p *impl.Pair) { p.ToA, p.ToB = nil, nil })
		closed := slices.Contains(writing, state) || endIn(state).Fin
		if got := does(t, p, op(impl.PairCloseA, 0)); got.A.Fin != closed || got.B.Fin != p.B.Fin {
			t.Errorf("A closes in state %d: %s", state, shownPair(got))
		}
		if got := does(t, p, op(impl.PairCloseB, 0)); got.B.Fin != closed || got.A.Fin != p.A.Fin {
			t.Errorf("B closes in state %d: %s", state, shownPair(got))
		}
	}
	p := opened(t, 1000, 5000, 300)
	a, b := impl.PairDo(p, op(impl.PairCloseA, 0)), impl.PairDo(p, op(impl.PairCloseB, 0))
	if a.A.State != impl.ConnFin1 || a.B.State != impl.ConnOpen || !slices.Equal(a.ToB, []impl.Seg{segOf(fin+ack, 1001, 5001, 300, "")}) || len(a.ToA) != 0 {
		t.Errorf("A closes: %s", shownPair(a))
	}
	if b.B.State != impl.ConnFin1 || b.A.State != impl.ConnOpen || !slices.Equal(b.ToA, []impl.Seg{segOf(fin+ack, 5001, 1001, 300, "")}) || len(b.ToB) != 0 {
		t.Errorf("B closes: %s", shownPair(b))
	}
}

func TestPairAbortInEveryState(t *testing.T) {
	tells := []int{impl.ConnHeard, impl.ConnOpen, impl.ConnFin1, impl.ConnFin2, impl.ConnHalf}
	for _, state := range everyState {
		p := but(pairIn(state, state), func(p *impl.Pair) { p.ToA, p.ToB = nil, nil })
		resets := func(c impl.Conn) []impl.Seg {
			if slices.Contains(tells, state) {
				return []impl.Seg{{Seq: c.Nxt, Ack: c.In.Next, Flags: rst + ack}}
			}
			return nil
		}
		a, b := does(t, p, op(impl.PairAbortA, 0)), does(t, p, op(impl.PairAbortB, 0))
		why := impl.EndAborted
		if state == impl.ConnGone {
			why = p.A.End
		}
		if a.A.State != impl.ConnGone || a.A.End != why || !slices.Equal(a.ToB, resets(p.A)) || a.B.End != p.B.End {
			t.Errorf("A gives up in state %d: %s", state, shownPair(a))
		}
		if b.B.State != impl.ConnGone || b.B.End != why || !slices.Equal(b.ToA, resets(p.B)) || b.A.End != p.A.End {
			t.Errorf("B gives up in state %d: %s", state, shownPair(b))
		}
	}
	p := opened(t, 1000, 5000, 300)
	got := impl.PairRun(p, []impl.PairOp{op(impl.PairAbortA, 0), op(impl.PairGiveB, 0)})
	if got.A.End != impl.EndAborted || got.B.End != impl.EndReset || got.B.State != impl.ConnGone || !impl.PairOver(got) {
		t.Errorf("A gave up, and B learns of it: %s", shownPair(got))
	}
}

func TestPairTickAtEveryEdge(t *testing.T) {
	for _, base := range []impl.Pair{pairIn(3, 3), pairIn(4, 9), pairIn(1, 2), loneIn(1), loneIn(3)} {
		for _, now := range []int{0, 1, nowTick, topTick - topStep - 1, topTick - topStep, topTick - topStep + 1, topTick - 1, topTick} {
			p := but(base, func(p *impl.Pair) { p.Now = now })
			for _, n := range []int{0, 1, 2, 73, 74, 999, topStep} {
				want := now + n
				if want > topTick {
					want = now
				}
				if got := does(t, p, op(impl.PairTick, n)); got.Now != want {
					t.Errorf("%d ticks from %d on: %d", n, now, got.Now)
				}
			}
			for _, n := range badSteps {
				if got := does(t, p, op(impl.PairTick, n)); got.Now != now || got.A.Tries != p.A.Tries || got.B.Tries != p.B.Tries {
					t.Errorf("%d ticks from %d on: %s", n, now, shownPair(got))
				}
			}
			for _, n := range []int{topTick - now, topTick - now + 1} {
				want := now
				if n <= topStep && now+n <= topTick {
					want = topTick
				}
				if got := does(t, p, op(impl.PairTick, n)); got.Now != want {
					t.Errorf("%d ticks from %d on: %d", n, now, got.Now)
				}
			}
		}
	}
}

// Both ends do what is due, whether a tick passes or none; each one's segments go on the way to the other.
func TestPairTickByHand(t *testing.T) {
	p := impl.PairRun(opened(t, 1000, 5000, 300), []impl.PairOp{writes(impl.PairWriteA, "from A"), writes(impl.PairWriteB, "from B"), op(impl.PairDropA, 0), op(impl.PairDropB, 0)})
	if len(p.ToA)+len(p.ToB) != 0 || p.A.Again != 2 || p.B.Again != 2 {
		t.Fatalf("lost: %s", shownPair(p))
	}
	early := impl.PairDo(p, op(impl.PairTick, 1))
	samePair(t, "too early", early, but(p, func(p *impl.Pair) { p.Now = 1 }))
	for _, got := range []impl.Pair{impl.PairDo(p, op(impl.PairTick, 2)), impl.PairDo(early, op(impl.PairTick, 1)), impl.PairDo(but(p, func(p *impl.Pair) { p.Now = 2 }), op(impl.PairTick, 0))} {
		if got.Now != 2 || got.A.Tries != 1 || got.B.Tries != 1 {
			t.Errorf("due: %s", shownPair(got))
		}
		if !slices.Equal(got.ToB, []impl.Seg{segOf(ack+push, 1001, 5001, 300, "from A")}) || !slices.Equal(got.ToA, []impl.Seg{segOf(ack+push, 5001, 1001, 300, "from B")}) {
			t.Errorf("sent again: %s", shownPair(got))
		}
	}
	asks, _ := impl.PairStart(1000, 5000, 300)
	again := impl.PairDo(asks, op(impl.PairTick, 10))
	if !slices.Equal(again.ToB, []impl.Seg{asks.ToB[0], asks.ToB[0]}) || again.Heard || again.Now != 10 || !equalConns(again.B, impl.Conn{}) {
		t.Errorf("asked again: %s", shownPair(again))
	}
}

// Which segment is meant: every number is a place, as long as there is one.
func TestWhichSegmentIsMeant(t *testing.T) {
	for _, many := range []int{1, 2, 3, 7, topWay - 1, topWay} {
		p := but(opened(t, 1000, 5000, 300), func(p *impl.Pair) { p.ToA, p.ToB = numbered(many), numbered(many) })
		for _, n := range append(edgePlaces(many), many/2, many+many/2) {
			place := placeBy(n, many)
			left := placesOf(without(numbered(many), place))
			for _, kind := range []int{impl.PairGiveA, impl.PairDropA} {
				got := does(t, p, op(kind, n))
				if !slices.Equal(placesOf(got.ToA), left) || !slices.Equal(got.ToB, p.ToB) {
					t.Errorf("kind %d, %d of %d: %v", kind, n, many, placesOf(got.ToA))
				}
			}
			for _, kind := range []int{impl.PairGiveB, impl.PairDropB} {
				got := does(t, p, op(kind, n))
				if !slices.Equal(placesOf(got.ToB), left) || !slices.Equal(got.ToA, p.ToA) {
					t.Errorf("kind %d, %d of %d: %v", kind, n, many, placesOf(got.ToB))
				}
			}
			twice := placesOf(firstSixty(append(numbered(many), numbered(many)[place])))
			if got := does(t, p, op(impl.PairTwiceA, n)); !slices.Equal(placesOf(got.ToA), twice) || !slices.Equal(got.ToB, p.ToB) {
				t.Errorf("twice, %d of %d: %v", n, many, placesOf(got.ToA))
			}
			if got := does(t, p, op(impl.PairTwiceB, n)); !slices.Equal(placesOf(got.ToB), twice) || !slices.Equal(got.ToA, p.ToA) {
				t.Errorf("twice, %d of %d: %v", n, many, placesOf(got.ToB))
			}
		}
	}
}

// Which place it is, by hand.
func TestPlacesByHand(t *testing.T) {
	p := but(opened(t, 1000, 5000, 300), func(p *impl.Pair) { p.ToA, p.ToB = numbered(3), numbered(5) })
	for n, left := range map[int][]int{0: {1, 2, 3, 4}, 2: {0, 1, 3, 4}, 4: {0, 1, 2, 3}, 5: {1, 2, 3, 4}, 7: {0, 1, 3, 4}, -1: {0, 1, 2, 3}, -2: {0, 1, 2, 4}, -5: {1, 2, 3, 4}, -6: {0, 1, 2, 3}} {
		if got := impl.PairDo(p, op(impl.PairDropB, n)); !slices.Equal(placesOf(got.ToB), left) {
			t.Errorf("place %d of five: %v", n, placesOf(got.ToB))
		}
	}
	for n, behind := range map[int]int{0: 0, 1: 1, 2: 2, 3: 0, 4: 1, -1: 2, -3: 0, -4: 2} {
		if got := impl.PairDo(p, op(impl.PairTwiceA, n)); !slices.Equal(placesOf(got.ToA), []int{0, 1, 2, behind}) {
			t.Errorf("place %d of three, twice: %v", n, placesOf(got.ToA))
		}
	}
}

func TestNothingUnderWay(t *testing.T) {
	for _, base := range append(everyPair(), opened(t, 1000, 5000, 300)) {
		// What may be sent was, so that nothing but the op can do anything.
		calm := but(impl.PairDo(base, op(-1, 0)), func(p *impl.Pair) { p.ToA, p.ToB = nil, nil })
		for kind := impl.PairGiveB; kind <= impl.PairTwiceA; kind++ {
			for _, n := range edgePlaces(3) {
				samePair(t, fmt.Sprint("kind ", kind), impl.PairDo(calm, op(kind, n)), calm)
			}
		}
	}
}

// Segments that are given come to their end, and what it answers goes on the other way.
func TestPairGiveByHand(t *testing.T) {
	p := impl.PairRun(opened(t, 1000, 5000, 300), []impl.PairOp{writes(impl.PairWriteA, "one"), writes(impl.PairWriteA, "two"), writes(impl.PairWriteB, "three")})
	if len(p.ToB) != 2 || len(p.ToA) != 1 {
		t.Fatalf("written: %s", shownPair(p))
	}
	second := impl.PairDo(p, op(impl.PairGiveB, 1))
	if second.B.In.Ready != "" || !slices.Equal(second.B.In.Parts, []impl.Part{part(1004, "two")}) || !slices.Equal(second.ToA[1:], []impl.Seg{segOf(ack, 5006, 1001, 300, "")}) {
		t.Errorf("the second one first: %s", shownPair(second))
	}
	both := impl.PairDo(second, op(impl.PairGiveB, 0))
	if both.B.In.Ready != "onetwo" || len(both.B.In.Parts) != 0 || len(both.ToB) != 0 || !slices.Equal(both.ToA[2:], []impl.Seg{segOf(ack, 5006, 1007, 294, "")}) {
		t.Errorf("then the first one: %s", shownPair(both))
	}
	a := impl.PairDo(p, op(impl.PairGiveA, 0))
	if a.A.In.Ready != "three" || len(a.ToA) != 0 || !slices.Equal(a.ToB[2:], []impl.Seg{segOf(ack, 1007, 5006, 295, "")}) {
		t.Errorf("to A: %s", shownPair(a))
	}
	// What A sends at once for what came stands ahead of what it sends at last.
	asked, _ := impl.PairStart(1000, 5000, 300)
	stray := but(asked, func(p *impl.Pair) { p.ToB, p.ToA = nil, []impl.Seg{segOf(ack, 9, 77, 5, "")} })
	if got := impl.PairDo(stray, op(impl.PairGiveA, 0)); !slices.Equal(got.ToB, []impl.Seg{{Seq: 77, Flags: rst}}) || len(got.ToA) != 0 {
		t.Errorf("of another line: %s", shownPair(got))
	}
}

// heardBy is a B that has just been asked by a segment.
func heardBy(s impl.Seg, iss uint32, room, now int) impl.Conn {
	c := startedBy(iss, room, now)
	c.State, c.In.Next, c.Wnd, c.WndSeq = impl.ConnHeard, s.Seq+1, s.Win, s.Seq
	return c
}

func TestWhoWasNeverHeardIsAsked(t *testing.T) {
	for _, iss := range startWords {
		for _, room := range startRooms {
			for _, now := range startTicks {
				for _, win := range []int{0, 1, 300, topWin} {
					asks := impl.Seg{From: 3, To: -4, Seq: 77 - iss, Ack: 99, Flags: syn, Win: win, Mss: 7}
					lone := but(loneIn(3), func(p *impl.Pair) {
						p.IssB, p.Room, p.Now, p.ToA, p.ToB = iss, room, now, numbered(2), []impl.Seg{asks}
						p.A = with(openEnd(), func(c *impl.Conn) { c.Nxt, c.Max, c.Wnd = 1251, 1251, 0 })
					})
					want := but(lone, func(p *impl.Pair) {
						p.Heard, p.B, p.ToB = true, heardBy(asks, iss, room, now), nil
						p.ToA = append(p.ToA, impl.Seg{Seq: iss, Ack: asks.Seq + 1, Flags: syn + ack, Win: room, Mss: 100})
					})
					samePair(t, "asked", impl.PairDo(lone, op(impl.PairGiveB, 0)), want)
				}
			}
		}
	}
}

// What doesn't ask is lost on who was never heard.
func TestWhoWasNeverHeardHearsNothingElse(t *testing.T) {
	list := append(strange(), segOf(syn, 5, 0, -1, ""), segOf(syn, 5, 0, topWin+1, ""), segOf(syn, 5, 0, 300, "x"))
	for flags := range 32 {
		if flags != syn {
			list = append(list, segOf(flags, 1000, 5001, 300, ""), segOf(flags, 1000, 5001, 300, "data"))
		}
	}
	for _, s := range list {
		asked, _ := impl.PairStart(1000, 5000, 300)
		p := but(asked, func(p *impl.Pair) { p.ToB = append([]impl.Seg{s}, p.ToB...) })
		got := impl.PairDo(p, op(impl.PairGiveB, 0))
		samePair(t, "doesn't ask: "+shownSeg(s), got, asked)
		if got = impl.PairDo(got, op(impl.PairGiveB, 0)); !got.Heard || got.B.State != impl.ConnHeard {
			t.Errorf("asked behind %s: %s", shownSeg(s), shownPair(got))
		}
	}
}

// Once it was heard, who is asked is no new end, whatever became of it.
func TestWhoWasHeardIsNotAskedAnew(t *testing.T) {
	for _, state := range everyState {
		for _, asks := range []impl.Seg{{Seq: 1000, Flags: syn, Win: 300, Mss: 100}, {Seq: 1005, Flags: syn, Win: 300, Mss: 100}, {Seq: 77, Flags: syn, Win: 5}} {
			p := but(pairIn(3, state), func(p *impl.Pair) { p.ToB, p.ToA = []impl.Seg{asks}, nil })
			got := does(t, p, op(impl.PairGiveB, 0))
			if !got.Heard || got.B.State != state && state != impl.ConnAsked || got.B.Iss != p.B.Iss || state != impl.ConnAsked && got.B.In.Next != p.B.In.Next {
				t.Errorf("asked in state %d: %s", state, shownPair(got))
			}
			if state == impl.ConnGone && (!equalConns(got.B, p.B) || len(got.ToA) != 0) {
				t.Errorf("asked who is gone: %s", shownPair(got))
			}
		}
	}
	twice, _ := impl.PairStart(1000, 5000, 300)
	twice = impl.PairRun(twice, []impl.PairOp{op(impl.PairTwiceB, 0), op(impl.PairGiveB, 0), op(impl.PairGiveB, 0)})
	if !twice.Heard || twice.B.State != impl.ConnHeard || !slices.Equal(twice.ToA, []impl.Seg{{Seq: 5000, Ack: 1001, Flags: syn + ack, Win: 300, Mss: 100}, segOf(ack, 5001, 1001, 300, "")}) {
		t.Errorf("asked twice: %s", shownPair(twice))
	}
}

// Who was never heard writes, reads, closes and gives up nothing; all else is as with one who was.
func TestWhoWasNeverHeardDoesNothing(t *testing.T) {
	for _, state := range everyState {
		// What A may send was sent, so that nothing but the op can do anything.
		p := impl.PairDo(loneIn(state), op(-1, 0))
		for _, o := range []impl.PairOp{
			writes(impl.PairWriteB, ""), writes(impl.PairWriteB, "text"), op(impl.PairReadB, 0), op(impl.PairReadB, 5), op(impl.PairReadB, -1), op(impl.PairCloseB, 0), op(impl.PairAbortB, 0),
		} {
			samePair(t, fmt.Sprint("kind ", o.Kind), impl.PairDo(p, o), p)
			ready := but(p, func(p *impl.Pair) { p.B = with(otherEnd(impl.ConnGone), func(c *impl.Conn) { c.In.Ready = "bytes" }) })
			samePair(t, fmt.Sprint("kind ", o.Kind, " of what is there"), impl.PairDo(ready, o), ready)
		}
		for _, o := range []impl.PairOp{op(impl.PairDropB, 1), op(impl.PairDropA, 1), op(impl.PairTwiceB, 1), op(impl.PairTwiceA, 1), op(impl.PairTick, 1), op(impl.PairGiveB, 0)} {
			if got := does(t, p, o); equalPairs(got, p) || got.Heard {
				t.Errorf("kind %d: %s", o.Kind, shownPair(got))
			}
		}
		if got := does(t, p, op(impl.PairGiveA, 1)); len(got.ToA) != len(p.ToA)-1 {
			t.Errorf("to A: %s", shownPair(got))
		}
	}
	p := impl.PairDo(but(loneIn(3), func(p *impl.Pair) { p.A.In.Ready = "ready" }), op(-1, 0))
	got := impl.PairRun(p, []impl.PairOp{writes(impl.PairWriteA, "more"), op(impl.PairReadA, 2), op(impl.PairCloseA, 0)})
	if got.WroteA != "A wrotemore" || got.GotA != "A got itre" || !got.A.Fin || got.Heard {
		t.Errorf("A does what it does: %s", shownPair(got))
	}
	if got = impl.PairDo(got, op(impl.PairAbortA, 0)); got.A.End != impl.EndAborted {
		t.Errorf("A gives up: %s", shownPair(got))
	}
}

// Of what goes on a way at once, what would be one more than MaxWay is lost: the last ones of it.
func TestWhatIsLostOnAFullWay(t *testing.T) {
	for _, side := range []int{0, 1} {
		for many := topWay - 5; many <= topWay; many++ {
			p := but(opened(t, 1000, 5000, 500), func(p *impl.Pair) {
				p.ToA, p.ToB, p.A.Cong.Wnd, p.B.Cong.Wnd = numbered(many), numbered(many), topWnd, topWnd
			})
			text := bytesFrom(8, 350)
			got := does(t, p, writes(side, text))
			way, other := got.ToB, got.ToA
			end := got.A
			if side == 1 {
				way, other, end = got.ToA, got.ToB, got.B
			}
			sent := []string{}
			for _, s := range way[many:] {
				sent = append(sent, s.Data)
			}
			if want := []string{text[:100], text[100:200], text[200:300], text[300:]}[:min(4, topWay-many)]; !slices.Equal(sent, want) || !slices.Equal(other, numbered(many)) || !slices.Equal(way[:many], numbered(many)) {
				t.Errorf("side %d, %d under way: %s", side, many, shownPair(got))
			}
			// Who sent them knows nothing of the loss.
			if end.Nxt != end.Una+350 || end.Out.Data != text || end.Again == 0 {
				t.Errorf("side %d, %d under way: %s", side, many, shownConn(end))
			}
		}
	}
}

func TestOpsOnAFullWay(t *testing.T) {
	p := but(opened(t, 1000, 5000, 500), func(p *impl.Pair) { p.ToA, p.ToB = numbered(topWay), numbered(topWay) })
	for _, n := range []int{0, 5, topWay - 1} {
		samePair(t, "twice to A", impl.PairDo(p, op(impl.PairTwiceA, n)), p)
		samePair(t, "twice to B", impl.PairDo(p, op(impl.PairTwiceB, n)), p)
		one := but(p, func(p *impl.Pair) { p.ToA, p.ToB = numbered(topWay-1), numbered(topWay-1) })
		if got := impl.PairRun(one, []impl.PairOp{op(impl.PairTwiceA, n), op(impl.PairTwiceB, n)}); len(got.ToA) != topWay || len(got.ToB) != topWay {
			t.Errorf("the last place: %s", shownPair(got))
		}
	}
	gave := does(t, p, op(impl.PairAbortA, 0))
	if !slices.Equal(gave.ToB, p.ToB) || gave.A.End != impl.EndAborted {
		t.Errorf("the reset is lost: %s", shownPair(gave))
	}
	gave = does(t, p, op(impl.PairAbortB, 0))
	if !slices.Equal(gave.ToA, p.ToA) || gave.B.End != impl.EndAborted {
		t.Errorf("the reset is lost: %s", shownPair(gave))
	}
	due := but(p, func(p *impl.Pair) {
		p.A, p.B = dueEnd(impl.ConnOpen), movedEnd(dueEnd(impl.ConnOpen), 4000, round-4000)
	})
	ticked := does(t, due, op(impl.PairTick, 200))
	if !slices.Equal(ticked.ToA, p.ToA) || !slices.Equal(ticked.ToB, p.ToB) || ticked.A.Tries != 3 || ticked.B.Tries != 3 {
		t.Errorf("what is due is lost: %s", shownPair(ticked))
	}
	// The one that comes leaves its place, but on the other way; the answer is lost there.
	for _, to := range []int{0, 1} {
		came := but(p, func(p *impl.Pair) {
			p.ToA[7], p.ToB[7] = segOf(ack, 5001, 1001, 9, "A"), segOf(ack, 1001, 5001, 9, "B")
		})
		got := does(t, came, op([]int{impl.PairGiveB, impl.PairGiveA}[to], 7))
		if len(got.ToB)+len(got.ToA) != 2*topWay-1 || got.A.In.Ready+got.B.In.Ready != []string{"B", "A"}[to] || got.A.Owe || got.B.Owe {
			t.Errorf("came: %s", shownPair(got))
		}
	}
	asks := but(loneIn(3), func(p *impl.Pair) { p.ToA, p.ToB = numbered(topWay), []impl.Seg{segOf(syn, 5, 0, 9, "")} })
	if got := does(t, asks, op(impl.PairGiveB, 0)); !got.Heard || got.B.State != impl.ConnHeard || !slices.Equal(got.ToA, numbered(topWay)) {
		t.Errorf("the answer is lost: %s", shownPair(got))
	}
}

// What is sent at last stands behind what an op sends, and has the first claim on no place.
func TestWhatIsSentAtLast(t *testing.T) {
	p := but(opened(t, 1000, 5000, 500), func(p *impl.Pair) {
		p.A.Owe, p.B.Owe, p.ToA, p.ToB = true, true, []impl.Seg{segOf(rst+ack, 1, 1, 0, "")}, []impl.Seg{segOf(rst+ack, 1, 1, 0, "")}
	})
	got := impl.PairDo(p, op(impl.PairTwiceB, 0))
	if want := []impl.Seg{p.ToB[0], p.ToB[0], segOf(ack, 1001, 5001, 500, "")}; !slices.Equal(got.ToB, want) || !slices.Equal(got.ToA, []impl.Seg{p.ToA[0], segOf(ack, 5001, 1001, 500, "")}) {
		t.Errorf("sent at last: %s", shownPair(got))
	}
	full := but(p, func(p *impl.Pair) { p.ToB, p.ToA = numbered(topWay-1), numbered(topWay-1) })
	got = impl.PairDo(full, op(impl.PairTwiceB, 4))
	if len(got.ToB) != topWay || got.ToB[topWay-1].From != 4 || got.A.Owe || len(got.ToA) != topWay || got.ToA[topWay-1].Flags != ack {
		t.Errorf("sent at last, and lost: %s", shownPair(got))
	}
	// It is sent at the tick that it is then.
	late := but(opened(t, 1000, 5000, 500), func(p *impl.Pair) { p.A.Out.Data, p.B.Out.Data = "late", "later" })
	got = impl.PairDo(late, op(impl.PairTick, 7))
	if got.A.TimeAt != 7 || got.B.TimeAt != 7 || got.A.Again != 9 || got.B.Again != 9 || len(got.ToA) != 1 || len(got.ToB) != 1 {
		t.Errorf("sent at 7: %s", shownPair(got))
	}
}

// pairOps are so many ops of all kinds, at numbers near and far.
func pairOps(seed, many int) []impl.PairOp {
	words := spread(seed*31 + 3*many)[seed*31:]
	out := []impl.PairOp{}
	for i := range many {
		w := words[3*i:]
		o := impl.PairOp{Kind: int(w[0]>>8) % 13, N: int(w[1]>>8) % 9, Data: bytesFrom(int(w[2]%50), int(w[2]>>8)%250)}
		switch w[0] % 16 {
		case 0:
			o.Kind = int(w[1]>>8)%30 - 5
		case 1:
			o.N = -o.N
		case 2, 3:
			o.N = int(w[1]>>8) % 600
		case 4, 5, 6, 7:
			o.Kind = impl.PairGiveB + int(w[0]>>8)%2
		}
		out = append(out, o)
	}
	return out
}

func TestPairRunIsPairDoOfEach(t *testing.T) {
	for seed := range 12 {
		start, _ := impl.PairStart(uint32(seed)*400000000, uint32(round-1-seed), 100*seed+1)
		for _, p := range []impl.Pair{start, pairIn(seed%10, 9-seed%10), loneIn(seed % 10), but(pairIn(3, 3), func(p *impl.Pair) { p.Now = topTick + 1 })} {
			for _, many := range []int{0, 1, 2, 150} {
				ops := pairOps(seed, many)
				was, want := slices.Clone(ops), but(p)
				for _, o := range ops {
					want = pairBy(want, o)
				}
				arg := but(p)
				samePair(t, fmt.Sprint(many, " ops"), impl.PairRun(arg, ops), want)
				samePair(t, "written into", arg, p)
				if !slices.Equal(ops, was) {
					t.Fatal("PairRun writes into its ops")
				}
			}
		}
	}
}

func TestPairRunAtItsLimit(t *testing.T) {
	p := opened(t, 1000, 5000, 300)
	for _, many := range []int{0, 1, topPairOps - 1, topPairOps, topPairOps + 1, topPairOps + 2, 3 * topPairOps} {
		ops := []impl.PairOp{}
		for range many {
			ops = append(ops, op(impl.PairTick, 3))
		}
		got := impl.PairRun(p, ops)
		if many > topPairOps {
			samePair(t, fmt.Sprint(many, " ops"), got, p)
		} else if got.Now != 3*many {
			t.Errorf("%d ops: %d", many, got.Now)
		}
	}
	samePair(t, "no ops", impl.PairRun(p, nil), p)
	owing := but(p, func(p *impl.Pair) { p.A.Owe = true })
	samePair(t, "no ops, owing", impl.PairRun(owing, []impl.PairOp{}), owing)
}

func TestPairCalmIsItsSteps(t *testing.T) {
	for seed := range 12 {
		start, _ := impl.PairStart(uint32(seed)*400000000, uint32(round-1-seed), 100*seed+1)
		ran := impl.PairRun(start, pairOps(seed, 100))
		for _, p := range []impl.Pair{start, ran, pairIn(seed%10, 9-seed%10), loneIn(seed % 10)} {
			want := but(p)
			for ticks := range 30 {
				arg := but(p)
				samePair(t, fmt.Sprint(ticks, " ticks"), impl.PairCalm(arg, ticks), want)
				samePair(t, "written into", arg, p)
				want = calmedBy(want)
			}
		}
	}
}

func TestPairCalmAtItsLimits(t *testing.T) {
	p := impl.PairRun(opened(t, 1000, 5000, 300), []impl.PairOp{writes(impl.PairWriteA, "hello"), writes(impl.PairWriteB, "you too")})
	for _, ticks := range []int{0, 1, 2, topCalm - 1, topCalm} {
		got := impl.PairCalm(p, ticks)
		if got.Now != ticks || ticks > 0 && (got.GotB != "hello" || got.GotA != "you too" || !impl.PairOver(got)) {
			t.Errorf("%d ticks: %s", ticks, shownPair(got))
		}
	}
	samePair(t, "no ticks", impl.PairCalm(p, 0), p)
	for _, ticks := range badCalms {
		samePair(t, fmt.Sprint(ticks, " ticks"), impl.PairCalm(p, ticks), p)
	}
	late := but(p, func(p *impl.Pair) { p.Now = topTick - 2 })
	if got := impl.PairCalm(late, 5); got.Now != topTick || got.GotB != "hello" {
		t.Errorf("up to the last tick: %s", shownPair(got))
	}
}

// trickling has an A that is told of no more than one byte of room, however much there is: each byte takes two gives.
func trickling(t *testing.T, many int) impl.Pair {
	return impl.PairDo(but(opened(t, 1000, 5000, 4000), func(p *impl.Pair) {
		p.A.Wnd, p.A.WndSeq, p.A.Out.Data = 1, p.A.WndSeq+1000, bytesFrom(7, many)
	}), op(-1, 0))
}

// Within one tick at most 400 come.
func TestPairCalmGivesSoManyInATick(t *testing.T) {
	for _, many := range []int{1, 198, 199, 200, 201, 202, 300, 401, 1000} {
		p := trickling(t, many)
		if len(p.ToB) != 1 || len(p.ToB[0].Data) != 1 {
			t.Fatalf("trickling: %s", shownPair(p))
		}
		for ticks := 1; ticks < 5; ticks++ {
			got := impl.PairCalm(p, ticks)
			if want := bytesFrom(7, many)[:min(many, 200*ticks)]; got.GotB != want || len(got.ToB) != min(1, many-len(want)) || got.Now != ticks {
				t.Errorf("%d of %d bytes came in %d ticks: %s", len(got.GotB), many, ticks, shownPair(got))
			}
		}
	}
	// With one more to A at first, the tick is over when A's segment is still under way there.
	p := trickling(t, 1000)
	p.ToA = numbered(1)
	if got := impl.PairCalm(p, 1); len(got.GotB) != 200 || len(got.ToA) != 1 || len(got.ToB) != 0 {
		t.Errorf("an odd one: %s", shownPair(got))
	}
}

// As long as something is on its way to B, nothing comes to A; the oldest comes first; then both read, and the tick passes.
func TestPairCalmByHand(t *testing.T) {
	p := opened(t, 1000, 5000, 300)
	p = impl.PairRun(p, []impl.PairOp{writes(impl.PairWriteA, "first"), writes(impl.PairWriteA, "second"), writes(impl.PairWriteB, "answer")})
	got := impl.PairCalm(p, 1)
	if got.GotB != "firstsecond" || got.GotA != "answer" || got.B.In.Ready+got.A.In.Ready != "" || got.Now != 1 || !impl.PairOver(got) {
		t.Errorf("calm: %s", shownPair(got))
	}
	// B is reset by the oldest to it and so hears nothing behind it; what it read before goes to A.
	reset := but(p, func(p *impl.Pair) { p.ToB = slices.Insert(p.ToB, 1, segOf(rst, 1006, 0, 0, "")) })
	got = impl.PairCalm(reset, 1)
	if got.GotB != "first" || got.B.End != impl.EndReset || got.GotA != "answer" {
		t.Errorf("the oldest first: %s", shownPair(got))
	}
	// What B answers is lost on the full way to A, from which nothing comes as long as something is on its way to B.
	turn := but(p, func(p *impl.Pair) { p.ToA, p.ToB = numbered(topWay), p.ToB[:1] })
	got = impl.PairCalm(turn, 1)
	if got.GotB != "first" || got.A.Una != 1001 || len(got.ToA)+len(got.ToB) != 0 {
		t.Errorf("to B first: %s", shownPair(got))
	}
	// What is read tells of room, which goes out before the tick, and comes in the next one.
	full := but(p, func(p *impl.Pair) {
		p.ToA, p.ToB, p.B.In.Ready = nil, nil, bytesFrom(1, 250)
	})
	if got = impl.PairCalm(full, 1); !slices.Equal(got.ToA, []impl.Seg{segOf(ack, 5007, 1001, 300, "")}) || len(got.GotB) != 250 {
		t.Errorf("read: %s", shownPair(got))
	}
	// As much as an end can have is read at once.
	most := but(opened(t, 1000, 5000, topBuf), func(p *impl.Pair) { p.A.In.Ready, p.B.In.Ready = bytesFrom(1, topBuf), bytesFrom(2, topBuf) })
	if got = impl.PairCalm(most, 1); got.GotA != bytesFrom(1, topBuf) || got.GotB != bytesFrom(2, topBuf) {
		t.Errorf("%d and %d bytes read", len(got.GotA), len(got.GotB))
	}
}

func TestPairOver(t *testing.T) {
	cases := map[string]func(*impl.Pair, int){
		"A.Again": func(p *impl.Pair, n int) { p.A.Again = n }, "A.Probe": func(p *impl.Pair, n int) { p.A.Probe = n }, "A.Rest": func(p *impl.Pair, n int) { p.A.Rest = n },
		"B.Again": func(p *impl.Pair, n int) { p.B.Again = n }, "B.Probe": func(p *impl.Pair, n int) { p.B.Probe = n }, "B.Rest": func(p *impl.Pair, n int) { p.B.Rest = n },
	}
	for _, base := range append(everyPair(), impl.Pair{}) {
		over := but(base, func(p *impl.Pair) {
			p.ToA, p.ToB = nil, []impl.Seg{}
			for _, set := range cases {
				set(p, 0)
			}
		})
		if !impl.PairOver(over) {
			t.Errorf("not over: %s", shownPair(over))
		}
		for name, set := range cases {
			for _, n := range []int{1, nowTick, topDue, topDue + 1, -1, math.MinInt, math.MaxInt} {
				if p := but(over, func(p *impl.Pair) { set(p, n) }); impl.PairOver(p) {
					t.Errorf("over with %s %d", name, n)
				}
			}
		}
		for _, n := range []int{1, 2, topWay, topWay + 1} {
			if impl.PairOver(but(over, func(p *impl.Pair) { p.ToA = numbered(n) })) || impl.PairOver(but(over, func(p *impl.Pair) { p.ToB = numbered(n) })) {
				t.Errorf("over with %d under way", n)
			}
		}
		if impl.PairOver(but(over, func(p *impl.Pair) { p.ToA = []impl.Seg{{}} })) || impl.PairOver(but(over, func(p *impl.Pair) { p.ToB = []impl.Seg{{}} })) {
			t.Error("over with the zero segment under way")
		}
	}
	start, _ := impl.PairStart(1000, 5000, 300)
	if impl.PairOver(start) || impl.PairOver(impl.PairDo(start, op(impl.PairDropB, 0))) || !impl.PairOver(opened(t, 1000, 5000, 300)) {
		t.Error("asking")
	}
}

// roomyPair is a pair in memory of its own, with spare room behind each list; whole are its lists with the room.
func roomyPair(p impl.Pair) (impl.Pair, [][]impl.Seg, [][]impl.Part) {
	partsA, partsB, ways := []impl.Part{}, []impl.Part{}, [][]impl.Seg{}
	p.A, partsA = roomyEnd(p.A)
	p.B, partsB = roomyEnd(p.B)
	for _, way := range []*[]impl.Seg{&p.ToA, &p.ToB} {
		whole := []impl.Seg{}
		for _, s := range *way {
			s.Data = heap(s.Data)
			whole = append(whole, s)
		}
		many := len(whole)
		whole = append(whole, numbered(5)...)
		*way = whole[:many]
		ways = append(ways, whole)
	}
	for _, s := range []*string{&p.WroteA, &p.WroteB, &p.GotA, &p.GotB} {
		*s = heap(*s)
	}
	return p, ways, [][]impl.Part{partsA, partsB}
}

// textsOfPair are all texts that a pair holds.
func textsOfPair(p impl.Pair) []string {
	out := append(allTexts(p.A), allTexts(p.B)...)
	for _, s := range append(slices.Clone(p.ToA), p.ToB...) {
		out = append(out, s.Data)
	}
	return append(out, p.WroteA, p.WroteB, p.GotA, p.GotB)
}

// scribble writes all over the lists of a pair, and over the room behind them.
func scribble(p impl.Pair) {
	for _, way := range [][]impl.Seg{p.ToA[:cap(p.ToA)], p.ToB[:cap(p.ToB)]} {
		for i := range way {
			way[i] = segOf(1, 2, 3, 4, "mine")
		}
	}
	for _, parts := range [][]impl.Part{p.A.In.Parts[:cap(p.A.In.Parts)], p.B.In.Parts[:cap(p.B.In.Parts)]} {
		for i := range parts {
			parts[i] = part(9, "mine")
		}
	}
}

// isNew asks that an answer shares nothing with an argument, nor one of its lists with another.
func isNew(t *testing.T, what string, got, arg impl.Pair, more ...string) {
	t.Helper()
	mine, others := textsOfPair(got), append(textsOfPair(arg), more...)
	for i, m := range mine {
		for _, o := range others {
			if sharesText(m, o) {
				t.Fatalf("%s shares %s with an argument", what, short(m))
			}
		}
		for _, o := range mine[:i] {
			if sharesText(m, o) {
				t.Fatalf("%s has %s twice", what, short(m))
			}
		}
	}
}

// sharesNoList asks that whoever writes over one way of an answer, or the room behind it, finds the other as it was.
func sharesNoList(t *testing.T, what string, p impl.Pair) {
	t.Helper()
	for i, way := range [][]impl.Seg{p.ToA, p.ToB} {
		other := [][]impl.Seg{p.ToB, p.ToA}[i]
		was := slices.Clone(other)
		for j := range way[:cap(way)] {
			way[:cap(way)][j] = segOf(1, 2, 3, 4, "mine")
		}
		if !slices.Equal(other, was) {
			t.Fatalf("%s: both ways are one", what)
		}
	}
}

func TestPairsAreNewMemory(t *testing.T) {
	list := append(everyPair(), impl.Pair{}, opened(t, 1000, 5000, 300), but(pairIn(3, 3), func(p *impl.Pair) { p.Room = 0 }), but(pairIn(3, 3), func(p *impl.Pair) { p.ToB = numbered(topWay + 1) }))
	list = append(list, but(pairIn(3, 3), func(p *impl.Pair) {
		p.A.In.Ready, p.B.In.Ready, p.WroteA, p.WroteB, p.GotA, p.GotB = "ready for A", "ready for B", "", "", "", ""
		p.A.In.Parts, p.B.In.Parts = []impl.Part{part(p.A.In.Next+40, "ahead")}, []impl.Part{part(p.B.In.Next+40, "ahead")}
		p.A.Out.Data, p.B.Out.Data, p.A.Nxt, p.B.Nxt, p.A.Max, p.B.Max = "", "", p.A.Una, p.B.Una, p.A.Una, p.B.Una
	}))
	for _, plain := range list {
		arg, ways, parts := roomyPair(plain)
		text := heap("some text to write")
		answers := map[string]impl.Pair{}
		for _, kind := range append(slices.Clone(pairKinds), -1) {
			for _, n := range []int{0, 1, 2, 7} {
				answers[fmt.Sprintf("PairDo of kind %d at %d", kind, n)] = impl.PairDo(arg, impl.PairOp{Kind: kind, N: n, Data: text})
			}
		}
		answers["PairRun"] = impl.PairRun(arg, []impl.PairOp{writes(0, text), writes(1, text), op(7, 1), op(8, 1), op(11, 0), op(2, 5), op(3, 5)})
		answers["PairRun of nothing"] = impl.PairRun(arg, nil)
		answers["PairRun of too many"] = impl.PairRun(arg, make([]impl.PairOp, topPairOps+1))
		answers["PairCalm"] = impl.PairCalm(arg, 2)
		answers["PairCalm of no ticks"] = impl.PairCalm(arg, -1)
		impl.PairOver(arg)
		wasWays, wasParts := [][]impl.Seg{slices.Clone(ways[0]), slices.Clone(ways[1])}, [][]impl.Part{slices.Clone(parts[0]), slices.Clone(parts[1])}
		for what, got := range answers {
			isNew(t, what, got, arg, text)
			sharesNoList(t, what, got)
			scribble(got)
		}
		if !reflect.DeepEqual(ways, wasWays) || !reflect.DeepEqual(parts, wasParts) || !equalPairs(arg, plain) || text != "some text to write" {
			t.Fatalf("something writes into its argument, or shares its list: %s", shownPair(plain))
		}
		for i, way := range ways {
			if many := len([][]impl.Seg{plain.ToA, plain.ToB}[i]); !slices.Equal(way[many:], numbered(5)) {
				t.Fatalf("something writes behind a list of %s", shownPair(plain))
			}
		}
	}
}

// Nothing is kept between calls.
func TestPairsKeepNothing(t *testing.T) {
	for _, p := range []impl.Pair{pairIn(3, 3), loneIn(1), opened(t, 1000, 5000, 300)} {
		ops := pairOps(5, 80)
		first, calm := impl.PairRun(p, ops), impl.PairCalm(p, 3)
		impl.PairRun(pairIn(4, 6), pairOps(6, 80))
		samePair(t, "once more", impl.PairRun(p, ops), first)
		samePair(t, "calm once more", impl.PairCalm(p, 3), calm)
	}
}

func isBeginning(a, b string) bool { return strings.HasPrefix(b, a) }

// edgeOf is the place behind the last byte that an end may take.
func edgeOf(c impl.Conn) uint32 { return c.In.Next + uint32(c.In.Room-len(c.In.Ready)) }

// keepsItsPromise asks for what P12 says of every step, from one pair to the next.
func keepsItsPromise(t *testing.T, was, p impl.Pair, o impl.PairOp) {
	t.Helper()
	fails := func(what string) {
		t.Helper()
		t.Fatalf("%s: op %d %d, of %s\n to %s", what, o.Kind, o.N, shownPair(was), shownPair(p))
	}
	if !soundBy(p) {
		fails("not sound")
	}
	if !isBeginning(p.GotB, p.WroteA) || !isBeginning(p.GotA, p.WroteB) {
		fails("what is read is not what was written")
	}
	// What an end doesn't keep any more may be forgotten.
	if len(p.WroteA)-len(p.A.Out.Data) > len(p.GotB)+len(p.B.In.Ready) || len(p.WroteB)-len(p.B.Out.Data) > len(p.GotA)+len(p.A.In.Ready) {
		fails("what was forgotten has not come")
	}
	if !isBeginning(p.GotB+p.B.In.Ready, p.WroteA) || !isBeginning(p.GotA+p.A.In.Ready, p.WroteB) {
		fails("what may be read is not what was written")
	}
	if was.Heard && isAhead(edgeOf(was.B), edgeOf(p.B)) {
		fails("the edge of B's window goes back")
	}
	// Who asked has no window until it knows where the other end begins.
	if was.A.State != impl.ConnAsked && isAhead(edgeOf(was.A), edgeOf(p.A)) {
		fails("the edge of A's window goes back")
	}
	if was.Heard && !p.Heard || p.Now < was.Now || !isBeginning(was.GotA, p.GotA) || !isBeginning(was.GotB, p.GotB) || !isBeginning(was.WroteA, p.WroteA) || !isBeginning(was.WroteB, p.WroteB) {
		fails("something is taken back")
	}
}

// badDay is what befalls a line at one step: how often things are lost, doubled or turned around hangs on the day.
func badDay(day int, w []uint32, closing bool) impl.PairOp {
	n, side := int(w[1]>>8), int(w[1]%2)
	roll := int(w[0]>>8) % 100
	losses := []int{0, 4, 10, 25, 45}[day%5]
	switch {
	case roll < losses:
		return op(impl.PairDropB+side, n%topWay)
	case roll < losses+losses/2:
		return op(impl.PairTwiceB+side, n%topWay)
	case roll < 2*losses:
		return op(impl.PairGiveB+side, n%topWay)
	case roll < 93 && roll >= 90 && closing:
		return op(impl.PairCloseA+side, 0)
	case roll >= 93:
		return op(impl.PairTick, n%[]int{2, 5, 9, 40, 700}[day/5%5])
	}
	switch w[2] >> 8 % 8 {
	case 0, 1:
		return writes(impl.PairWriteA+side, bytesFrom(int(w[2]%50), n%400))
	case 2:
		return op(impl.PairReadA+side, n%300)
	}
	return op(impl.PairGiveB+side, 0)
}

func stands(c impl.Conn) bool { return c.State > impl.ConnHeard }

// inStates does an op and asks for the states of both ends then.
func inStates(t *testing.T, p impl.Pair, o impl.PairOp, a, b int) impl.Pair {
	t.Helper()
	got := does(t, p, o)
	keepsItsPromise(t, p, got, o)
	if got.A.State != a || got.B.State != b {
		t.Fatalf("kind %d: states %d and %d, not %d and %d: %s", o.Kind, got.A.State, got.B.State, a, b, shownPair(got))
	}
	return got
}

// P12, over good ways: from asking to parting, step by step.
func TestALineFromAskingToParting(t *testing.T) {
	for _, iss := range [][2]uint32{{1000, 5000}, {round - 1, round - 1}, {round - 3, round - 9}, {halfWay - 1, 0}} {
		p, _ := impl.PairStart(iss[0], iss[1], 300)
		p = inStates(t, p, writes(impl.PairWriteA, "early"), impl.ConnAsked, impl.ConnGone)
		p = inStates(t, p, op(impl.PairGiveB, 0), impl.ConnAsked, impl.ConnHeard)
		p = inStates(t, p, writes(impl.PairWriteB, "answer"), impl.ConnAsked, impl.ConnHeard)
		p = inStates(t, p, op(impl.PairGiveA, 0), impl.ConnOpen, impl.ConnHeard)
		p = inStates(t, p, op(impl.PairGiveB, 0), impl.ConnOpen, impl.ConnOpen)
		p = inStates(t, p, op(impl.PairReadB, 300), impl.ConnOpen, impl.ConnOpen)
		p = inStates(t, p, op(impl.PairCloseA, 0), impl.ConnFin1, impl.ConnOpen)
		p = inStates(t, p, op(impl.PairGiveB, 0), impl.ConnFin1, impl.ConnHalf)
		p = inStates(t, p, op(impl.PairGiveA, 0), impl.ConnFin1, impl.ConnHalf)
		p = inStates(t, p, op(impl.PairGiveA, 0), impl.ConnFin2, impl.ConnHalf)
		p = inStates(t, p, op(impl.PairCloseB, 0), impl.ConnFin2, impl.ConnLast)
		p = inStates(t, p, op(impl.PairGiveA, 0), impl.ConnRest, impl.ConnLast)
		p = inStates(t, p, op(impl.PairGiveB, 0), impl.ConnRest, impl.ConnLast)
		p = inStates(t, p, op(impl.PairGiveB, 0), impl.ConnRest, impl.ConnGone)
		p = inStates(t, p, op(impl.PairReadA, 300), impl.ConnRest, impl.ConnGone)
		p = inStates(t, p, op(impl.PairTick, restFor-1), impl.ConnRest, impl.ConnGone)
		p = inStates(t, p, op(impl.PairTick, 1), impl.ConnGone, impl.ConnGone)
		if p.GotB != "early" || p.GotA != "answer" || gaveUp(p) || !impl.PairOver(p) || p.Now != restFor {
			t.Errorf("in the end: %s", shownPair(p))
		}
	}
}

// P12, over good ways: whatever the rooms and however much is written, in the calm alone.
func TestLinesOverGoodWays(t *testing.T) {
	for _, room := range []int{1, 2, 99, 100, 101, 300, topBuf} {
		for _, closing := range []bool{false, true} {
			p, _ := impl.PairStart(round-500, round-20, room)
			for i := range 8 {
				ops := []impl.PairOp{writes(impl.PairWriteA, bytesFrom(i, 2500)), writes(impl.PairWriteB, bytesFrom(i+9, 300*i))}
				if closing && i == 7 {
					ops = append(ops, op(impl.PairCloseB, 0), op(impl.PairCloseA, 0))
				}
				p = impl.PairCalm(impl.PairRun(p, ops), 200)
			}
			if len(p.WroteA) != 8*min(room, 2500) || p.GotB != p.WroteA || p.GotA != p.WroteB || len(p.WroteB) < 7*min(room, 300) || gaveUp(p) {
				t.Errorf("room %d: %s", room, shownPair(p))
			}
			if gone := p.A.State == impl.ConnGone && p.B.State == impl.ConnGone; gone != closing || !impl.PairOver(p) {
				t.Errorf("room %d: %s", room, shownPair(p))
			}
			if !closing {
				parts(t, p, map[string]int{})
			}
		}
	}
}

// P12, over ways that lose, double and turn around: step by step, and then in the calm.
func TestLinesOverBadWays(t *testing.T) {
	seen := map[string]int{}
	states := map[int]int{}
	for seed := range 250 {
		words := spread(seed*89 + 3*500 + 3)[seed*89:]
		room := []int{1, 30, 99, 150, 300, 1000, topBuf}[seed%7]
		p, _ := impl.PairStart([]uint32{1000, round - 1, round - 300, halfWay - 50}[seed%4], []uint32{round - 2, 5000, words[0]}[seed%3], room)
		for i := range 500 {
			o := badDay(seed, words[3*i:], i > 350 && seed%2 == 0)
			if seed%10 == 3 && i == 400 {
				o = op(impl.PairAbortA+seed/10%2, 0)
			}
			got := does(t, p, o)
			keepsItsPromise(t, p, got, o)
			seen["a way is full"] += max(len(got.ToA), len(got.ToB)) / topWay
			p = got
			states[p.A.State]++
			states[p.B.State]++
		}
		p = comesThrough(t, p, seen)
		parts(t, p, seen)
	}
	for what, least := range map[string]int{"everything came": 150, "lines that parted": 60, "a way is full": 50} {
		if seen[what] < least {
			t.Errorf("%s: %d times", what, seen[what])
		}
	}
	for _, state := range everyState {
		if states[state] < 40 {
			t.Errorf("state %d came up %d times", state, states[state])
		}
	}
}

// gaveUp tells whether an end is gone for another reason than that both closed.
func gaveUp(p impl.Pair) bool { return p.A.End != impl.EndNone || p.B.End != impl.EndNone }

// comesThrough asks that everything comes when nothing more is lost.
func comesThrough(t *testing.T, p impl.Pair, seen map[string]int) impl.Pair {
	t.Helper()
	calm := impl.PairCalm(p, topCalm)
	keepsItsPromise(t, p, calm, op(-1, 0))
	if gaveUp(calm) || !calm.Heard {
		return calm
	}
	if calm.GotA != calm.WroteB || calm.GotB != calm.WroteA || len(calm.ToA)+len(calm.ToB) != 0 {
		t.Fatalf("not everything came: %s\n then %s", shownPair(p), shownPair(calm))
	}
	seen["everything came"]++
	return calm
}

// parts asks that both ends of a line that stands are gone when both close.
func parts(t *testing.T, p impl.Pair, seen map[string]int) {
	t.Helper()
	if !stands(p.A) || !stands(p.B) {
		return
	}
	gone := impl.PairCalm(impl.PairRun(p, []impl.PairOp{op(impl.PairCloseA, 0), op(impl.PairCloseB, 0)}), 200)
	if gone.A.State != impl.ConnGone || gone.B.State != impl.ConnGone || gaveUp(gone) || !impl.PairOver(gone) || gone.GotA != gone.WroteB || gone.GotB != gone.WroteA {
		t.Fatalf("not gone: %s\n then %s", shownPair(p), shownPair(gone))
	}
	seen["lines that parted"]++
}
