package tests

import (
	"fmt"
	"math"
	"reflect"
	"slices"
	"testing"

	"loop.example/g00107/impl"
)

const (
	fin  = 1
	syn  = 2
	rst  = 4
	push = 8
	ack  = 16

	topWin    = 65535
	topPlaces = topBuf + 2
	topDue    = 2 * topTick
	topTries  = 10
	restFor   = 60
)

// The ends of the tables below begin at these places, have this room, and it is this tick.
const (
	ownIss   = 1000
	otherIss = 5000
	ownRoom  = 300
	nowTick  = 100
)

var everyState = []int{impl.ConnGone, impl.ConnAsked, impl.ConnHeard, impl.ConnOpen, impl.ConnFin1, impl.ConnFin2, impl.ConnHalf, impl.ConnBoth, impl.ConnLast, impl.ConnRest}

// talking are the states in which all points are gone through.
var talking = everyState[2:]

var farNumbers = []int{-1, -2, -round, math.MinInt, math.MinInt + 1, round, round + 1, math.MaxInt - 1, math.MaxInt}

func segOf(flags int, seq, ack uint32, win int, data string) impl.Seg {
	return impl.Seg{Seq: seq, Ack: ack, Flags: flags, Win: win, Data: data}
}

func askedEnd() impl.Conn {
	return impl.Conn{
		State: impl.ConnAsked, Iss: ownIss, Una: ownIss, Nxt: ownIss + 1, Max: ownIss + 1,
		Out: outAt(ownIss+1, "early", ownRoom), In: inAt(0, "", ownRoom), Rtt: impl.Rtt{Shift: 3}, Cong: growing(200, topWnd, 0),
		Timing: true, TimeSeq: ownIss, TimeAt: 93, Again: 173, Tries: 3,
	}
}

func heardEnd() impl.Conn {
	c := askedEnd()
	c.State, c.In.Next, c.Wnd, c.WndSeq = impl.ConnHeard, otherIss+1, 400, otherIss
	return c
}

// openEnd has sent 200 of its 250 bytes, and times the 101st.
func openEnd() impl.Conn {
	return impl.Conn{
		State: impl.ConnOpen, Iss: ownIss, Una: 1001, Nxt: 1201, Max: 1201, Wnd: 400, WndSeq: 5001, WndAck: 1001,
		Out: outAt(1001, bytesFrom(1, 250), ownRoom), In: inAt(5001, "", ownRoom), Rtt: known(40, 10, 2), Cong: growing(500, topWnd, 1),
		Timing: true, TimeSeq: 1101, TimeAt: 93, Again: 173, Tries: 2,
	}
}

// endIn is an end as it comes into a state, at the place of the byte that it waits for.
func endIn(state int) impl.Conn {
	switch state {
	case impl.ConnAsked:
		return askedEnd()
	case impl.ConnHeard:
		return heardEnd()
	}
	c := openEnd()
	c.State = state
	if slices.Contains([]int{impl.ConnFin1, impl.ConnFin2, impl.ConnBoth, impl.ConnLast, impl.ConnRest}, state) {
		c.Fin, c.FinSent, c.FinSeq, c.Nxt, c.Max = true, true, 1251, 1252, 1252
	}
	if slices.Contains([]int{impl.ConnFin2, impl.ConnRest}, state) {
		c.Una, c.Out, c.Timing, c.Again, c.Tries = 1252, outAt(1251, "", ownRoom), false, 0, 0
	}
	if slices.Contains([]int{impl.ConnHalf, impl.ConnBoth, impl.ConnLast, impl.ConnRest}, state) {
		c.GotFin, c.In.Next = true, 5002
	}
	switch state {
	case impl.ConnRest:
		c.Rest = 130
	case impl.ConnGone:
		c.End, c.Again = impl.EndTired, 0
	}
	return c
}

func with(c impl.Conn, changes ...func(*impl.Conn)) impl.Conn {
	c.In.Parts = slices.Clone(c.In.Parts)
	for _, change := range changes {
		if change != nil {
			change(&c)
		}
	}
	return c
}

func all(changes ...func(*impl.Conn)) func(*impl.Conn) {
	return func(c *impl.Conn) {
		for _, change := range changes {
			change(c)
		}
	}
}

func owes(c *impl.Conn) { c.Owe = true }

func restsFrom(now int) func(*impl.Conn) {
	return func(c *impl.Conn) { c.State, c.Rest = impl.ConnRest, now+restFor }
}

func endsFor(why int) func(*impl.Conn) {
	return func(c *impl.Conn) {
		c.State, c.End, c.Again, c.Probe, c.Rest, c.Owe = impl.ConnGone, why, 0, 0, 0, false
	}
}

func becomes(state int) func(*impl.Conn) { return func(c *impl.Conn) { c.State = state } }

func shownConn(c impl.Conn) string {
	out, in := shownOut(c.Out), shownIn(c.In)
	c.Out, c.In = impl.OutBuf{}, impl.InBuf{}
	return fmt.Sprintf("%+v, Out %s, In %s", c, out, in)
}

func shownSegs(list []impl.Seg) string {
	text := fmt.Sprintf("%d segments", len(list))
	for _, s := range list {
		text += "; " + shownSeg(s)
	}
	return text
}

func equalConns(a, b impl.Conn) bool {
	if !equalIns(a.In, b.In) {
		return false
	}
	a.In, b.In = impl.InBuf{}, impl.InBuf{}
	return reflect.DeepEqual(a, b)
}

// movedEnd is c with its own places so much farther on, and the other end's.
func movedEnd(c impl.Conn, own, other uint32) impl.Conn {
	for _, p := range []*uint32{&c.Iss, &c.Una, &c.Nxt, &c.Max, &c.WndAck, &c.Out.First, &c.FinSeq, &c.TimeSeq, &c.Cong.Recover} {
		*p += own
	}
	c.WndSeq += other
	c.In = movedIn(c.In, other)
	return c
}

// movedCame is a segment that comes, moved with the end that it comes to.
func movedCame(s impl.Seg, own, other uint32) impl.Seg {
	s.Seq, s.Ack = s.Seq+other, s.Ack+own
	return s
}

// movedSent are what that end sends. A reset confirms nothing: its Ack is 0 and stays so.
func movedSent(list []impl.Seg, own, other uint32) []impl.Seg {
	out := []impl.Seg{}
	for _, s := range list {
		s.Seq += own
		if s.Flags&ack != 0 {
			s.Ack += other
		}
		out = append(out, s)
	}
	return out
}

// moves lead to where the words come round: before the places of the tables, between them, and behind.
var moves = [][2]uint32{
	{0, 0}, {round - ownIss, round - otherIss}, {round - ownIss - 1, round - otherIss - 1}, {round - ownIss - 2, round - otherIss - 2},
	{round - 1101, round - 5101}, {round - 1201, round - 5301}, {round - 1251, 0}, {round - 1252, 7}, {halfWay - 1001, halfWay - 5001}, {0, round - 5003},
}

// checkCame asks for one answer wherever the places lie, and that nothing was written into c.
func checkCame(t *testing.T, what string, c impl.Conn, s impl.Seg, now int, change func(*impl.Conn), sent ...impl.Seg) {
	t.Helper()
	for _, m := range moves {
		was, came := movedEnd(c, m[0], m[1]), movedCame(s, m[0], m[1])
		want, wantSent := movedEnd(with(c, change), m[0], m[1]), movedSent(sent, m[0], m[1])
		arg := with(was)
		got, gotSent := impl.ConnCame(arg, came, now)
		if !equalConns(got, want) || !slices.Equal(gotSent, wantSent) {
			t.Errorf("%s: ConnCame(%s; %s; %d)\n is  %s; %s\n not %s; %s", what, shownConn(was), shownSeg(came), now, shownConn(got), shownSegs(gotSent), shownConn(want), shownSegs(wantSent))
			return
		}
		if !equalConns(arg, was) {
			t.Fatalf("%s: ConnCame writes into %s", what, shownConn(was))
		}
	}
}

func okIs(t *testing.T, what string, c impl.Conn, want bool) {
	t.Helper()
	if got := impl.ConnOk(c); got != want {
		t.Errorf("%s: ConnOk(%s) is %v", what, shownConn(c), got)
	}
}

func TestConnConstants(t *testing.T) {
	for i, state := range everyState {
		if state != i {
			t.Errorf("state %d is %d", i, state)
		}
	}
	for i, why := range []int{impl.EndNone, impl.EndReset, impl.EndRefused, impl.EndTired, impl.EndAborted} {
		if why != i {
			t.Errorf("reason %d is %d", i, why)
		}
	}
	if impl.MaxTries != topTries || impl.RestTicks != restFor {
		t.Errorf("MaxTries %d, RestTicks %d", impl.MaxTries, impl.RestTicks)
	}
	if impl.FlagFin != fin || impl.FlagSyn != syn || impl.FlagRst != rst || impl.FlagPush != push || impl.FlagAck != ack {
		t.Error("flags are other bits")
	}
}

// numberCase is a number of an end with its bounds.
type numberCase struct {
	name string
	at   func(*impl.Conn) *int
	most int
}

func connNumbers() []numberCase {
	return []numberCase{
		{"State", func(c *impl.Conn) *int { return &c.State }, impl.ConnRest},
		{"Wnd", func(c *impl.Conn) *int { return &c.Wnd }, topWin},
		{"Tries", func(c *impl.Conn) *int { return &c.Tries }, topTries},
		{"Again", func(c *impl.Conn) *int { return &c.Again }, topDue},
		{"Probe", func(c *impl.Conn) *int { return &c.Probe }, topDue},
		{"Rest", func(c *impl.Conn) *int { return &c.Rest }, topDue},
		{"TimeAt", func(c *impl.Conn) *int { return &c.TimeAt }, topDue},
		{"End", func(c *impl.Conn) *int { return &c.End }, impl.EndAborted},
	}
}

func TestConnOkOfNumbers(t *testing.T) {
	for _, state := range everyState {
		for _, n := range connNumbers() {
			for _, good := range []int{0, 1, n.most / 2, n.most - 1, n.most} {
				c := endIn(state)
				*n.at(&c) = good
				// Out of the tables fits another state too, unless it begins behind Una.
				c.Out.First = c.Una
				okIs(t, n.name, c, true)
			}
			for _, bad := range append([]int{n.most + 1, n.most + 2}, farNumbers...) {
				c := endIn(state)
				*n.at(&c) = bad
				c.Out.First = c.Una
				okIs(t, n.name, c, false)
			}
		}
	}
}

func TestConnOkOfItsParts(t *testing.T) {
	for _, state := range everyState {
		c := endIn(state)
		okIs(t, "an end", c, true)
		for _, b := range badOuts() {
			b.First = c.Out.First
			okIs(t, "Out", with(c, func(c *impl.Conn) { c.Out = b }), false)
		}
		for _, b := range badIns() {
			okIs(t, "In", with(c, func(c *impl.Conn) { c.In = b }), false)
		}
		for _, b := range badRtts() {
			okIs(t, "Rtt", with(c, func(c *impl.Conn) { c.Rtt = b }), false)
		}
		for _, b := range badCongs() {
			okIs(t, "Cong", with(c, func(c *impl.Conn) { c.Cong = b }), false)
		}
		for _, b := range goodIns() {
			okIs(t, "In", with(c, func(c *impl.Conn) { c.In = b }), true)
		}
		okIs(t, "Out", with(c, func(c *impl.Conn) { c.Out = outAt(c.Out.First, bytesFrom(1, topBuf), topBuf) }), true)
		okIs(t, "Rtt", with(c, func(c *impl.Conn) { c.Rtt = known(topSmooth, topVary, topShift) }), true)
		okIs(t, "Cong", with(c, func(c *impl.Conn) { c.Cong = mending(topWnd, topWnd, 9) }), true)
	}
	okIs(t, "the zero value", impl.Conn{}, false)
}

func TestConnOkOfPlaces(t *testing.T) {
	for _, una := range []uint32{0, 1, 1001, halfWay - 1, halfWay, round - topPlaces - 1, round - topPlaces, round - 5, round - 1} {
		for _, row := range []struct {
			nxt, most int
			want      bool
		}{
			{0, 0, true}, {0, 1, true}, {1, 1, true}, {1, 2, true}, {0, topPlaces - 1, true}, {0, topPlaces, true}, {topPlaces, topPlaces, true}, {topPlaces - 1, topPlaces, true}, {topPlaces - 1, topPlaces - 1, true}, {200, 300, true},
			{1, 0, false}, {2, 1, false}, {201, 200, false}, {topPlaces, topPlaces - 1, false},
			{-1, 0, false}, {-1, 200, false}, {-200, 0, false}, {0, -1, false}, {-1, -1, false}, {-5, -3, false}, {1, -1, false},
			{0, topPlaces + 1, false}, {topPlaces, topPlaces + 1, false}, {topPlaces + 1, topPlaces + 1, false}, {topPlaces + 1, topPlaces, false}, {topPlaces + 1, topPlaces + 2, false},
			{0, 8000, false}, {0, 8001, false}, {0, halfWay - 1, false}, {0, halfWay, false}, {0, halfWay + 1, false}, {halfWay, 0, false}, {halfWay, halfWay, false}, {-halfWay, 5, false},
		} {
			for _, state := range everyState {
				c := with(endIn(state), func(c *impl.Conn) {
					c.Una, c.Out.First, c.Nxt, c.Max = una, una, una+uint32(row.nxt), una+uint32(row.most)
				})
				okIs(t, fmt.Sprint("Una, with Nxt and Max ", row.nxt, row.most), c, row.want)
			}
		}
	}
}

func TestConnOkOfWhereOutBegins(t *testing.T) {
	for _, una := range []uint32{0, 1, 2, 1001, halfWay, round - 2, round - 1} {
		for _, state := range everyState {
			early := state == impl.ConnAsked || state == impl.ConnHeard || state == impl.ConnGone
			for _, sent := range []bool{false, true} {
				for _, off := range []int{-halfWay, -1001, -2, -1, 0, 1, 2, 1000} {
					c := with(endIn(state), func(c *impl.Conn) {
						c.Una, c.Nxt, c.Max, c.FinSent, c.Fin, c.FinSeq = una, una, una+1, sent, sent, una
						c.Out.First = una + uint32(off)
					})
					want := off == 0 || off == 1 && early || off == -1 && sent
					okIs(t, fmt.Sprint("Out ", off, " from Una"), c, want)
				}
			}
		}
	}
}

// What ConnOk says nothing of may be anything.
func TestConnOkOfTheRest(t *testing.T) {
	for _, state := range everyState {
		for _, word := range edgeWords {
			for _, flag := range []bool{false, true} {
				c := with(endIn(state), func(c *impl.Conn) {
					c.Iss, c.WndSeq, c.WndAck, c.FinSeq, c.TimeSeq = word, word+1, word-1, word+2, word-2
					c.Fin, c.GotFin, c.Timing, c.Owe = flag, flag, flag, !flag
				})
				okIs(t, "free", c, true)
			}
		}
	}
}

func checkStart(t *testing.T, what string, c impl.Conn, s impl.Seg, ok bool, wantEnd impl.Conn, wantSeg impl.Seg) {
	t.Helper()
	if !ok || !equalConns(c, wantEnd) || s != wantSeg {
		t.Errorf("%s is %s; %s; %v, not %s; %s", what, shownConn(c), shownSeg(s), ok, shownConn(wantEnd), shownSeg(wantSeg))
	}
	okIs(t, what, c, true)
}

func noStart(t *testing.T, what string, c impl.Conn, s impl.Seg, ok bool) {
	t.Helper()
	if ok || !equalConns(c, impl.Conn{}) || s != (impl.Seg{}) {
		t.Errorf("%s is %s; %s; %v", what, shownConn(c), shownSeg(s), ok)
	}
}

// startedBy is an end that has just sent its SYN.
func startedBy(iss uint32, room, now int) impl.Conn {
	return impl.Conn{
		State: 1, Iss: iss, Una: iss, Nxt: iss + 1, Max: iss + 1,
		Out: impl.OutBuf{First: iss + 1, Room: room}, In: impl.InBuf{Room: room}, Cong: impl.Cong{Wnd: 200, Thresh: 8000},
		Again: now + 10, Timing: true, TimeSeq: iss, TimeAt: now,
	}
}

var (
	startRooms = []int{1, 2, 300, topBuf - 1, topBuf}
	startTicks = []int{0, 1, 5, topTick - 1, topTick}
	startWords = []uint32{0, 1, 1000, halfWay - 1, halfWay, round - 2, round - 1}
)

func TestConnAsk(t *testing.T) {
	for _, iss := range startWords {
		for _, room := range startRooms {
			for _, now := range startTicks {
				c, s, ok := impl.ConnAsk(iss, room, now)
				checkStart(t, fmt.Sprintf("ConnAsk(%d, %d, %d)", iss, room, now), c, s, ok, startedBy(iss, room, now), impl.Seg{Seq: iss, Flags: syn, Win: room, Mss: 100})
			}
		}
		for _, room := range badRooms {
			c, s, ok := impl.ConnAsk(iss, room, 5)
			noStart(t, fmt.Sprintf("ConnAsk(%d, %d, 5)", iss, room), c, s, ok)
		}
		for _, now := range badTicks {
			c, s, ok := impl.ConnAsk(iss, 300, now)
			noStart(t, fmt.Sprintf("ConnAsk(%d, 300, %d)", iss, now), c, s, ok)
		}
	}
}

func TestConnAskByHand(t *testing.T) {
	c, s, ok := impl.ConnAsk(round-1, 1, topTick)
	want := impl.Conn{
		State: 1, Iss: 4294967295, Una: 4294967295, Nxt: 0, Max: 0, Out: impl.OutBuf{First: 0, Room: 1}, In: impl.InBuf{Next: 0, Room: 1},
		Cong: impl.Cong{Wnd: 200, Thresh: 8000}, Again: 1000000010, Timing: true, TimeSeq: 4294967295, TimeAt: 1000000000,
	}
	checkStart(t, "ConnAsk", c, s, ok, want, impl.Seg{Seq: 4294967295, Flags: 2, Win: 1, Mss: 100})
}

func TestConnHear(t *testing.T) {
	for _, iss := range startWords {
		for _, seq := range startWords {
			for _, win := range []int{0, 1, 300, topWin - 1, topWin} {
				for _, room := range startRooms {
					for _, now := range startTicks {
						asks := impl.Seg{Seq: seq, Flags: syn, Win: win}
						want := startedBy(iss, room, now)
						want.State, want.In.Next, want.Wnd, want.WndSeq = 2, seq+1, win, seq
						c, s, ok := impl.ConnHear(asks, iss, room, now)
						checkStart(t, fmt.Sprintf("ConnHear(%s; %d, %d, %d)", shownSeg(asks), iss, room, now), c, s, ok, want, impl.Seg{Seq: iss, Ack: seq + 1, Flags: syn + ack, Win: room, Mss: 100})
					}
				}
			}
		}
	}
}

func TestConnHearByHand(t *testing.T) {
	// What an asking segment says of ports, Mss and Ack is not looked at.
	for _, asks := range []impl.Seg{{Seq: round - 1, Flags: 2, Win: 700}, {From: 80, To: -5, Seq: round - 1, Ack: 77, Flags: 2, Win: 700, Mss: 9999}} {
		c, s, ok := impl.ConnHear(asks, round-1, topBuf, 7)
		want := impl.Conn{
			State: 2, Iss: 4294967295, Una: 4294967295, Nxt: 0, Max: 0, Wnd: 700, WndSeq: 4294967295, Out: impl.OutBuf{First: 0, Room: 4096}, In: impl.InBuf{Next: 0, Room: 4096},
			Cong: impl.Cong{Wnd: 200, Thresh: 8000}, Again: 17, Timing: true, TimeSeq: 4294967295, TimeAt: 7,
		}
		checkStart(t, "ConnHear", c, s, ok, want, impl.Seg{Seq: 4294967295, Ack: 0, Flags: 18, Win: 4096, Mss: 100})
	}
}

func TestConnHearOfWrongThings(t *testing.T) {
	asks := impl.Seg{Seq: 5000, Flags: syn, Win: 400, Mss: 100}
	for _, room := range badRooms {
		c, s, ok := impl.ConnHear(asks, 1000, room, 5)
		noStart(t, fmt.Sprint("room ", room), c, s, ok)
	}
	for _, now := range badTicks {
		c, s, ok := impl.ConnHear(asks, 1000, 300, now)
		noStart(t, fmt.Sprint("now ", now), c, s, ok)
	}
	none := []impl.Seg{}
	for flags := -40; flags < 70; flags++ {
		if flags != syn {
			none = append(none, segOf(flags, 5000, 0, 400, ""))
		}
	}
	for _, flags := range append([]int{round + syn, syn - round, 256 + syn, math.MinInt + syn}, farNumbers...) {
		none = append(none, segOf(flags, 5000, 0, 400, ""))
	}
	for _, win := range append([]int{topWin + 1, topWin + 2}, farNumbers...) {
		none = append(none, segOf(syn, 5000, 0, win, ""))
	}
	for _, data := range []string{"x", "\x00", bytesFrom(1, topSeg), bytesFrom(1, topSeg+1)} {
		none = append(none, segOf(syn, 5000, 0, 400, data))
	}
	for _, s := range none {
		for _, iss := range []uint32{0, 1000, round - 1} {
			c, answer, ok := impl.ConnHear(s, iss, 300, 5)
			noStart(t, "ConnHear of "+shownSeg(s), c, answer, ok)
		}
	}
}

// badEnds have each one thing that no end has, in a state.
func badEnds(state int) []impl.Conn {
	out := []impl.Conn{}
	for _, n := range connNumbers() {
		for _, bad := range append([]int{n.most + 1}, farNumbers...) {
			c := endIn(state)
			*n.at(&c) = bad
			out = append(out, c)
		}
	}
	change := func(f func(*impl.Conn)) { out = append(out, with(endIn(state), f)) }
	change(func(c *impl.Conn) { c.Out.Room = 0 })
	change(func(c *impl.Conn) { c.Out.Room = topBuf + 1 })
	change(func(c *impl.Conn) { c.Out.Data = bytesFrom(1, ownRoom+1) })
	for _, off := range []uint32{2, 3, halfWay, round - 2} {
		change(func(c *impl.Conn) { c.Out.First = c.Una + off })
	}
	change(func(c *impl.Conn) { c.In.Room = 0 })
	change(func(c *impl.Conn) { c.In.Ready = bytesFrom(1, ownRoom+1) })
	change(func(c *impl.Conn) { c.In.Parts = []impl.Part{part(c.In.Next, "touches")} })
	change(func(c *impl.Conn) { c.In.Parts = []impl.Part{part(c.In.Next+3, "")} })
	change(func(c *impl.Conn) { c.In.Parts = []impl.Part{part(c.In.Next+9, "order"), part(c.In.Next+2, "turned")} })
	change(func(c *impl.Conn) { c.Rtt.Shift = topShift + 1 })
	change(func(c *impl.Conn) { c.Rtt = impl.Rtt{Smooth: 1} })
	change(func(c *impl.Conn) { c.Cong.Wnd = lowWnd - 1 })
	change(func(c *impl.Conn) { c.Cong.Dups = topDups + 1 })
	change(func(c *impl.Conn) { c.Nxt = c.Una - 1 })
	change(func(c *impl.Conn) { c.Nxt = c.Max + 1 })
	change(func(c *impl.Conn) { c.Max = c.Una + topPlaces + 1 })
	// More than may ever be under way is no end, so that its third of the same counts no bytes.
	change(func(c *impl.Conn) { c.Max, c.Cong.Dups = c.Una+topWnd+1, 2 })
	return append(out, impl.Conn{}, impl.Conn{State: state})
}

// segsFor are segments of many kinds for an end.
func segsFor(c impl.Conn) []impl.Seg {
	out := []impl.Seg{}
	for flags := range 32 {
		for _, a := range []uint32{c.Una, c.Iss + 1, c.Max, c.Max + 1} {
			out = append(out, segOf(flags, c.In.Next, a, c.Wnd, ""), segOf(flags, c.In.Next, a, 7, "data"), segOf(flags, c.In.Next-7, a, 0, "old"), segOf(flags, c.In.Next+2, a, 7, "early"))
		}
	}
	return out
}

func TestCameToNoEnd(t *testing.T) {
	for _, state := range everyState {
		for _, s := range segsFor(endIn(state)) {
			for _, bad := range badEnds(state) {
				if got, sent := impl.ConnCame(bad, s, nowTick); !equalConns(got, bad) || len(sent) != 0 {
					t.Fatalf("ConnCame(%s; %s) is %s; %s", shownConn(bad), shownSeg(s), shownConn(got), shownSegs(sent))
				}
			}
		}
	}
}

func TestCameToWhatIsGone(t *testing.T) {
	for why := range 5 {
		for _, off := range []uint32{0, 1} {
			c := with(endIn(impl.ConnGone), func(c *impl.Conn) {
				c.End, c.Again, c.Probe, c.Rest, c.Owe, c.Out.First = why, 40, 50, 60, why%2 == 0, c.Una+off
			})
			okIs(t, "gone", c, true)
			for _, s := range segsFor(c) {
				checkCame(t, "gone", c, s, nowTick, nil)
			}
		}
	}
}

func TestCameWithWrongThings(t *testing.T) {
	for _, state := range everyState {
		c := endIn(state)
		for _, s := range []impl.Seg{
			segOf(ack, c.In.Next, c.Max, 7, "data"), segOf(rst+ack, c.In.Next, c.Iss+1, 0, ""), segOf(syn+ack, c.In.Next, c.Iss+1, 9, ""), segOf(ack, c.In.Next-9, c.Una, 9, ""),
		} {
			for _, now := range badTicks {
				checkCame(t, "now", c, s, now, nil)
			}
			for _, win := range append([]int{topWin + 1, topWin + 2}, farNumbers...) {
				bad := s
				bad.Win = win
				checkCame(t, "Win", c, bad, nowTick, nil)
			}
			for _, flags := range append([]int{32, 33, 48, 63, 64, 256 + s.Flags, s.Flags - 32, round + s.Flags, s.Flags - round}, farNumbers...) {
				bad := s
				bad.Flags = flags
				checkCame(t, "Flags", c, bad, nowTick, nil)
			}
			for _, n := range []int{topSeg + 1, topSeg + 2, 5000, 70000} {
				bad := s
				bad.Data = bytesFrom(1, n)
				checkCame(t, "Data", c, bad, nowTick, nil)
			}
		}
	}
}

func TestCameAtTheLimits(t *testing.T) {
	for _, state := range talking {
		c := endIn(state)
		// From, To and Mss are not looked at.
		out := impl.Seg{From: -1, To: 70000, Mss: 77, Seq: c.In.Next - 1, Flags: ack}
		for _, now := range []int{0, 1, topTick - 1, topTick} {
			checkCame(t, "now", c, out, now, func(c *impl.Conn) {
				c.Owe = true
				if c.State == impl.ConnRest {
					c.Rest = now + restFor
				}
			})
		}
		for _, win := range []int{0, 1, topWin - 1, topWin} {
			checkCame(t, "Win", c, segOf(ack, c.In.Next, c.Una, win, "x"), nowTick, func(c *impl.Conn) {
				c.Wnd, c.WndSeq, c.WndAck = win, c.In.Next, c.Una
				if slices.Contains([]int{impl.ConnOpen, impl.ConnFin1, impl.ConnFin2}, state) {
					c.In.Ready, c.In.Next, c.Owe = "x", c.In.Next+1, true
				}
			})
		}
		checkCame(t, "31", c, segOf(31, c.In.Next, c.Una, 7, ""), nowTick, endsFor(impl.EndReset))
		checkCame(t, "0", c, segOf(0, c.In.Next, c.Una, 7, ""), nowTick, nil)
	}
	data := bytesFrom(1, topSeg)
	c := with(openEnd(), func(c *impl.Conn) { c.In.Room = 600 })
	checkCame(t, "Data", c, segOf(ack, 5001, 1001, 400, data), nowTick, func(c *impl.Conn) {
		c.In.Ready, c.In.Next, c.Owe = data, 5001+topSeg, true
	})
}

// Point 1: an answer to something that this end never sent.
func TestAskedHearsAnotherLine(t *testing.T) {
	for _, c := range []impl.Conn{
		askedEnd(), with(askedEnd(), owes, func(c *impl.Conn) { c.Timing, c.Probe, c.Rest, c.Tries = false, 50, 60, 0 }),
		with(askedEnd(), func(c *impl.Conn) { c.Nxt = ownIss }), with(askedEnd(), func(c *impl.Conn) { c.Nxt, c.Max = ownIss+2, ownIss+2 }),
	} {
		for _, a := range []uint32{ownIss, ownIss + 2, ownIss - 1, 0, 9, ownIss + halfWay, ownIss + 1 + halfWay, ownIss + 2 + halfWay, round - 1} {
			for flags := range 32 {
				for _, data := range []string{"", "data"} {
					s := segOf(flags|ack, 77, a, 300, data)
					if flags&rst != 0 {
						checkCame(t, "a reset of another line", c, s, nowTick, nil)
					} else {
						checkCame(t, "another line", c, s, nowTick, nil, impl.Seg{Seq: a, Flags: rst})
					}
				}
			}
		}
	}
}

func TestAskedIsRefused(t *testing.T) {
	for _, c := range []impl.Conn{
		askedEnd(), with(askedEnd(), owes, func(c *impl.Conn) { c.Timing, c.Probe, c.Rest, c.End = false, 50, 60, impl.EndTired }),
		with(askedEnd(), func(c *impl.Conn) { c.Nxt = ownIss }), with(askedEnd(), func(c *impl.Conn) { c.Nxt, c.Max = ownIss+2, ownIss+2 }),
	} {
		for _, more := range []int{0, fin, syn, push, fin + syn + push} {
			for _, data := range []string{"", "data"} {
				for _, seq := range []uint32{0, 77, round - 1} {
					checkCame(t, "refused", c, segOf(rst+ack+more, seq, ownIss+1, 300, data), nowTick, endsFor(impl.EndRefused))
					// Without FlagAck nobody can tell whether it is meant.
					for _, a := range []uint32{0, ownIss, ownIss + 1, ownIss + 2} {
						checkCame(t, "a reset that confirms nothing", c, segOf(rst+more, seq, a, 300, data), nowTick, nil)
					}
				}
			}
		}
	}
}

func TestAskedHearsNoSyn(t *testing.T) {
	for _, flags := range []int{0, fin, push, fin + push} {
		for _, data := range []string{"", "data"} {
			for _, a := range []uint32{0, ownIss, ownIss + 1} {
				checkCame(t, "no SYN", askedEnd(), segOf(flags, 0, a, 300, data), nowTick, nil)
			}
			checkCame(t, "no SYN but FlagAck", askedEnd(), segOf(flags+ack, 0, ownIss+1, 300, data), nowTick, nil)
		}
	}
}

func TestAskedIsAnswered(t *testing.T) {
	late := with(askedEnd(), func(c *impl.Conn) { c.Probe, c.Rest, c.End = 50, 60, impl.EndTired })
	early := with(askedEnd(), func(c *impl.Conn) { c.Timing, c.Rtt = false, known(80, 12, 4) })
	known3 := with(askedEnd(), func(c *impl.Conn) { c.Rtt = known(40, 10, 4) })
	for _, row := range []struct {
		c   impl.Conn
		now int
		rtt impl.Rtt
	}{
		{askedEnd(), 93, known(0, 0, 0)}, {askedEnd(), 94, known(8, 2, 0)}, {askedEnd(), 100, known(56, 14, 0)}, {late, 100, known(56, 14, 0)},
		{askedEnd(), 100092, known(799992, 199998, 0)}, {askedEnd(), 100093, known(800000, 200000, 0)},
		// A sample that is none makes the wait anew.
		{askedEnd(), 100094, impl.Rtt{}}, {askedEnd(), topTick, impl.Rtt{}}, {askedEnd(), 92, impl.Rtt{}}, {askedEnd(), 0, impl.Rtt{}}, {known3, 92, impl.Rtt{}}, {known3, 100094, impl.Rtt{}},
		{known3, 98, known(40, 8, 0)}, {known3, 100, known(42, 10, 0)},
		// Where nothing is timed, not even Shift changes.
		{early, 0, known(80, 12, 4)}, {early, 100, known(80, 12, 4)}, {early, topTick, known(80, 12, 4)},
	} {
		for _, more := range []int{0, fin, push, fin + push} {
			for _, data := range []string{"", "data"} {
				for _, seq := range []uint32{0, otherIss, round - 1} {
					for _, win := range []int{0, 300, topWin} {
						checkCame(t, "answered", row.c, segOf(syn+ack+more, seq, ownIss+1, win, data), row.now, func(c *impl.Conn) {
							c.In.Next, c.Wnd, c.WndSeq, c.WndAck = seq+1, win, seq, ownIss+1
							c.Una, c.State, c.Owe, c.Again, c.Tries, c.Rtt, c.Timing = ownIss+1, impl.ConnOpen, true, 0, 0, row.rtt, false
						})
					}
				}
			}
		}
	}
}

// Both ends asked at once.
func TestAskedIsAsked(t *testing.T) {
	for _, c := range []impl.Conn{askedEnd(), with(askedEnd(), owes, func(c *impl.Conn) { c.Timing, c.Probe, c.Rest, c.In.Room = false, 50, 60, topBuf })} {
		for _, more := range []int{0, fin, push, fin + push} {
			for _, data := range []string{"", "data"} {
				for _, seq := range []uint32{0, otherIss, round - 1} {
					for _, win := range []int{0, 300, topWin} {
						for _, a := range []uint32{0, ownIss, ownIss + 1, 77} {
							answer := impl.Seg{Seq: ownIss, Ack: seq + 1, Flags: syn + ack, Win: c.In.Room, Mss: 100}
							checkCame(t, "asked too", c, segOf(syn+more, seq, a, win, data), nowTick, func(c *impl.Conn) {
								c.In.Next, c.Wnd, c.WndSeq, c.WndAck, c.State = seq+1, win, seq, a, impl.ConnHeard
							}, answer)
						}
					}
				}
			}
		}
	}
}

// Of what the point doesn't name nothing changes, though no end that asked would have it.
func TestAskedKeepsTheRest(t *testing.T) {
	c := with(askedEnd(), stopsTiming, func(c *impl.Conn) {
		c.In = inAt(3, "ready", 90, part(7, "part"), part(20, "other"))
		c.Fin, c.FinSent, c.FinSeq, c.GotFin, c.Probe, c.Rest, c.End, c.TimeSeq, c.Cong = true, true, 1003, true, 50, 60, impl.EndTired, 88, mending(700, 300, 1004)
	})
	checkCame(t, "no SYN", c, segOf(ack, 3, ownIss+1, 9, "data"), nowTick, nil)
	checkCame(t, "refused", c, segOf(rst+ack, 3, ownIss+1, 9, "data"), nowTick, endsFor(impl.EndRefused))
	checkCame(t, "answered", c, segOf(syn+ack+fin, 70, ownIss+1, 9, "data"), nowTick, all(hears(70, ownIss+1, 9), func(c *impl.Conn) {
		c.In.Next, c.State, c.Una, c.Owe, c.Again, c.Tries = 71, impl.ConnOpen, ownIss+1, true, 0, 0
	}))
	checkCame(t, "asked too", c, segOf(syn+fin, 70, 5, 9, "data"), nowTick, all(hears(70, 5, 9), func(c *impl.Conn) {
		c.In.Next, c.State = 71, impl.ConnHeard
	}), impl.Seg{Seq: ownIss, Ack: 71, Flags: syn + ack, Win: 90, Mss: 100})
}

// roomFor makes a window of so many bytes, with some bytes that are not read.
func roomFor(n int) func(*impl.Conn) {
	return func(c *impl.Conn) { c.In.Ready, c.In.Room = bytesFrom(7, 9), 9+n }
}

func outOfWindow(c *impl.Conn) {
	c.Owe = true
	if c.State == impl.ConnRest {
		restsFrom(nowTick)(c)
	}
}

// Point 2, by segments that confirm nothing: in the window they are passed by, outside it they are owed a confirmation.
func TestInTheWindow(t *testing.T) {
	for _, state := range talking {
		for _, row := range []struct {
			room, off, flags, many int
			in                     bool
		}{
			{20, 0, 0, 0, true}, {20, 1, 0, 0, true}, {20, 19, 0, 0, true}, {20, 20, 0, 0, false}, {20, 21, 0, 0, false}, {20, -1, 0, 0, false}, {20, -20, 0, 0, false}, {20, halfWay, 0, 0, false}, {20, -halfWay + 1, 0, 0, false}, {20, 10, push, 0, true}, {20, 20, push, 0, false},
			{1, 0, 0, 0, true}, {1, 1, 0, 0, false}, {1, -1, 0, 0, false}, {1, 0, 0, 1, true}, {1, 1, 0, 1, false}, {1, -1, 0, 1, false}, {1, -1, 0, 2, true},
			{0, 0, 0, 0, true}, {0, 1, 0, 0, false}, {0, -1, 0, 0, false}, {0, 0, 0, 1, false}, {0, 0, 0, 5, false}, {0, -1, 0, 5, false}, {0, 0, fin, 0, false}, {0, 0, syn, 0, false}, {0, -1, fin, 0, false}, {0, -1, syn + fin, 0, false},
			{20, 0, 0, 1, true}, {20, 0, 0, 5, true}, {20, 0, 0, 20, true}, {20, 0, 0, 21, true}, {20, 0, 0, topSeg, true}, {20, 19, 0, 1, true}, {20, 19, 0, 5, true}, {20, 20, 0, 1, false}, {20, 20, 0, topSeg, false},
			{20, -1, 0, 1, false}, {20, -1, 0, 2, true}, {20, -5, 0, 5, false}, {20, -4, 0, 5, true}, {20, -topSeg, 0, topSeg, false}, {20, -topSeg + 1, 0, topSeg, true},
			{20, 0, fin, 0, true}, {20, 19, fin, 0, true}, {20, 20, fin, 0, false}, {20, -1, fin, 0, false}, {20, -1, fin, 1, true}, {20, -5, fin, 5, true}, {20, -6, fin, 5, false},
			{20, -topSeg, fin, topSeg, true}, {20, -topSeg - 1, fin, topSeg, false},
		} {
			c := with(endIn(state), roomFor(row.room))
			s := segOf(row.flags, c.In.Next+uint32(row.off), c.Max, 7, bytesFrom(3, row.many))
			what := fmt.Sprintf("window %d, at %d, flags %d, %d bytes", row.room, row.off, row.flags, row.many)
			if row.in {
				checkCame(t, what, c, s, nowTick, nil)
				continue
			}
			checkCame(t, what, c, s, nowTick, outOfWindow)
			// Outside it nothing else of a segment counts, but a reset is owed nothing.
			s.Flags = row.flags + ack
			checkCame(t, what, c, s, nowTick, outOfWindow)
			for _, more := range []int{rst, rst + ack} {
				s.Flags = row.flags + more
				checkCame(t, what, c, s, nowTick, nil)
			}
		}
	}
}

// A SYN takes a place as a byte does.
func TestInTheWindowWithSyn(t *testing.T) {
	for _, state := range talking {
		c := with(endIn(state), roomFor(20))
		for _, row := range []struct {
			off, flags, many int
			in               bool
		}{
			{0, syn, 0, true}, {19, syn, 0, true}, {20, syn, 0, false}, {-1, syn, 0, false}, {-1, syn + fin, 0, true}, {-2, syn + fin, 0, false}, {-1, syn, 1, true}, {-2, syn, 1, false}, {-2, syn + fin, 1, true}, {-3, syn + fin, 1, false},
			{-topSeg - 1, syn + fin, topSeg, true}, {-topSeg - 2, syn + fin, topSeg, false},
		} {
			for _, more := range []int{0, ack, push} {
				s := segOf(row.flags+more, c.In.Next+uint32(row.off), c.Max, 7, bytesFrom(3, row.many))
				// In the window the SYN is owed a confirmation too, but who rests does not rest anew.
				change := owes
				if !row.in {
					change = outOfWindow
				}
				checkCame(t, "SYN", c, s, nowTick, change)
			}
		}
	}
}

// Point 3.
func TestReset(t *testing.T) {
	for _, state := range talking {
		for _, c := range []impl.Conn{with(endIn(state), roomFor(20)), with(endIn(state), roomFor(20), owes, func(c *impl.Conn) { c.Again, c.Probe, c.Rest, c.End = 40, 50, 60, impl.EndTired })} {
			for _, more := range []int{0, ack, push, syn, fin, ack + syn + fin + push} {
				for _, data := range []string{"", "data"} {
					for _, a := range []uint32{0, c.Una, c.Max, c.Max + 1} {
						checkCame(t, "a reset in its place", c, segOf(rst+more, c.In.Next, a, 7, data), nowTick, endsFor(impl.EndReset))
						for _, off := range []uint32{1, 2, 19} {
							checkCame(t, "a reset in the window", c, segOf(rst+more, c.In.Next+off, a, 7, data), nowTick, owes)
						}
					}
				}
				checkCame(t, "a reset that begins ahead of the window", c, segOf(rst+more, c.In.Next-3, c.Max, 7, "data"), nowTick, owes)
			}
		}
		none := with(endIn(state), roomFor(0))
		checkCame(t, "a reset without room", none, segOf(rst, none.In.Next, 0, 7, ""), nowTick, endsFor(impl.EndReset))
		checkCame(t, "a reset beyond no room", none, segOf(rst, none.In.Next+1, 0, 7, ""), nowTick, nil)
		checkCame(t, "a reset with a byte without room", none, segOf(rst, none.In.Next, 0, 7, "x"), nowTick, nil)
	}
}

func TestSynWhereALineStands(t *testing.T) {
	for _, state := range talking {
		c := with(endIn(state), roomFor(20))
		for _, more := range []int{0, ack, fin, push, ack + fin + push} {
			for _, data := range []string{"", "data"} {
				for _, a := range []uint32{0, c.Una, c.Max, c.Max + 1} {
					checkCame(t, "SYN", c, segOf(syn+more, c.In.Next, a, 7, data), nowTick, owes)
					checkCame(t, "SYN", c, segOf(syn+more, c.In.Next+19, a, 7, data), nowTick, owes)
				}
			}
		}
	}
}

func TestNothingConfirmed(t *testing.T) {
	for _, state := range talking {
		for _, c := range []impl.Conn{with(endIn(state), roomFor(20)), with(endIn(state), roomFor(20), owes)} {
			for _, flags := range []int{0, fin, push, fin + push} {
				for _, data := range []string{"", "data"} {
					for _, a := range []uint32{0, c.Una, c.Max, c.Max + 1} {
						checkCame(t, "no FlagAck", c, segOf(flags, c.In.Next, a, 7, data), nowTick, nil)
					}
				}
			}
		}
	}
}

// hears is what every segment in its place tells of the window.
func hears(seq, a uint32, win int) func(*impl.Conn) {
	return func(c *impl.Conn) { c.Wnd, c.WndSeq, c.WndAck = win, seq, a }
}

func takes(text string) func(*impl.Conn) {
	return func(c *impl.Conn) { c.In.Ready, c.In.Next, c.Owe = c.In.Ready+text, c.In.Next+uint32(len(text)), true }
}

// Point 4: what is old counts neither as a confirmation nor for the window; what comes with it does.
func TestOldConfirmations(t *testing.T) {
	for _, old := range []uint32{1000, 999, 500, 1001 + halfWay, 1002 + halfWay} {
		for _, win := range []int{0, 400, 401, topWin} {
			c := with(openEnd(), func(c *impl.Conn) { c.Probe, c.WndSeq, c.Cong.Dups = 50, 4990, 2 })
			checkCame(t, "old", c, segOf(ack, 5001, old, win, ""), nowTick, nil)
			checkCame(t, "old, with bytes", c, segOf(ack, 5001, old, win, "data"), nowTick, takes("data"))
			checkCame(t, "old, with a FIN", c, segOf(ack+fin, 5001, old, win, "data"), nowTick, all(takes("data"), func(c *impl.Conn) {
				c.In.Next, c.GotFin, c.State = 5006, true, impl.ConnHalf
			}))
			heard := with(heardEnd(), func(c *impl.Conn) { c.Una, c.Nxt, c.Max, c.Out.First, c.Iss = 1001, 1001, 1001, 1001, 400 })
			checkCame(t, "old, though ahead of Iss", heard, segOf(ack, 5001, old, win, "data"), nowTick, nil)
		}
	}
}

func TestConfirmedAheadOfAll(t *testing.T) {
	for _, state := range talking {
		c := endIn(state)
		for _, a := range []uint32{c.Max + 1, c.Max + 2, c.Max + 5000} {
			for _, flags := range []int{ack, ack + push, ack + fin} {
				for _, data := range []string{"", "data"} {
					checkCame(t, "never sent", c, segOf(flags, c.In.Next, a, 9, data), nowTick, owes)
				}
			}
		}
	}
	// Una lies more than half the way behind Max + halfWay - 1, so that this is old.
	c := openEnd()
	checkCame(t, "far ahead", c, segOf(ack, 5001, c.Una+halfWay-1, 9, "data"), nowTick, owes)
	checkCame(t, "so far ahead that it is old", c, segOf(ack, 5001, c.Max+halfWay-1, 9, "data"), nowTick, takes("data"))
}

// confirmsTo is what a new confirmation changes in openEnd whatever else it does.
func confirmsTo(a uint32, again int, rtt impl.Rtt, wnd int) func(*impl.Conn) {
	return func(c *impl.Conn) {
		c.Out = outAt(a, c.Out.Data[a-c.Out.First:], c.Out.Room)
		c.Una, c.Tries, c.Again, c.Rtt = a, 0, again, rtt
		c.Cong.Wnd, c.Cong.Dups = wnd, 0
		c.WndAck = a
	}
}

func stopsTiming(c *impl.Conn) { c.Timing = false }

func TestConfirmedNew(t *testing.T) {
	untimed := with(openEnd(), stopsTiming)
	unknown := with(openEnd(), stopsTiming, func(c *impl.Conn) { c.Rtt = impl.Rtt{Shift: 8} })
	for _, row := range []struct {
		c      impl.Conn
		a      uint32
		again  int
		rtt    impl.Rtt
		wnd    int
		timing bool
	}{
		{openEnd(), 1002, 115, known(40, 10, 0), 501, true},
		{openEnd(), 1100, 115, known(40, 10, 0), 599, true},
		{openEnd(), 1101, 115, known(40, 10, 0), 600, true},
		{openEnd(), 1102, 115, known(42, 10, 0), 600, false},
		{openEnd(), 1200, 115, known(42, 10, 0), 600, false},
		{openEnd(), 1201, 0, known(42, 10, 0), 600, false},
		{untimed, 1101, 115, known(40, 10, 0), 600, false},
		{untimed, 1102, 115, known(40, 10, 0), 600, false},
		{untimed, 1201, 0, known(40, 10, 0), 600, false},
		{unknown, 1102, 110, impl.Rtt{}, 600, false},
		{unknown, 1201, 0, impl.Rtt{}, 600, false},
	} {
		change := all(confirmsTo(row.a, row.again, row.rtt, row.wnd), func(c *impl.Conn) { c.Timing = row.timing })
		checkCame(t, fmt.Sprint("confirmed to ", row.a), row.c, segOf(ack, 5001, row.a, 400, ""), nowTick, change)
		// With bytes, or with another window, it is as new.
		checkCame(t, fmt.Sprint("confirmed to ", row.a), row.c, segOf(ack, 5001, row.a, 400, "data"), nowTick, all(change, takes("data")))
		checkCame(t, fmt.Sprint("confirmed to ", row.a), row.c, segOf(ack+push, 5001, row.a, 9, ""), nowTick, all(change, hears(5001, row.a, 9)))
		owing := with(row.c, owes)
		checkCame(t, fmt.Sprint("confirmed to ", row.a), owing, segOf(ack, 5001, row.a, 400, ""), nowTick, change)
	}
}

// The answer that was timed took longer than a sample may, or came ahead of what it answers.
func TestConfirmedWithASampleThatIsNone(t *testing.T) {
	c := openEnd()
	for _, row := range []struct {
		now  int
		rtt  impl.Rtt
		wait int
	}{
		{0, impl.Rtt{}, 10}, {92, impl.Rtt{}, 10}, {93, known(35, 13, 0), 17}, {100093, known(100035, 100003, 0), 600}, {100094, impl.Rtt{}, 10}, {topTick, impl.Rtt{}, 10},
	} {
		checkCame(t, "a sample", c, segOf(ack, 5001, 1150, 400, ""), row.now, all(confirmsTo(1150, row.now+row.wait, row.rtt, 600), stopsTiming))
	}
	for _, at := range []int{topDue, topTick + 1, 101} {
		late := with(openEnd(), func(c *impl.Conn) { c.TimeAt = at })
		checkCame(t, "a sample", late, segOf(ack, 5001, 1150, 400, ""), nowTick, all(confirmsTo(1150, 110, impl.Rtt{}, 600), stopsTiming))
	}
}

// TimeSeq half the way round is not passed by.
func TestConfirmedWithTimingElsewhere(t *testing.T) {
	for _, row := range []struct {
		timed uint32
		ahead bool
	}{
		{1149, true}, {1150, false}, {1151, false}, {1201, false}, {1000, true}, {1150 - 500, true}, {1150 + halfWay, false}, {1151 + halfWay, true}, {1149 + halfWay, false},
	} {
		c := with(openEnd(), func(c *impl.Conn) { c.TimeSeq = row.timed })
		rtt := known(40, 10, 0)
		if row.ahead {
			rtt = known(42, 10, 0)
		}
		checkCame(t, fmt.Sprint("timed ", row.timed), c, segOf(ack, 5001, 1150, 400, ""), nowTick, all(confirmsTo(1150, 115, rtt, 600), func(c *impl.Conn) { c.Timing = !row.ahead }))
	}
}

func TestConfirmedBeyondWhatIsToBeSentNext(t *testing.T) {
	for _, row := range []struct{ nxt, want uint32 }{
		{1001, 1101}, {1050, 1101}, {1100, 1101}, {1101, 1101}, {1102, 1102}, {1150, 1150}, {1200, 1200}, {1201, 1201},
	} {
		c := with(openEnd(), stopsTiming, func(c *impl.Conn) { c.Nxt = row.nxt })
		checkCame(t, fmt.Sprint("Nxt ", row.nxt), c, segOf(ack, 5001, 1101, 400, ""), nowTick, all(confirmsTo(1101, 115, known(40, 10, 0), 600), func(c *impl.Conn) { c.Nxt = row.want }))
	}
}

func TestConfirmedWhileALossIsMended(t *testing.T) {
	c := with(openEnd(), func(c *impl.Conn) { c.Cong, c.TimeSeq = mending(800, 500, 1201), 1150 })
	checkCame(t, "a part of it", c, segOf(ack, 5001, 1101, 400, ""), nowTick, all(confirmsTo(1101, 115, known(40, 10, 0), 800), func(c *impl.Conn) {
		c.Cong, c.Nxt = mending(800, 500, 1201), 1101
	}))
	checkCame(t, "more of it", c, segOf(ack, 5001, 1200, 400, ""), nowTick, all(confirmsTo(1200, 115, known(42, 10, 0), 0), stopsTiming, func(c *impl.Conn) {
		c.Cong, c.Nxt = mending(701, 500, 1201), 1200
	}))
	checkCame(t, "all of it", c, segOf(ack, 5001, 1201, 400, ""), nowTick, all(confirmsTo(1201, 0, known(42, 10, 0), 0), stopsTiming, func(c *impl.Conn) {
		c.Cong = impl.Cong{Wnd: 500, Thresh: 500, Recover: 1201}
	}))
	until := with(c, func(c *impl.Conn) { c.Cong.Recover = 1101 })
	checkCame(t, "all of it, and more is under way", until, segOf(ack, 5001, 1101, 400, ""), nowTick, all(confirmsTo(1101, 115, known(40, 10, 0), 0), func(c *impl.Conn) {
		c.Cong = impl.Cong{Wnd: 500, Thresh: 500, Recover: 1101}
	}))
	checkCame(t, "the same", c, segOf(ack, 5001, 1001, 400, ""), nowTick, func(c *impl.Conn) { c.Cong.Wnd = 900 })
	for _, dups := range []int{0, 1, 2} {
		few := with(c, func(c *impl.Conn) { c.Cong.Dups = dups })
		checkCame(t, "the same", few, segOf(ack, 5001, 1001, 400, ""), nowTick, func(c *impl.Conn) { c.Cong.Wnd = 900 })
	}
}

func TestConfirmedTheSame(t *testing.T) {
	c := openEnd()
	second := func(c *impl.Conn) { c.Cong.Dups = 2 }
	checkCame(t, "the second", c, segOf(ack, 5001, 1001, 400, ""), nowTick, second)
	checkCame(t, "the second, pushed", c, segOf(ack+push, 5001, 1001, 400, ""), nowTick, second)
	checkCame(t, "the second, elsewhere in the window", c, segOf(ack, 5090, 1001, 400, ""), nowTick, all(second, hears(5090, 1001, 400)))
	checkCame(t, "a FIN is no byte", c, segOf(ack+fin, 5002, 1001, 400, ""), nowTick, all(second, hears(5002, 1001, 400)))
	checkCame(t, "with bytes", c, segOf(ack, 5001, 1001, 400, "data"), nowTick, takes("data"))
	for _, win := range []int{0, 399, 401, topWin} {
		checkCame(t, "with another window", c, segOf(ack, 5001, 1001, win, ""), nowTick, hears(5001, 1001, win))
	}
	idle := with(c, func(c *impl.Conn) { c.Nxt, c.Max, c.Again = 1001, 1001, 0 })
	checkCame(t, "with nothing under way", idle, segOf(ack, 5001, 1001, 400, ""), nowTick, nil)
	// What was sent ever counts, not what is sent anew.
	back := with(c, func(c *impl.Conn) { c.Nxt = 1001 })
	checkCame(t, "with all to be sent again", back, segOf(ack, 5001, 1001, 400, ""), nowTick, second)
}

func TestConfirmedTheSameThirdTime(t *testing.T) {
	for _, row := range []struct{ bytes, thresh int }{
		{1, 200}, {200, 200}, {250, 200}, {401, 200}, {402, 201}, {1000, 500}, {topBuf, 2048}, {topBuf + 1, 2048}, {topPlaces, 2049},
	} {
		for _, nxt := range []int{0, 1, row.bytes} {
			c := with(openEnd(), func(c *impl.Conn) {
				c.Max, c.Nxt, c.Cong.Dups, c.Cong.Recover = 1001+uint32(row.bytes), 1001+uint32(nxt), 2, 77
			})
			checkCame(t, fmt.Sprint(row.bytes, " bytes under way"), c, segOf(ack, 5001, 1001, 400, ""), nowTick, all(stopsTiming, func(c *impl.Conn) {
				c.Nxt, c.Cong = 1001, mending(row.thresh+300, row.thresh, 1001+uint32(row.bytes))
			}))
		}
	}
	for _, dups := range [][2]int{{0, 1}, {1, 2}, {3, 4}, {999999, topDups}, {topDups, topDups}} {
		c := with(openEnd(), func(c *impl.Conn) { c.Cong.Dups = dups[0] })
		checkCame(t, fmt.Sprint("after ", dups[0]), c, segOf(ack, 5001, 1001, 400, ""), nowTick, func(c *impl.Conn) { c.Cong.Dups = dups[1] })
	}
}

// Three in a row, what comes between, and what is mended in the end.
func TestThreeOfTheSameInARow(t *testing.T) {
	c := with(openEnd(), func(c *impl.Conn) { c.Cong.Dups = 0 })
	same := segOf(ack, 5001, 1001, 400, "")
	for i, want := range []impl.Cong{growing(500, topWnd, 1), growing(500, topWnd, 2), mending(500, 200, 1201), mending(600, 200, 1201)} {
		c, _ = impl.ConnCame(c, same, nowTick)
		if c.Cong != want || (c.Nxt == 1001) != (i == 2) || c.Timing != (i < 2) || c.Una != 1001 || c.Again != 173 || c.Tries != 2 {
			t.Fatalf("the same %d times: %s", i+1, shownConn(c))
		}
		c.Nxt = 1201
	}
	c, _ = impl.ConnCame(c, segOf(ack, 5001, 1101, 400, ""), nowTick)
	if c.Cong != mending(600, 200, 1201) || c.Nxt != 1101 {
		t.Fatalf("a part of it: %s", shownConn(c))
	}
	c, _ = impl.ConnCame(c, segOf(ack, 5001, 1201, 400, ""), nowTick)
	if c.Cong != (impl.Cong{Wnd: 200, Thresh: 200, Recover: 1201}) || c.Nxt != 1201 || c.Again != 0 {
		t.Fatalf("all of it: %s", shownConn(c))
	}
	// Bytes between two of the same don't end the row; a new confirmation does.
	c = with(openEnd(), func(c *impl.Conn) { c.Cong.Dups = 0 })
	c, _ = impl.ConnCame(c, same, nowTick)
	c, _ = impl.ConnCame(c, segOf(ack, 5001, 1001, 400, "data"), nowTick)
	c, _ = impl.ConnCame(c, segOf(ack, 5005, 1001, 400, ""), nowTick)
	if c.Cong.Dups != 2 {
		t.Errorf("with bytes between: %s", shownConn(c))
	}
	c, _ = impl.ConnCame(c, segOf(ack, 5005, 1002, 400, ""), nowTick)
	if c, _ = impl.ConnCame(c, segOf(ack, 5005, 1002, 400, ""), nowTick); c.Cong.Dups != 1 {
		t.Errorf("with a new one between: %s", shownConn(c))
	}
}

func TestHeardIsOpenWhenItsSynIsConfirmed(t *testing.T) {
	c := heardEnd()
	checkCame(t, "Iss confirmed", c, segOf(ack, 5001, 1000, 400, ""), nowTick, all(hears(5001, 1000, 400), func(c *impl.Conn) { c.Cong.Dups = 1 }))
	checkCame(t, "Iss confirmed, with bytes and a FIN", c, segOf(ack+fin, 5001, 1000, 400, "data"), nowTick, hears(5001, 1000, 400))
	checkCame(t, "old", c, segOf(ack, 5001, 999, 300, ""), nowTick, nil)
	checkCame(t, "never sent", c, segOf(ack, 5001, 1002, 300, "data"), nowTick, owes)
	opened := func(win int) func(*impl.Conn) {
		return all(hears(5001, 1001, win), stopsTiming, func(c *impl.Conn) {
			c.State, c.Una, c.Again, c.Tries, c.Rtt, c.Cong = impl.ConnOpen, 1001, 0, 0, known(56, 14, 0), growing(201, topWnd, 0)
		})
	}
	checkCame(t, "its SYN confirmed", c, segOf(ack, 5001, 1001, 300, ""), nowTick, opened(300))
	checkCame(t, "its SYN confirmed, with bytes", c, segOf(ack, 5001, 1001, 400, "data"), nowTick, all(opened(400), takes("data")))
	checkCame(t, "its SYN confirmed, with bytes and a FIN", c, segOf(ack+fin, 5001, 1001, 400, "data"), nowTick, all(opened(400), takes("data"), func(c *impl.Conn) {
		c.State, c.In.Next, c.GotFin = impl.ConnHalf, 5006, true
	}))
	again := with(c, stopsTiming, func(c *impl.Conn) { c.Nxt = 1000 })
	checkCame(t, "its SYN confirmed, though it is to be sent again", again, segOf(ack, 5001, 1001, 300, ""), nowTick, all(opened(300), func(c *impl.Conn) {
		c.Nxt, c.Rtt = 1001, impl.Rtt{}
	}))
	// Ack as Una already is may be ahead of Iss.
	ahead := with(c, func(c *impl.Conn) { c.Una = 1001 })
	checkCame(t, "confirmed once more", ahead, segOf(ack, 5001, 1001, 300, ""), nowTick, all(hears(5001, 1001, 300), becomes(impl.ConnOpen)))
	for _, state := range talking[1:] {
		other := with(endIn(state), func(c *impl.Conn) { c.Iss = 900 })
		checkCame(t, "another state", other, segOf(ack, other.In.Next, other.Una, 300, ""), nowTick, hears(other.In.Next, other.Una, 300))
	}
}

// With a FIN that was sent, what is kept ends ahead of its place.
func TestConfirmedUpToTheFin(t *testing.T) {
	for _, state := range []int{impl.ConnFin1, impl.ConnBoth, impl.ConnLast} {
		c := endIn(state)
		for _, a := range []uint32{1250, 1251} {
			checkCame(t, "ahead of the FIN", c, segOf(ack, c.In.Next, a, 400, ""), nowTick, all(confirmsTo(a, 115, known(42, 10, 0), 600), stopsTiming, func(c *impl.Conn) { c.WndSeq = c.In.Next }))
		}
		whole := func(c *impl.Conn) {
			c.Out, c.Una, c.Tries, c.Again, c.Rtt, c.Cong, c.Timing = outAt(1251, "", ownRoom), 1252, 0, 0, known(42, 10, 0), growing(600, topWnd, 0), false
			c.WndSeq, c.WndAck = c.In.Next, 1252
		}
		after := finConfirmedBy(state, nowTick)
		checkCame(t, "the FIN confirmed", c, segOf(ack, c.In.Next, 1252, 400, ""), nowTick, all(whole, after))
		// FIN and bytes by halves: only the FIN is left.
		rest := with(c, func(c *impl.Conn) { c.Una, c.Out = 1251, outAt(1251, "", ownRoom) })
		checkCame(t, "the FIN alone confirmed", rest, segOf(ack, c.In.Next, 1252, 400, ""), nowTick, all(whole, func(c *impl.Conn) { c.Cong.Wnd = 501 }, after))
	}
	// Without FinSent the place of a FIN tells nothing.
	c := with(openEnd(), func(c *impl.Conn) { c.FinSeq = 1050 })
	checkCame(t, "no FIN", c, segOf(ack, 5001, 1101, 400, ""), nowTick, confirmsTo(1101, 115, known(40, 10, 0), 600))
	// A FIN that is farther off than half the way is not passed by.
	far := with(endIn(impl.ConnFin1), func(c *impl.Conn) { c.FinSeq = 1101 + halfWay })
	checkCame(t, "a FIN far off", far, segOf(ack, 5001, 1101, 400, ""), nowTick, confirmsTo(1101, 115, known(40, 10, 0), 600))
}

// Point 5.
func TestToldWindow(t *testing.T) {
	for _, state := range talking {
		base := endIn(state)
		at, una := base.In.Next+5, base.Una
		for _, row := range []struct {
			seq, ack uint32
			told     bool
		}{
			{at - 1, una, true}, {at - 1, una + 1, true}, {at - 1, una + 900, true}, {at - 900, una + 5, true}, {at - 1, una - 1, true}, {at + 1 - halfWay, una, true},
			{at, una, true}, {at, una - 1, true}, {at, una - 900, true}, {at, una + 1, false}, {at, una + 2, false}, {at, una + 900, false}, {at, una + halfWay - 1, false}, {at, una + halfWay, true}, {at, una + halfWay + 1, true},
			{at + 1, una, false}, {at + 1, una - 1, false}, {at + 1, una - 900, false}, {at + 900, una, false}, {at - halfWay, una, false}, {at - halfWay - 1, una, false},
		} {
			for _, win := range []int{0, 9, topWin} {
				for _, probe := range []int{0, 50} {
					c := with(base, func(c *impl.Conn) { c.WndSeq, c.WndAck, c.Probe = row.seq, row.ack, probe })
					change := func(c *impl.Conn) {
						if row.told {
							hears(at, una, win)(c)
						}
						if row.told && win != 0 {
							c.Probe = 0
						}
					}
					checkCame(t, fmt.Sprintf("told %d by %d, %d", win, row.seq, row.ack), c, segOf(ack, at, una, win, ""), nowTick, change)
				}
			}
		}
	}
}

// finConfirmedBy is what the confirmed FIN makes of a state.
func finConfirmedBy(state, now int) func(*impl.Conn) {
	switch state {
	case impl.ConnFin1:
		return becomes(impl.ConnFin2)
	case impl.ConnBoth:
		return restsFrom(now)
	case impl.ConnLast:
		return endsFor(impl.EndNone)
	}
	return all()
}

// Point 6, where the FIN was confirmed before: also with what is old.
func TestFinConfirmedBefore(t *testing.T) {
	for _, state := range talking {
		for _, sent := range []bool{false, true} {
			for _, off := range []int{-900, -1, 0, 1, halfWay - 1, halfWay, halfWay + 1} {
				c := with(endIn(impl.ConnRest), func(c *impl.Conn) {
					c.State, c.FinSent, c.Rest, c.Again, c.Probe, c.Owe = state, sent, 0, 40, 50, true
					c.FinSeq, c.Out.First, c.WndSeq, c.WndAck = 1252-uint32(off), 1252, 5002, 1253
				})
				change := all()
				if sent && off > 0 && off < halfWay {
					change = finConfirmedBy(state, nowTick)
				}
				what := fmt.Sprintf("FIN %d behind Una", off)
				for _, old := range []uint32{1251, 1000} {
					checkCame(t, what, c, segOf(ack, 5002, old, 9, ""), nowTick, change)
				}
				if state == impl.ConnHeard {
					change = becomes(impl.ConnOpen)
				}
				checkCame(t, what, c, segOf(ack, 5002, 1252, 9, ""), nowTick, change)
			}
		}
	}
}

// Where the last end goes, neither bytes nor a FIN are taken behind it.
func TestTheLastStops(t *testing.T) {
	c := with(endIn(impl.ConnLast), func(c *impl.Conn) { c.Una, c.Out = 1252, outAt(1251, "", ownRoom) })
	for _, data := range []string{"", "data"} {
		for _, flags := range []int{ack, ack + fin} {
			checkCame(t, "last", c, segOf(flags, 5002, 1200, 400, data), nowTick, endsFor(impl.EndNone))
		}
	}
}

// Point 7.
func TestBytesComeInEveryState(t *testing.T) {
	for _, state := range talking {
		listens := slices.Contains([]int{impl.ConnOpen, impl.ConnFin1, impl.ConnFin2}, state)
		base := with(endIn(state), func(c *impl.Conn) { c.In.Room, c.In.Ready = 14, "ab" })
		at := base.In.Next
		for _, row := range []struct {
			off   int
			data  string
			ready string
			parts []impl.Part
		}{
			{0, "c", "abc", nil},
			{0, "cdef", "abcdef", nil},
			{0, "cdefghijklmn", "abcdefghijklmn", nil},
			{0, "cdefghijklmnop", "abcdefghijklmn", nil},
			{-2, "abcdef", "abcdef", nil},
			{-5, "xxxxxc", "abc", nil},
			{1, "d", "ab", []impl.Part{part(at+1, "d")}},
			{3, "fgh", "ab", []impl.Part{part(at+3, "fgh")}},
			{11, "n", "ab", []impl.Part{part(at+11, "n")}},
			{11, "nop", "ab", []impl.Part{part(at+11, "n")}},
			// Two old bytes, twelve that have room, and three beyond.
			{-2, "ab" + "cdefghijklmn" + "opq", "abcdefghijklmn", nil},
		} {
			seq := at + uint32(row.off)
			change := all()
			if forward(base.WndSeq, seq) < halfWay {
				change = hears(seq, base.Una, 9)
			}
			if listens {
				change = all(change, owes, func(c *impl.Conn) {
					c.In = inAt(at+uint32(len(row.ready)-2), row.ready, 14, row.parts...)
				})
			}
			checkCame(t, fmt.Sprintf("%q at %d", row.data, row.off), base, segOf(ack, seq, base.Una, 9, row.data), nowTick, change)
		}
	}
}

func TestBytesComeBetweenParts(t *testing.T) {
	for _, state := range []int{impl.ConnOpen, impl.ConnFin1, impl.ConnFin2} {
		c := with(endIn(state), func(c *impl.Conn) { c.In = inAt(5001, "ab", 14, part(5003, "EF"), part(5008, "JK")) })
		at := segOf(ack, 5001, c.Una, 400, "cdef")
		dup := func(c *impl.Conn) { c.WndAck = c.Una }
		checkCame(t, "up to a part", c, at, nowTick, all(dup, owes, func(c *impl.Conn) { c.In = inAt(5005, "abcdEF", 14, part(5008, "JK")) }))
		at.Data = "cdefghi"
		checkCame(t, "up to all parts", c, at, nowTick, all(dup, owes, func(c *impl.Conn) { c.In = inAt(5010, "abcdEFghiJK", 14) }))
		at.Data = "EF"
		at.Seq = 5003
		checkCame(t, "what is there", c, at, nowTick, all(dup, owes, func(c *impl.Conn) { c.WndSeq = 5003 }))
	}
}

// Point 8: what a FIN in its place makes of a state.
func finsBy(state, now int) func(*impl.Conn) {
	took := func(c *impl.Conn) { c.In.Next, c.GotFin, c.Owe = c.In.Next+1, true, true }
	switch state {
	case impl.ConnOpen:
		return all(took, becomes(impl.ConnHalf))
	case impl.ConnFin1:
		return all(took, becomes(impl.ConnBoth))
	case impl.ConnFin2:
		return all(took, restsFrom(now), func(c *impl.Conn) { c.Again = 0 })
	}
	return all()
}

func TestFinInEveryState(t *testing.T) {
	for _, state := range talking {
		listens := slices.Contains([]int{impl.ConnOpen, impl.ConnFin1, impl.ConnFin2}, state)
		base := with(endIn(state), func(c *impl.Conn) {
			c.In.Ready, c.Again, c.Rest, c.WndSeq, c.WndAck, c.Cong.Dups = "ab", 40, 50, 5009, 1252, 0
		})
		for _, room := range []int{3, 4, 5, 10} {
			c := with(base, func(c *impl.Conn) { c.In.Room = 2 + room })
			fins := func(off int, data string, change ...func(*impl.Conn)) {
				t.Helper()
				if !listens {
					change = nil
				}
				s := segOf(ack+fin, c.In.Next+uint32(off), c.Una, 399, data)
				checkCame(t, fmt.Sprintf("%q and a FIN at %d, room %d", data, off, room), c, s, nowTick, all(change...))
			}
			fins(0, "", finsBy(state, nowTick))
			fins(0, "c", takes("c"), finsBy(state, nowTick))
			fins(-2, "abc", takes("c"), finsBy(state, nowTick))
			fins(-2, "ab", owes, finsBy(state, nowTick))
			fins(0, "cde", takes("cde"), finsBy(state, nowTick))
			fins(1, "")
			fins(2, "")
			fins(1, "d", owes, func(c *impl.Conn) { c.In.Parts = []impl.Part{part(c.In.Next+1, "d")} })
			switch room {
			case 3:
				// The fourth byte has no room, so that the FIN behind it is not in its place.
				fins(0, "cdef", takes("cde"))
			case 4:
				fins(0, "cdef", takes("cdef"), finsBy(state, nowTick))
				fins(0, "cdefg", takes("cdef"))
			default:
				fins(0, "cdef", takes("cdef"), finsBy(state, nowTick))
				fins(0, "cdefg", takes("cdefg"), finsBy(state, nowTick))
			}
		}
	}
}

func TestFinWithParts(t *testing.T) {
	for _, state := range []int{impl.ConnOpen, impl.ConnFin1, impl.ConnFin2} {
		base := with(endIn(state), func(c *impl.Conn) { c.WndSeq, c.WndAck, c.Again = 5090, 1252, 40 })
		parts := func(list ...impl.Part) impl.Conn {
			return with(base, func(c *impl.Conn) { c.In.Parts = list })
		}
		s := segOf(ack+fin, 5001, base.Una, 399, "")
		checkCame(t, "a FIN ahead of what came", parts(part(5003, "cd")), s, nowTick, nil)
		s.Data = "a"
		checkCame(t, "a byte and a FIN ahead of what came", parts(part(5003, "cd")), s, nowTick, takes("a"))
		s.Data = "ab"
		checkCame(t, "what fills the gap, with a FIN amid", parts(part(5003, "cd")), s, nowTick, all(takes("abcd"), func(c *impl.Conn) { c.In.Parts = nil }))
		s.Data = "abxy"
		checkCame(t, "what fills the gap, with a FIN behind", parts(part(5003, "cd")), s, nowTick, all(takes("abcd"), func(c *impl.Conn) { c.In.Parts = nil }, finsBy(state, nowTick)))
		checkCame(t, "what fills one gap of two, with a FIN", parts(part(5003, "cd"), part(5009, "z")), s, nowTick, all(takes("abcd"), func(c *impl.Conn) { c.In.Parts = []impl.Part{part(5009, "z")} }))
		s = segOf(ack+fin, 5003, base.Una, 399, "cd")
		checkCame(t, "a FIN behind a part", parts(part(5003, "cd")), s, nowTick, owes)
	}
}

// isAhead asks by the number of steps forward.
func isAhead(a, b uint32) bool {
	n := forward(b, a)
	return n > 0 && n < halfWay
}

func learnedBy(t impl.Rtt, r int) impl.Rtt {
	if r < 0 || r > topSample {
		return impl.Rtt{}
	}
	return sampledBy(t, r)
}

// sawBy goes through point 1.
func sawBy(c impl.Conn, s impl.Seg, now int) (impl.Conn, []impl.Seg) {
	kind := s.Flags & (ack + rst + syn)
	if kind >= ack && forward(c.Iss, s.Ack) != 1 {
		if kind&rst == 0 {
			return c, []impl.Seg{{Seq: s.Ack, Flags: rst}}
		}
		return c, nil
	}
	switch kind {
	case ack + rst, ack + rst + syn:
		endsFor(2)(&c)
	case syn:
		hears(s.Seq, s.Ack, s.Win)(&c)
		c.State, c.In.Next = 2, s.Seq+1
		return c, []impl.Seg{{Seq: c.Iss, Ack: s.Seq + 1, Flags: syn + ack, Win: c.In.Room, Mss: 100}}
	case ack + syn:
		hears(s.Seq, s.Ack, s.Win)(&c)
		c.State, c.In.Next, c.Una, c.Owe, c.Again, c.Tries = 3, s.Seq+1, s.Ack, true, 0, 0
		if c.Timing {
			c.Timing, c.Rtt = false, learnedBy(c.Rtt, now-c.TimeAt)
		}
	}
	return c, nil
}

func liesBy(c impl.Conn, s impl.Seg) bool {
	many, room := len(s.Data)+s.Flags%2+s.Flags/2%2, c.In.Room-len(c.In.Ready)
	if many == 0 {
		return forward(c.In.Next, s.Seq) < max(room, 1)
	}
	return anyWithin(s.Seq, many, c.In.Next, room)
}

// gainedBy goes through what a new confirmation does.
func gainedBy(c impl.Conn, s impl.Seg, now int) impl.Conn {
	n, upTo, again := forward(c.Una, s.Ack), s.Ack, false
	if c.FinSent && isAhead(upTo, c.FinSeq) {
		upTo = c.FinSeq
	}
	if done := forward(c.Out.First, upTo); done <= len(c.Out.Data) {
		c.Out.First, c.Out.Data = upTo, c.Out.Data[done:]
	}
	c.Rtt.Shift = 0
	if c.Timing && isAhead(s.Ack, c.TimeSeq) {
		c.Timing, c.Rtt = false, learnedBy(c.Rtt, now-c.TimeAt)
	}
	if c.Cong, again = ackedBy(c.Cong, n, s.Ack); again || isAhead(s.Ack, c.Nxt) {
		c.Nxt = s.Ack
	}
	c.Una, c.Tries, c.Again = s.Ack, 0, 0
	if s.Ack != c.Max {
		c.Again = now + waitBy(c.Rtt)
	}
	return c
}

// agreesBy goes through points 4 and 5, and tells whether to go on.
func agreesBy(c impl.Conn, s impl.Seg, now int) (impl.Conn, bool) {
	again := false
	switch {
	case s.Ack != c.Una && !isAhead(s.Ack, c.Una):
		return c, true
	case isAhead(s.Ack, c.Max):
		c.Owe = true
		return c, false
	case c.State == 2 && isAhead(s.Ack, c.Iss):
		c.State = 3
	}
	if s.Ack != c.Una {
		c = gainedBy(c, s, now)
	} else if len(s.Data) == 0 && s.Win == c.Wnd && c.Una != c.Max {
		if c.Cong, again = dupedBy(c.Cong, forward(c.Una, c.Max), c.Max); again {
			c.Nxt, c.Timing = c.Una, false
		}
	}
	if isAhead(s.Seq, c.WndSeq) || s.Seq == c.WndSeq && !isAhead(c.WndAck, s.Ack) {
		hears(s.Seq, s.Ack, s.Win)(&c)
		if s.Win > 0 {
			c.Probe = 0
		}
	}
	return c, true
}

// connBy goes through all points for an end and a segment that are as they should be.
func connBy(c impl.Conn, s impl.Seg, now int) (impl.Conn, []impl.Seg) {
	switch {
	case c.State == 0:
		return c, nil
	case c.State == 1:
		return sawBy(c, s, now)
	case !liesBy(c, s):
		if s.Flags/rst%2 == 0 {
			c.Owe = true
			if c.State == 9 {
				c.Rest = now + restFor
			}
		}
		return c, nil
	case s.Flags/rst%2 == 1 && s.Seq == c.In.Next:
		endsFor(1)(&c)
		return c, nil
	case s.Flags/rst%2 == 1 || s.Flags/syn%2 == 1:
		c.Owe = true
		return c, nil
	case s.Flags < ack:
		return c, nil
	}
	c, more := agreesBy(c, s, now)
	if !more {
		return c, nil
	}
	if c.FinSent && isAhead(c.Una, c.FinSeq) {
		finConfirmedBy(c.State, now)(&c)
	}
	if c.State != 3 && c.State != 4 && c.State != 5 {
		return c, nil
	}
	if len(s.Data) > 0 {
		c.In, _ = cameBy(c.In, s.Seq, s.Data)
		c.Owe = true
	}
	if s.Flags%2 == 1 && forward(s.Seq, c.In.Next) == len(s.Data) && len(c.In.Parts) == 0 {
		finsBy(c.State, now)(&c)
	}
	return c, nil
}

// endsOf are ends in a state, each with something else that a point asks for.
func endsOf(state int) []impl.Conn {
	base := with(endIn(state), func(c *impl.Conn) { c.In.Room = 12 })
	out := []impl.Conn{base}
	change := func(changes ...func(*impl.Conn)) { out = append(out, with(base, changes...)) }
	change(stopsTiming, owes)
	change(func(c *impl.Conn) { c.TimeAt, c.Cong.Dups = 101, 2 })
	change(func(c *impl.Conn) { c.Cong = mending(700, 300, c.Max) })
	change(func(c *impl.Conn) { c.Cong = mending(150, 300, c.Una+1) })
	change(func(c *impl.Conn) { c.Wnd, c.Probe, c.WndSeq, c.WndAck = 0, 50, c.In.Next, c.Una+1 })
	change(func(c *impl.Conn) { c.Probe, c.WndSeq, c.Rest = 50, c.In.Next+1, 60 })
	change(func(c *impl.Conn) {
		c.Fin, c.GotFin, c.End, c.Tries, c.Rtt.Shift = !c.Fin, !c.GotFin, impl.EndAborted, topTries, topShift
	})
	change(func(c *impl.Conn) { c.In.Ready = "0123456789ab" })
	change(func(c *impl.Conn) { c.In.Ready = "0123456789" })
	if state != impl.ConnAsked {
		// Who asks has sent its SYN and nothing else, and can't have heard anything.
		change(func(c *impl.Conn) { c.Nxt, c.Cong.Dups = c.Una, 2 })
		change(func(c *impl.Conn) { c.In.Parts = []impl.Part{part(c.In.Next+2, "CD"), part(c.In.Next+11, "L")} })
	}
	return out
}

func placesNear(c impl.Conn) []uint32 {
	list := []uint32{c.Una - 1, c.Una, c.Una + 1, c.Iss, c.Iss + 1, c.TimeSeq, c.TimeSeq + 1, c.FinSeq, c.FinSeq + 1, c.Max, c.Max + 1, c.Una + halfWay}
	slices.Sort(list)
	return slices.Compact(list)
}

func holdsBy(t *testing.T, c impl.Conn, s impl.Seg, now int) impl.Conn {
	t.Helper()
	want, wantSent := connBy(c, s, now)
	got, sent := impl.ConnCame(c, s, now)
	if !equalConns(got, want) || !slices.Equal(sent, wantSent) {
		t.Fatalf("ConnCame(%s; %s; %d)\n is  %s; %s\n not %s; %s", shownConn(c), shownSeg(s), now, shownConn(got), shownSegs(sent), shownConn(want), shownSegs(wantSent))
	}
	if !impl.ConnOk(got) {
		t.Fatalf("ConnCame(%s; %s; %d)\n is  %s, which is not right", shownConn(c), shownSeg(s), now, shownConn(got))
	}
	return got
}

// P10: every end of these, with every segment of these, is as the plain steps above make it, and right.
func TestCameAtEveryEdge(t *testing.T) {
	wins, texts := []int{0, 400, topWin}, []string{"", "x", "abcd", "abcdefghijklmno"}
	for _, state := range everyState {
		for _, c := range endsOf(state) {
			okIs(t, "an end of these", c, true)
			for _, off := range []int{-15, -3, -1, 0, 1, 11, 12} {
				for i, a := range placesNear(c) {
					for flags := range 32 {
						for k, text := range texts {
							holdsBy(t, c, segOf(flags, c.In.Next+uint32(off), a, wins[(i+k+flags)%3], text), nowTick)
						}
					}
					for _, win := range wins {
						holdsBy(t, c, segOf(ack, c.In.Next+uint32(off), a, win, ""), nowTick)
						holdsBy(t, c, segOf(ack+fin, c.In.Next+uint32(off), a, win, "abc"), nowTick)
					}
				}
			}
		}
	}
}

// goesOn is something that an end does of its own accord, or with what came: it writes, sends, ends, reads, or has waited in vain.
func goesOn(c impl.Conn, kind, n, now int) impl.Conn {
	behind := c.Out.First + uint32(len(c.Out.Data))
	sends := slices.Contains([]int{impl.ConnOpen, impl.ConnFin1, impl.ConnHalf, impl.ConnBoth, impl.ConnLast}, c.State)
	switch {
	case kind == 0 && !c.Fin:
		c.Out, _ = impl.OutPut(c.Out, bytesFrom(n%50, n%400))
	case kind == 1 && sends && isAhead(behind, c.Nxt):
		if c.Nxt == c.Max && !c.Timing {
			c.Timing, c.TimeSeq, c.TimeAt = true, c.Nxt, now
		}
		c.Nxt += uint32(1 + n%forward(c.Nxt, behind))
		c.Again = now + impl.RttWait(c.Rtt)
	case kind == 2 && sends && c.Nxt == behind:
		c.Fin, c.FinSent, c.FinSeq, c.Nxt = true, true, c.Nxt, c.Nxt+1
		if c.State == impl.ConnOpen || c.State == impl.ConnHalf {
			c.State = map[int]int{impl.ConnOpen: impl.ConnFin1, impl.ConnHalf: impl.ConnLast}[c.State]
		}
	case kind == 3:
		c.In, _ = impl.InRead(c.In, n%100)
	case kind == 4 && c.Una != c.Max && c.Tries < topTries:
		c.Tries, c.Rtt, c.Cong, c.Timing = c.Tries+1, impl.RttBack(c.Rtt), impl.CongLost(c.Cong, forward(c.Una, c.Max)), false
		if sends {
			c.Nxt = c.Una
		}
	case kind == 5 && c.Wnd == 0:
		c.Probe = now + 5
	}
	if isAhead(c.Nxt, c.Max) {
		c.Max = c.Nxt
	}
	return c
}

// someSeg is a segment as it might come to c: mostly of the line, sometimes of none.
func someSeg(c impl.Conn, w []uint32) impl.Seg {
	flags := []int{ack, ack, ack, ack, ack + push, ack + push, ack + fin, ack + fin, syn, syn + ack, syn + ack, rst, rst + ack, 0, fin, int(w[0]>>8) % 32}[w[0]%16]
	if flags&rst != 0 && w[0]>>16%4 != 0 {
		flags = ack
	}
	seqs := []uint32{c.In.Next, c.In.Next, c.In.Next, c.In.Next, c.In.Next + w[1]>>8%50, c.In.Next - w[1]>>8%50, c.In.Next + w[1]>>8%4200, w[1] >> 3}
	acks := []uint32{c.Una, c.Una, c.Max, c.Max, c.Una + w[2]>>8%200, c.Una - w[2]>>8%200, c.Max + w[2]>>8%2, c.Iss + 1, w[2] >> 3}
	wins := []int{c.Wnd, c.Wnd, c.Wnd, 0, int(w[3]>>8) % 1000, int(w[3]>>8) % (topWin + 1)}
	many := []int{0, 0, 0, 1, int(w[4]>>8) % 30, int(w[4]>>8) % 200, int(w[4]>>8) % (topSeg + 1)}[w[4]%7]
	return segOf(flags, seqs[w[1]%8], acks[w[2]%9], wins[w[3]%6], bytesFrom(int(w[4]%20), many))
}

// P10: an end that asked or was asked is right after whatever comes, also with bytes, a FIN and failures of its own between.
func TestWhateverComesAnEndStaysRight(t *testing.T) {
	seen := map[int]int{}
	for seed := range 400 {
		words := spread(seed*131 + 400*8)[seed*131:]
		iss, now := []uint32{words[1], round - 30, round - 1}[seed%3], int(words[2]%1000)
		room := []int{1, 2, 20, 300, topBuf}[seed/3%5]
		c, _, _ := impl.ConnAsk(iss, room, now)
		if seed%2 == 0 {
			c, _, _ = impl.ConnHear(segOf(syn, words[3]|[]uint32{0, round - 32}[seed/2%2], 0, int(words[4]%600), ""), iss, room, now)
		}
		for i := range 200 {
			w := words[8*i+5:]
			now += int(w[5] % 7)
			if kind := int(w[6] % 12); kind < 6 && c.State != impl.ConnGone {
				c = goesOn(c, kind, int(w[7]>>4), now)
				okIs(t, "the test's own step", c, true)
			} else {
				c = holdsBy(t, c, someSeg(c, w), now)
			}
			seen[c.State]++
		}
	}
	for _, state := range everyState {
		if seen[state] < 50 {
			t.Errorf("state %d came up %d times", state, seen[state])
		}
	}
}

// allTexts are all texts of an end.
func allTexts(c impl.Conn) []string { return append(textsOf(c.In), c.Out.Data) }

// roomyEnd is an end whose texts and list are in memory of their own, with room behind the list.
func roomyEnd(c impl.Conn) (impl.Conn, []impl.Part) {
	whole := []impl.Part{}
	c.Out.Data = heap(c.Out.Data)
	c.In, whole = roomyIn(c.In, 5)
	return c, whole
}

func TestEndsAreNewMemory(t *testing.T) {
	for _, state := range everyState {
		list := append(endsOf(state), badEnds(state)...)
		for _, ready := range []string{"", "some that are ready"} {
			list = append(list, with(endIn(state), func(c *impl.Conn) {
				c.In.Ready, c.In.Parts = ready, []impl.Part{part(c.In.Next+4, "fill it"), part(c.In.Next+30, "farther on")}
			}))
		}
		for _, plain := range list {
			c, whole := roomyEnd(plain)
			was := slices.Clone(whole)
			impl.ConnOk(c)
			for _, s := range segsFor(c) {
				s.Data = heap(s.Data)
				got, sent := impl.ConnCame(c, s, nowTick)
				for _, mine := range allTexts(got) {
					for _, other := range append(allTexts(c), s.Data) {
						if sharesText(mine, other) {
							t.Fatalf("ConnCame(%s; %s) shares a text", shownConn(plain), shownSeg(s))
						}
					}
				}
				parts, segs := got.In.Parts[:cap(got.In.Parts)], sent[:cap(sent)]
				for i := range parts {
					parts[i] = part(9, "mine")
				}
				for i := range segs {
					segs[i] = segOf(1, 2, 3, 4, "mine")
				}
				if !slices.Equal(whole, was) || !equalConns(c, plain) {
					t.Fatalf("ConnCame(%s; %s) writes into its argument, or shares its list", shownConn(plain), shownSeg(s))
				}
			}
		}
	}
}

// Nothing is kept between calls: the same is answered once more, whatever came between.
func TestCameKeepsNothing(t *testing.T) {
	for _, state := range everyState {
		c := endIn(state)
		for _, s := range segsFor(c) {
			first, sent := impl.ConnCame(c, s, nowTick)
			impl.ConnCame(first, s, nowTick)
			impl.ConnCame(openEnd(), segOf(ack, 5001, 1101, 9, "other"), 7)
			again, sentAgain := impl.ConnCame(c, s, nowTick)
			if !equalConns(first, again) || !slices.Equal(sent, sentAgain) {
				t.Fatalf("ConnCame(%s; %s) is %s, then %s", shownConn(c), shownSeg(s), shownConn(first), shownConn(again))
			}
		}
	}
}
