package tests

import (
	"fmt"
	"slices"
	"testing"

	"loop.example/g00107/impl"
)

// The ends of the tables below wait so long for an answer, and this much longer behind a failure; they have so much room for what comes.
const (
	waitOfReady  = 60
	nextWait     = 120
	roomOfReady  = 293
	bytesOfReady = 250
)

var (
	// sending are the states in which bytes and a FIN go out.
	sending = []int{impl.ConnOpen, impl.ConnFin1, impl.ConnHalf, impl.ConnBoth, impl.ConnLast}
	// silent are the others.
	silent = []int{impl.ConnGone, impl.ConnAsked, impl.ConnHeard, impl.ConnFin2, impl.ConnRest}
	// writing are those in which something may be written, and an end of it said.
	writing = []int{impl.ConnAsked, impl.ConnHeard, impl.ConnOpen, impl.ConnHalf}
)

// readyEnd has so many bytes to be sent and sent none of them; nothing is timed or due.
// What no point of a test speaks of is not zero, so that it shows where it doesn't stay.
func readyEnd(state, many int) impl.Conn {
	return impl.Conn{
		State: state, Iss: ownIss, Una: 1001, Nxt: 1001, Max: 1001, Wnd: topWin, WndSeq: 4990, WndAck: 990,
		Out: outAt(1001, bytesFrom(1, many), topBuf), In: inAt(5001, "read me", ownRoom, part(5004, "apart"), part(5090, "farther")),
		FinSeq: 77, Rtt: known(40, 10, 2), Cong: impl.Cong{Wnd: topWnd, Thresh: 300, Dups: 2, Recover: 99},
		TimeSeq: 88, TimeAt: 9, Rest: 5000, Tries: 2, End: impl.EndTired,
	}
}

// doing is what an end does of its own accord at a tick.
type doing func(c impl.Conn, now int) (impl.Conn, []impl.Seg)

func aborting(c impl.Conn, now int) (impl.Conn, []impl.Seg) { return impl.ConnAbort(c) }

// checkDoes asks for one answer wherever the places lie. The change is made to the end as it lies there; the segments are told as if it lay at the tables' places.
func checkDoes(t *testing.T, what string, does doing, c impl.Conn, now int, change func(*impl.Conn), sent ...impl.Seg) {
	t.Helper()
	okIs(t, what, c, true)
	for _, m := range moves {
		was := movedEnd(c, m[0], m[1])
		want, wantSent := with(was, change), movedSent(sent, m[0], m[1])
		arg := with(was)
		got, gotSent := does(arg, now)
		if !equalConns(got, want) || !slices.Equal(gotSent, wantSent) {
			t.Errorf("%s: of %s at %d\n is  %s; %s\n not %s; %s", what, shownConn(was), now, shownConn(got), shownSegs(gotSent), shownConn(want), shownSegs(wantSent))
			return
		}
		if !equalConns(arg, was) {
			t.Fatalf("%s: writes into %s", what, shownConn(was))
		}
		okIs(t, what, got, true)
	}
}

// answer is what one of the chapter's functions answers.
type answer struct {
	name string
	c    impl.Conn
	n    int
	text string
	segs []impl.Seg
}

// answersOf are the answers of all functions that answer an end.
func answersOf(c impl.Conn, now int, text string, n int) []answer {
	out := []answer{{name: "ConnWrite"}, {name: "ConnRead"}, {name: "ConnClose"}, {name: "ConnAbort"}, {name: "ConnSend"}, {name: "ConnTick"}}
	out[0].c, out[0].n = impl.ConnWrite(c, text)
	out[1].c, out[1].text = impl.ConnRead(c, n)
	out[2].c = impl.ConnClose(c)
	out[3].c, out[3].segs = impl.ConnAbort(c)
	out[4].c, out[4].segs = impl.ConnSend(c, now)
	out[5].c, out[5].segs = impl.ConnTick(c, now)
	return out
}

// unchanged asks that c is answered as it is, and nothing else.
func unchanged(t *testing.T, what string, c impl.Conn, list ...answer) {
	t.Helper()
	for _, a := range list {
		if !equalConns(a.c, c) || a.n != 0 || a.text != "" || len(a.segs) != 0 {
			t.Fatalf("%s: %s of %s\n is %s; %d, %q; %s", what, a.name, shownConn(c), shownConn(a.c), a.n, a.text, shownSegs(a.segs))
		}
	}
}

func TestNoEndDoesAnything(t *testing.T) {
	for _, state := range everyState {
		for _, bad := range badEnds(state) {
			okIs(t, "no end", bad, false)
			for _, change := range []func(*impl.Conn){nil, owes, closes, func(c *impl.Conn) { c.Wnd = 0 }, func(c *impl.Conn) { c.In.Ready = "to be read" }} {
				c := with(bad, change)
				if impl.ConnOk(c) {
					continue
				}
				for _, now := range []int{0, nowTick, 5000, topTick} {
					unchanged(t, "no end", c, answersOf(c, now, "text", 5)...)
				}
				if due := impl.ConnDue(c); due != 0 {
					t.Errorf("ConnDue(%s) is %d", shownConn(c), due)
				}
			}
		}
	}
}

func TestNothingIsDoneAtNoTick(t *testing.T) {
	for _, state := range everyState {
		for _, c := range []impl.Conn{endIn(state), readyEnd(state, bytesOfReady), with(readyEnd(state, 0), owes, closes), dueEnd(state)} {
			okIs(t, "an end", c, true)
			for _, now := range badTicks {
				unchanged(t, fmt.Sprint("at ", now), c, answersOf(c, now, "text", 5)[4:]...)
			}
		}
	}
}

func TestSendingAtTheFirstTickAndTheLast(t *testing.T) {
	for _, state := range sending {
		for _, now := range []int{0, 1, topTick - 1, topTick} {
			c := readyEnd(state, 5)
			checkDoes(t, fmt.Sprint("at ", now), impl.ConnSend, c, now, sendsAt(now, 5), piecesOf(c, 5)...)
			none := with(c, func(c *impl.Conn) { c.Wnd = 0 })
			checkDoes(t, fmt.Sprint("no window at ", now), impl.ConnSend, none, now, func(c *impl.Conn) { c.Probe = now + waitOfReady })
		}
	}
}

func TestWrite(t *testing.T) {
	for _, state := range everyState {
		for _, fin := range []bool{false, true} {
			base := with(endIn(state), func(c *impl.Conn) {
				c.Fin, c.Out.Data, c.Out.Room = fin, bytesFrom(1, 250), ownRoom
			})
			for _, m := range moves {
				c := movedEnd(base, m[0], m[1])
				for _, row := range [][2]int{{0, 0}, {1, 1}, {49, 49}, {50, 50}, {51, 50}, {topSeg, 50}, {topBuf, 50}, {topBuf + 1, 50}, {70000, 50}} {
					text := bytesFrom(300, row[0])
					got, n := impl.ConnWrite(c, text)
					if fin || !slices.Contains(writing, state) {
						unchanged(t, "may not write", c, answer{"ConnWrite", got, n, "", nil})
						continue
					}
					want := with(c, func(c *impl.Conn) { c.Out.Data += text[:row[1]] })
					if n != row[1] || !equalConns(got, want) {
						t.Errorf("ConnWrite(%s, %d bytes)\n is %s, %d", shownConn(c), row[0], shownConn(got), n)
					}
					okIs(t, "written", got, true)
				}
			}
		}
	}
	full := with(openEnd(), func(c *impl.Conn) { c.Out = outAt(1001, bytesFrom(1, topBuf), topBuf) })
	got, n := impl.ConnWrite(full, "x")
	unchanged(t, "full", full, answer{"ConnWrite", got, n, "", nil})
	empty := with(openEnd(), func(c *impl.Conn) { c.Out = outAt(1201, "", topBuf); c.Una = 1201 })
	if got, n := impl.ConnWrite(empty, bytesFrom(5, topBuf+1)); n != topBuf || got.Out != outAt(1201, bytesFrom(5, topBuf), topBuf) {
		t.Errorf("%d bytes into the whole room: %s", n, shownConn(got))
	}
}

// readingEnd has so many bytes to be read, and room for so many more.
func readingEnd(state, many, room int) impl.Conn {
	return with(endIn(state), func(c *impl.Conn) {
		c.In = inAt(c.In.Next, bytesFrom(40, many), many+room)
		if room > 20 {
			c.In.Parts = []impl.Part{part(c.In.Next+4, "apart")}
		}
	})
}

func TestRead(t *testing.T) {
	for _, state := range everyState {
		quiet := state == impl.ConnGone || state == impl.ConnAsked || state == impl.ConnHeard
		for _, room := range []int{0, 1, 30, 98, 99, 100, 101, 500} {
			for _, many := range []int{0, 1, 2, 20, 99, 100, 600} {
				for _, owing := range []bool{false, true} {
					c := with(readingEnd(state, many, max(room, 1-many)), func(c *impl.Conn) { c.Owe = owing })
					okIs(t, "to be read", c, true)
					for _, n := range []int{0, 1, 2, 20, 99, 100, 101, 600, 601, topBuf - 1, topBuf} {
						took := min(n, many)
						want := with(c, func(c *impl.Conn) {
							c.In.Ready = c.In.Ready[took:]
							c.Owe = owing || took > 0 && room < oneSeg && !quiet
						})
						got, text := impl.ConnRead(c, n)
						if text != c.In.Ready[:took] || !equalConns(got, want) {
							t.Errorf("ConnRead(%s, %d)\n is  %s, %q\n not %s", shownConn(c), n, shownConn(got), text, shownConn(want))
						}
						okIs(t, "read", got, true)
					}
					for _, n := range badAmounts {
						got, text := impl.ConnRead(c, n)
						unchanged(t, fmt.Sprint(n, " bytes"), c, answer{"ConnRead", got, 0, text, nil})
					}
				}
			}
		}
	}
}

// What counts is the room ahead of the reading, not how much is free behind it.
func TestReadOwesByTheRoomAhead(t *testing.T) {
	for _, row := range []struct {
		room, many, n int
		owe           bool
	}{
		{99, 1, 1, true}, {99, 50, 1, true}, {99, 50, 50, true}, {0, 50, 1, true}, {0, 300, 300, true},
		{100, 1, 1, false}, {100, 50, 50, false}, {101, 50, 1, false}, {99, 50, 0, false}, {0, 50, 0, false}, {99, 0, 5, false},
	} {
		for _, state := range everyState[3:] {
			c := readingEnd(state, row.many, row.room)
			if got, _ := impl.ConnRead(c, row.n); got.Owe != row.owe {
				t.Errorf("room %d, %d of %d bytes read in state %d: Owe is %v", row.room, row.n, row.many, state, got.Owe)
			}
		}
	}
}

func TestClose(t *testing.T) {
	for _, state := range everyState {
		for _, fin := range []bool{false, true} {
			for _, base := range []impl.Conn{endIn(state), readyEnd(state, 9), with(readyEnd(state, 0), owes)} {
				c := with(base, func(c *impl.Conn) { c.Fin = fin })
				want := with(c, func(c *impl.Conn) { c.Fin = fin || slices.Contains(writing, state) })
				got := impl.ConnClose(c)
				if !equalConns(got, want) {
					t.Errorf("ConnClose(%s)\n is %s", shownConn(c), shownConn(got))
				}
				unchanged(t, "closed twice", got, answer{"ConnClose", impl.ConnClose(got), 0, "", nil})
				okIs(t, "closed", got, true)
			}
		}
	}
}

func TestAbort(t *testing.T) {
	tells := []int{impl.ConnHeard, impl.ConnOpen, impl.ConnFin1, impl.ConnFin2, impl.ConnHalf}
	for _, state := range everyState {
		list := []impl.Conn{
			endIn(state), readyEnd(state, 9), dueEnd(state),
			with(endIn(state), owes, func(c *impl.Conn) { c.Again, c.Probe, c.Rest, c.End = 40, 50, 60, impl.EndReset }),
		}
		if state != impl.ConnAsked {
			// The reset's place is Nxt, which need not be Max.
			list = append(list, with(endIn(state), func(c *impl.Conn) { c.Nxt = c.Una }), with(readyEnd(state, 9), func(c *impl.Conn) { c.Nxt, c.Max = 1005, 1010 }))
		}
		for _, c := range list {
			switch {
			case state == impl.ConnGone:
				checkDoes(t, "gone", aborting, c, 0, nil)
			case slices.Contains(tells, state):
				checkDoes(t, "a reset", aborting, c, 0, endsFor(impl.EndAborted), impl.Seg{Seq: c.Nxt, Ack: c.In.Next, Flags: rst + ack})
			default:
				checkDoes(t, "no reset", aborting, c, 0, endsFor(impl.EndAborted))
			}
		}
	}
}

// piecesOf are segments with so many bytes each, from Nxt on; the one with the last byte is pushed.
func piecesOf(c impl.Conn, sizes ...int) []impl.Seg {
	out, at := []impl.Seg{}, forward(c.Out.First, c.Nxt)
	for _, n := range sizes {
		flags := ack
		if at+n == len(c.Out.Data) {
			flags += push
		}
		out = append(out, segOf(flags, c.Out.First+uint32(at), c.In.Next, c.In.Room-len(c.In.Ready), c.Out.Data[at:at+n]))
		at += n
	}
	return out
}

// sendsAt is what so many new bytes that go out at once, the first of them timed, change in an end that waited for nothing.
func sendsAt(now, n int) func(*impl.Conn) {
	return func(c *impl.Conn) {
		c.Timing, c.TimeSeq, c.TimeAt, c.Again, c.Owe = true, c.Nxt, now, now+waitOfReady, false
		c.Nxt += uint32(n)
		c.Max = c.Nxt
	}
}

func sum(list []int) int {
	n := 0
	for _, x := range list {
		n += x
	}
	return n
}

// Point 1, by hand: flags, places and bytes.
func TestPiecesByHand(t *testing.T) {
	for _, state := range sending {
		c := readyEnd(state, bytesOfReady)
		text := c.Out.Data
		checkDoes(t, "three", impl.ConnSend, c, nowTick, func(c *impl.Conn) {
			c.Nxt, c.Max, c.Timing, c.TimeSeq, c.TimeAt, c.Again = c.Una+250, c.Una+250, true, c.Una, 100, 160
		},
			impl.Seg{Seq: 1001, Ack: 5001, Flags: 16, Win: 293, Data: text[:100]},
			impl.Seg{Seq: 1101, Ack: 5001, Flags: 16, Win: 293, Data: text[100:200]},
			impl.Seg{Seq: 1201, Ack: 5001, Flags: 24, Win: 293, Data: text[200:]},
		)
	}
}

// Point 1: how much goes out, of so many bytes, with so much that may be under way.
func TestPiecesBySize(t *testing.T) {
	for _, row := range []struct {
		bytes, may int
		sizes      []int
	}{
		{0, topWin, nil}, {1, topWin, []int{1}}, {2, topWin, []int{2}}, {99, topWin, []int{99}}, {100, topWin, []int{100}}, {101, topWin, []int{100, 1}},
		{199, topWin, []int{100, 99}}, {200, topWin, []int{100, 100}}, {201, topWin, []int{100, 100, 1}}, {250, topWin, []int{100, 100, 50}},
		{0, 1, nil}, {1, 1, []int{1}}, {2, 1, []int{1}}, {250, 1, []int{1}}, {250, 2, []int{2}}, {250, 99, []int{99}}, {99, 99, []int{99}}, {100, 99, []int{99}}, {101, 99, []int{99}},
		{99, 100, []int{99}}, {100, 100, []int{100}}, {101, 100, []int{100}}, {250, 100, []int{100}},
		{100, 101, []int{100}}, {101, 101, []int{100, 1}}, {102, 101, []int{100}}, {250, 101, []int{100}},
		{150, 149, []int{100}}, {150, 150, []int{100, 50}}, {150, 151, []int{100, 50}}, {151, 150, []int{100}},
		{250, 199, []int{100}}, {250, 200, []int{100, 100}}, {250, 201, []int{100, 100}}, {250, 249, []int{100, 100}}, {250, 250, []int{100, 100, 50}}, {250, 251, []int{100, 100, 50}}, {251, 250, []int{100, 100}},
		{300, 299, []int{100, 100}}, {300, 300, []int{100, 100, 100}}, {350, 300, []int{100, 100, 100}},
	} {
		for _, state := range sending {
			change := sendsAt(nowTick, sum(row.sizes))
			if len(row.sizes) == 0 {
				change = nil
			}
			limits := func(what string, wnd, cong int) {
				t.Helper()
				c := with(readyEnd(state, row.bytes), func(c *impl.Conn) { c.Wnd, c.Cong.Wnd = wnd, cong })
				checkDoes(t, fmt.Sprintf("%d bytes, %d by %s", row.bytes, row.may, what), impl.ConnSend, c, nowTick, change, piecesOf(c, row.sizes...)...)
			}
			limits("Wnd", row.may, topWnd)
			if row.may >= lowWnd && row.may <= topWnd {
				limits("Cong.Wnd", topWin, row.may)
				limits("Cong.Wnd, by one", row.may+1, row.may)
				limits("Wnd, by one", row.may, row.may+1)
				limits("both", row.may, row.may)
			}
		}
	}
}

// Point 1, with so many bytes under way: they count against what may be, and a piece that is neither whole nor the last waits.
func TestPiecesWithSomethingUnderWay(t *testing.T) {
	for _, row := range []struct {
		under, wnd int
		sizes      []int
	}{
		{100, 0, nil}, {100, 1, nil}, {100, 99, nil}, {100, 100, nil}, {100, 101, nil}, {100, 199, nil}, {100, 200, []int{100}}, {100, 249, []int{100}}, {100, 250, []int{100, 50}}, {100, 900, []int{100, 50}},
		{1, 1, nil}, {1, 2, nil}, {1, 100, nil}, {1, 101, []int{100}}, {1, 102, []int{100}}, {1, 200, []int{100}}, {1, 201, []int{100, 100}}, {1, 249, []int{100, 100}}, {1, 250, []int{100, 100, 49}},
		{150, 150, nil}, {150, 249, nil}, {150, 250, []int{100}}, {150, 149, nil}, {150, 100, nil},
		{200, 249, nil}, {200, 250, []int{50}}, {200, 199, nil}, {249, 249, nil}, {249, 250, []int{1}}, {250, 250, nil}, {250, 9000, nil}, {250, 100, nil},
	} {
		for _, state := range sending {
			check := func(what string, wnd, cong int) {
				t.Helper()
				c := with(readyEnd(state, bytesOfReady), func(c *impl.Conn) {
					c.Nxt, c.Max, c.Again, c.Timing, c.Wnd, c.Cong.Wnd = 1001+uint32(row.under), 1001+uint32(row.under), 173, true, wnd, cong
				})
				checkDoes(t, fmt.Sprintf("%d under way, %d by %s", row.under, row.wnd, what), impl.ConnSend, c, nowTick, func(c *impl.Conn) {
					c.Nxt += uint32(sum(row.sizes))
					c.Max = c.Nxt
				}, piecesOf(c, row.sizes...)...)
			}
			check("Wnd", row.wnd, topWnd)
			if row.wnd >= lowWnd && row.wnd <= topWnd {
				check("Cong.Wnd", topWin, row.wnd)
			}
		}
	}
}

// Under way is what was sent since Una up to Nxt, whatever was ever sent.
func TestPiecesThatGoOutAgain(t *testing.T) {
	for _, row := range []struct {
		nxt, most, wnd int
		sizes          []int
		newMost, timed int
	}{
		{0, 250, 9000, []int{100, 100, 50}, 250, -1}, {0, 250, 99, []int{99}, 250, -1}, {0, 250, 150, []int{100}, 250, -1}, {0, 251, 9000, []int{100, 100, 50}, 251, -1},
		{0, 1, 9000, []int{100, 100, 50}, 250, 100}, {0, 100, 9000, []int{100, 100, 50}, 250, 100}, {0, 101, 9000, []int{100, 100, 50}, 250, 200}, {0, 150, 9000, []int{100, 100, 50}, 250, 200},
		{0, 200, 9000, []int{100, 100, 50}, 250, 200}, {0, 201, 9000, []int{100, 100, 50}, 250, -1}, {0, 249, 9000, []int{100, 100, 50}, 250, -1},
		{0, 100, 100, []int{100}, 100, -1}, {0, 50, 100, []int{100}, 100, -1}, {0, 150, 200, []int{100, 100}, 200, -1}, {0, 300, 200, []int{100, 100}, 300, -1},
		{0, 0, 200, []int{100, 100}, 200, 0}, {100, 100, 9000, []int{100, 50}, 250, 100}, {100, 120, 9000, []int{100, 50}, 250, 200}, {100, 200, 200, []int{100}, 200, -1}, {200, 230, 9000, []int{50}, 250, -1},
		{100, topPlaces, 9000, []int{100, 50}, topPlaces, -1},
	} {
		for _, timing := range []bool{false, true} {
			for _, again := range []int{0, 1, 173} {
				for _, state := range sending {
					c := with(readyEnd(state, bytesOfReady), func(c *impl.Conn) {
						c.Nxt, c.Max, c.Wnd, c.Timing, c.Again, c.Owe = 1001+uint32(row.nxt), 1001+uint32(row.most), row.wnd, timing, again, true
					})
					checkDoes(t, fmt.Sprintf("Nxt %d, Max %d", row.nxt, row.most), impl.ConnSend, c, nowTick, func(c *impl.Conn) {
						c.Nxt += uint32(sum(row.sizes))
						c.Max, c.Owe = c.Una+uint32(row.newMost), false
						if again == 0 {
							c.Again = nowTick + waitOfReady
						}
						if !timing && row.timed >= 0 {
							c.Timing, c.TimeSeq, c.TimeAt = true, c.Una+uint32(row.timed), nowTick
						}
					}, piecesOf(c, row.sizes...)...)
				}
			}
		}
	}
}

// The whole of a buffer, and what its pieces say of the room.
func TestPiecesOfAWholeBuffer(t *testing.T) {
	sizes := []int{}
	for range 40 {
		sizes = append(sizes, 100)
	}
	sizes = append(sizes, 96)
	for _, state := range sending {
		c := readyEnd(state, topBuf)
		checkDoes(t, "a whole buffer", impl.ConnSend, c, nowTick, sendsAt(nowTick, topBuf), piecesOf(c, sizes...)...)
		for _, room := range []int{0, 1, topBuf - 7} {
			c := with(readyEnd(state, 3), func(c *impl.Conn) { c.In.Room, c.In.Parts = 7+room, nil })
			checkDoes(t, "room", impl.ConnSend, c, nowTick, sendsAt(nowTick, 3), segOf(24, 1001, 5001, room, c.Out.Data))
		}
	}
}

// How long to wait is what Rtt says.
func TestPiecesAndTheWait(t *testing.T) {
	for _, row := range []struct {
		rtt  impl.Rtt
		wait int
	}{{impl.Rtt{}, 10}, {impl.Rtt{Shift: 3}, 80}, {known(0, 0, 0), 2}, {known(40, 10, 0), 15}, {known(40, 10, 8), 600}} {
		for _, state := range sending {
			c := with(readyEnd(state, 3), func(c *impl.Conn) { c.Rtt = row.rtt })
			checkDoes(t, "the wait", impl.ConnSend, c, nowTick, all(sendsAt(nowTick, 3), func(c *impl.Conn) { c.Again = nowTick + row.wait }), piecesOf(c, 3)...)
			none := with(c, func(c *impl.Conn) { c.Wnd = 0 })
			checkDoes(t, "the wait for a window", impl.ConnSend, none, nowTick, func(c *impl.Conn) { c.Probe = nowTick + row.wait })
		}
	}
}

func closes(c *impl.Conn) { c.Fin = true }

// finsState is what a FIN that goes out makes of a state.
func finsState(c *impl.Conn) {
	switch c.State {
	case impl.ConnOpen:
		c.State = impl.ConnFin1
	case impl.ConnHalf:
		c.State = impl.ConnLast
	}
}

// finSent is what a FIN at Nxt changes.
func finSent(c *impl.Conn) {
	c.FinSent, c.FinSeq, c.Owe = true, c.Nxt, false
	c.Nxt++
	if isAhead(c.Nxt, c.Max) {
		c.Max = c.Nxt
	}
	if c.Again == 0 {
		c.Again = nowTick + waitOfReady
	}
	finsState(c)
}

func finOf(c impl.Conn, seq uint32) impl.Seg {
	return segOf(fin+ack, seq, c.In.Next, c.In.Room-len(c.In.Ready), "")
}

// Point 2: a FIN goes out behind the last byte, timed never, whatever the window.
func TestFinGoesOut(t *testing.T) {
	for _, state := range sending {
		for _, wnd := range []int{0, 1, topWin} {
			for _, owing := range []bool{false, true} {
				for _, again := range []int{0, 1, 173} {
					c := with(readyEnd(state, 0), closes, func(c *impl.Conn) { c.Wnd, c.Owe, c.Again = wnd, owing, again })
					checkDoes(t, "a FIN alone", impl.ConnSend, c, nowTick, finSent, finOf(c, 1001))
					under := with(readyEnd(state, bytesOfReady), closes, func(c *impl.Conn) { c.Nxt, c.Max, c.Wnd, c.Owe, c.Again = 1251, 1251, wnd, owing, again })
					checkDoes(t, "a FIN behind what is under way", impl.ConnSend, under, nowTick, finSent, finOf(c, 1251))
				}
			}
		}
		c := with(readyEnd(state, 120), closes)
		checkDoes(t, "a FIN behind what goes out now", impl.ConnSend, c, nowTick, all(sendsAt(nowTick, 120), finSent), append(piecesOf(c, 100, 20), finOf(c, 1121))...)
		owing := with(c, owes)
		checkDoes(t, "a FIN and what is owed", impl.ConnSend, owing, nowTick, all(sendsAt(nowTick, 120), finSent), append(piecesOf(c, 100, 20), finOf(c, 1121))...)
	}
}

func TestFinByHand(t *testing.T) {
	for state, becomes := range map[int]int{impl.ConnOpen: 4, impl.ConnHalf: 8, impl.ConnFin1: 4, impl.ConnBoth: 7, impl.ConnLast: 8} {
		got, sent := impl.ConnSend(with(readyEnd(state, 0), closes), 100)
		want := with(readyEnd(becomes, 0), func(c *impl.Conn) {
			c.Fin, c.FinSent, c.FinSeq, c.Nxt, c.Max, c.Again = true, true, 1001, 1002, 1002, 160
		})
		if !equalConns(got, want) || !slices.Equal(sent, []impl.Seg{{Seq: 1001, Ack: 5001, Flags: 17, Win: 293}}) {
			t.Errorf("state %d: %s; %s", state, shownConn(got), shownSegs(sent))
		}
		// It doesn't go out once more of itself.
		again, sent := impl.ConnSend(got, 101)
		unchanged(t, "sent", got, answer{"ConnSend", again, 0, "", sent})
	}
}

func TestFinStays(t *testing.T) {
	for _, state := range sending {
		open := readyEnd(state, 0)
		checkDoes(t, "without Fin", impl.ConnSend, open, nowTick, nil)
		checkDoes(t, "without Fin, though sent", impl.ConnSend, with(open, func(c *impl.Conn) { c.FinSent, c.FinSeq = true, 1001 }), nowTick, nil)
		none := with(readyEnd(state, 5), closes, func(c *impl.Conn) { c.Wnd = 0 })
		checkDoes(t, "with bytes left and no window", impl.ConnSend, none, nowTick, func(c *impl.Conn) { c.Probe = nowTick + waitOfReady })
		small := with(readyEnd(state, 5), closes, func(c *impl.Conn) { c.Wnd = 4 })
		checkDoes(t, "with a byte left", impl.ConnSend, small, nowTick, sendsAt(nowTick, 4), piecesOf(small, 4)...)
		waits := with(readyEnd(state, bytesOfReady), closes, func(c *impl.Conn) { c.Nxt, c.Max, c.Again, c.Timing, c.Wnd = 1201, 1201, 173, true, 249 })
		checkDoes(t, "with bytes that wait", impl.ConnSend, waits, nowTick, nil)
		for _, off := range []int{-1, 1, 2, halfWay} {
			elsewhere := with(readyEnd(state, 0), closes, func(c *impl.Conn) { c.FinSent, c.FinSeq = true, 1001+uint32(off) })
			checkDoes(t, "sent elsewhere", impl.ConnSend, elsewhere, nowTick, nil)
		}
		sent := with(readyEnd(state, 0), closes, func(c *impl.Conn) { c.FinSent, c.FinSeq, c.Nxt, c.Max = true, 1001, 1002, 1002 })
		checkDoes(t, "under way", impl.ConnSend, sent, nowTick, nil)
		done := with(sent, func(c *impl.Conn) { c.Una = 1002 })
		checkDoes(t, "confirmed", impl.ConnSend, done, nowTick, nil)
		beyond := with(readyEnd(state, 0), closes, func(c *impl.Conn) { c.Nxt, c.Max = 1002, 1002 })
		checkDoes(t, "Nxt beyond the last byte", impl.ConnSend, beyond, nowTick, nil)
	}
}

// A FIN goes out again in its place, and Max and Again stay where they are.
func TestFinGoesOutAgain(t *testing.T) {
	for _, state := range sending {
		sent := func(nxt uint32) impl.Conn {
			return with(readyEnd(state, 120), closes, func(c *impl.Conn) {
				c.FinSent, c.FinSeq, c.Nxt, c.Max, c.Again = true, 1121, nxt, 1122, 173
			})
		}
		checkDoes(t, "alone", impl.ConnSend, sent(1121), nowTick, finSent, finOf(sent(0), 1121))
		checkDoes(t, "with bytes", impl.ConnSend, sent(1001), nowTick, all(func(c *impl.Conn) { c.Nxt += 120 }, finSent), append(piecesOf(sent(1001), 100, 20), finOf(sent(0), 1121))...)
		checkDoes(t, "with the last bytes", impl.ConnSend, sent(1101), nowTick, all(func(c *impl.Conn) { c.Nxt += 20 }, finSent), append(piecesOf(sent(1101), 20), finOf(sent(0), 1121))...)
		far := with(sent(1121), func(c *impl.Conn) { c.Max = 1130 })
		checkDoes(t, "with Max farther on", impl.ConnSend, far, nowTick, finSent, finOf(far, 1121))
		near := with(sent(1121), func(c *impl.Conn) { c.Max, c.Again = 1121, 0 })
		checkDoes(t, "with Max at it", impl.ConnSend, near, nowTick, finSent, finOf(near, 1121))
		small := with(sent(1001), func(c *impl.Conn) { c.Wnd = 100 })
		checkDoes(t, "not, where bytes wait ahead of it", impl.ConnSend, small, nowTick, func(c *impl.Conn) { c.Nxt += 100 }, piecesOf(small, 100)...)
		timed := with(sent(1121), func(c *impl.Conn) { c.Timing, c.TimeSeq, c.TimeAt = true, 1001, 93 })
		checkDoes(t, "while something is timed", impl.ConnSend, timed, nowTick, finSent, finOf(timed, 1121))
	}
}

// Point 3.
func TestProbeIsPlanned(t *testing.T) {
	for _, state := range sending {
		base := with(readyEnd(state, 5), func(c *impl.Conn) { c.Wnd = 0 })
		plans := func(c *impl.Conn) { c.Probe = nowTick + waitOfReady }
		checkDoes(t, "no window", impl.ConnSend, base, nowTick, plans)
		checkDoes(t, "no window, more was sent", impl.ConnSend, with(base, func(c *impl.Conn) { c.Max = 1006 }), nowTick, plans)
		checkDoes(t, "no window, Again is set", impl.ConnSend, with(base, func(c *impl.Conn) { c.Again = 173 }), nowTick, plans)
		checkDoes(t, "no window, one byte", impl.ConnSend, with(base, func(c *impl.Conn) { c.Out.Data = "x" }), nowTick, plans)
		for _, probe := range []int{1, 99, 100, 101, topDue} {
			checkDoes(t, "planned", impl.ConnSend, with(base, func(c *impl.Conn) { c.Probe = probe }), nowTick, nil)
		}
		checkDoes(t, "nothing left", impl.ConnSend, with(base, func(c *impl.Conn) { c.Out.Data = "" }), nowTick, nil)
		checkDoes(t, "something under way", impl.ConnSend, with(base, func(c *impl.Conn) { c.Nxt, c.Max, c.Again = 1002, 1002, 173 }), nowTick, nil)
		checkDoes(t, "all under way", impl.ConnSend, with(base, func(c *impl.Conn) { c.Nxt, c.Max, c.Again = 1006, 1006, 173 }), nowTick, nil)
		confirms := impl.Seg{Seq: 1001, Ack: 5001, Flags: ack, Win: roomOfReady}
		checkDoes(t, "no window, and a confirmation owed", impl.ConnSend, with(base, owes), nowTick, all(plans, func(c *impl.Conn) { c.Owe = false }), confirms)
		small := with(readyEnd(state, 5), func(c *impl.Conn) { c.Wnd = 1 })
		checkDoes(t, "a window of 1", impl.ConnSend, small, nowTick, sendsAt(nowTick, 1), piecesOf(small, 1)...)
		fins := with(base, closes, func(c *impl.Conn) { c.Out.Data = "" })
		checkDoes(t, "a FIN alone", impl.ConnSend, fins, nowTick, finSent, finOf(fins, 1001))
	}
}

// Point 4, in every state: a confirmation is told from Max, not from Nxt.
func TestWhatIsOwedGoesOut(t *testing.T) {
	for _, state := range everyState {
		pays := func(c *impl.Conn) { c.Owe = false }
		for _, most := range []uint32{1001, 1002, 1090} {
			c := with(readyEnd(state, 0), owes, func(c *impl.Conn) { c.Max = most })
			if state == impl.ConnGone || state == impl.ConnAsked {
				checkDoes(t, "owed", impl.ConnSend, c, nowTick, nil)
			} else {
				checkDoes(t, "owed", impl.ConnSend, c, nowTick, pays, impl.Seg{Seq: most, Ack: 5001, Flags: 16, Win: 293})
			}
			checkDoes(t, "not owed", impl.ConnSend, with(c, pays), nowTick, nil)
		}
		full := with(readyEnd(state, 0), owes, func(c *impl.Conn) { c.In = inAt(5001, "full up", 7) })
		if state != impl.ConnGone && state != impl.ConnAsked {
			checkDoes(t, "owed without room", impl.ConnSend, full, nowTick, pays, impl.Seg{Seq: 1001, Ack: 5001, Flags: 16})
		}
	}
	for _, state := range sending {
		c := with(readyEnd(state, 3), owes)
		checkDoes(t, "what goes out pays it", impl.ConnSend, c, nowTick, sendsAt(nowTick, 3), piecesOf(c, 3)...)
	}
}

// In the other states nothing goes out but what is owed.
func TestSilentStatesSendNothing(t *testing.T) {
	for _, state := range silent {
		for _, c := range []impl.Conn{
			readyEnd(state, bytesOfReady), with(readyEnd(state, 0), closes), with(readyEnd(state, bytesOfReady), closes),
			with(readyEnd(state, bytesOfReady), func(c *impl.Conn) { c.Wnd = 0 }), with(readyEnd(state, 0), closes, func(c *impl.Conn) { c.FinSent, c.FinSeq = true, 1001 }),
			endIn(state), dueEnd(state),
		} {
			checkDoes(t, fmt.Sprint("state ", state), impl.ConnSend, c, nowTick, nil)
			if state != impl.ConnGone && state != impl.ConnAsked {
				owing := with(c, owes)
				checkDoes(t, fmt.Sprint("state ", state, ", owing"), impl.ConnSend, owing, nowTick, func(c *impl.Conn) { c.Owe = false }, segOf(ack, c.Max, c.In.Next, c.In.Room-len(c.In.Ready), ""))
			}
		}
	}
}

// dueEnd has sent 200 of its 250 bytes and waits for an answer until tick 100; it rests until 5000, where it rests.
func dueEnd(state int) impl.Conn {
	return with(readyEnd(state, bytesOfReady), func(c *impl.Conn) {
		c.Nxt, c.Max, c.Timing, c.TimeSeq, c.TimeAt, c.Again = 1201, 1201, true, 1101, 93, 100
	})
}

// failed is what every failure changes that doesn't end the line.
func failed(now, flight int) func(*impl.Conn) {
	return func(c *impl.Conn) {
		c.Tries, c.Rtt.Shift, c.Timing, c.Again = c.Tries+1, c.Rtt.Shift+1, false, now+nextWait
		c.Cong = impl.Cong{Wnd: lowWnd, Thresh: halfOf(flight)}
	}
}

func TestNothingIsDue(t *testing.T) {
	for _, state := range everyState {
		base := dueEnd(state)
		for _, again := range []int{0, 101, topTick, topDue} {
			for _, probe := range []int{0, 101, topTick, topDue} {
				for _, rest := range []int{101, topTick, topDue} {
					c := with(base, owes, func(c *impl.Conn) { c.Again, c.Probe, c.Rest = again, probe, rest })
					checkDoes(t, "not yet", impl.ConnTick, c, nowTick, nil)
					none := with(c, closes, func(c *impl.Conn) { c.Wnd, c.Nxt = 0, c.Una })
					checkDoes(t, "not yet, without a window", impl.ConnTick, none, nowTick, nil)
				}
			}
		}
		checkDoes(t, "at 0", impl.ConnTick, with(base, func(c *impl.Conn) { c.Again, c.Probe, c.Rest = 1, 1, 1 }), 0, nil)
		checkDoes(t, "nothing at 0", impl.ConnTick, with(base, func(c *impl.Conn) { c.Again = 0 }), 0, nil)
	}
}

func TestWhatIsGoneIsDueNothing(t *testing.T) {
	for _, now := range []int{0, 1, 99, 100, 101, topTick} {
		for _, rest := range []int{0, 50, 100} {
			c := with(dueEnd(impl.ConnGone), owes, func(c *impl.Conn) { c.Probe, c.Rest, c.Wnd, c.Nxt = 100, rest, 0, 1001 })
			checkDoes(t, "gone", impl.ConnTick, c, now, nil)
		}
	}
}

// Point 1.
func TestRestIsOver(t *testing.T) {
	for _, row := range []struct {
		rest, now int
		over      bool
	}{
		{100, 99, false}, {100, 100, true}, {100, 101, true}, {1, 0, false}, {1, 1, true}, {topTick, topTick - 1, false}, {topTick, topTick, true}, {topTick + 1, topTick, false}, {topDue, topTick, false}, {topDue, 0, false},
		// 0 is not above any tick.
		{0, 0, true}, {0, 5, true}, {0, topTick, true},
	} {
		for _, c := range []impl.Conn{
			endIn(impl.ConnRest), with(endIn(impl.ConnRest), owes, func(c *impl.Conn) { c.End = impl.EndReset }),
		} {
			c.Rest = row.rest
			change := endsFor(impl.EndNone)
			if !row.over {
				change = nil
			}
			checkDoes(t, fmt.Sprintf("rests until %d, at %d", row.rest, row.now), impl.ConnTick, c, row.now, change)
			if row.over {
				// What else is due then isn't done any more.
				due := with(c, func(c *impl.Conn) { c.Again, c.Probe, c.Wnd, c.Tries = 1, 1, 0, topTries })
				checkDoes(t, "rests, and all is due", impl.ConnTick, due, row.now, endsFor(impl.EndNone))
			}
		}
		for _, state := range everyState {
			if state != impl.ConnRest {
				other := with(dueEnd(state), func(c *impl.Conn) { c.Again, c.Rest = 0, row.rest })
				checkDoes(t, "another state", impl.ConnTick, other, row.now, nil)
			}
		}
	}
}

// As long as it rests, what is due is done as ever.
func TestRestingAnswersWhatIsDue(t *testing.T) {
	c := with(dueEnd(impl.ConnRest), owes, func(c *impl.Conn) { c.Rest = 101 })
	checkDoes(t, "Again", impl.ConnTick, c, nowTick, all(failed(nowTick, 200), func(c *impl.Conn) { c.Nxt, c.Owe = c.Una, false }), segOf(ack, 1201, 5001, roomOfReady, ""))
	none := with(c, func(c *impl.Conn) { c.Wnd, c.Again, c.Probe = 0, 0, 100 })
	checkDoes(t, "Probe", impl.ConnTick, none, nowTick, probes(nowTick), probeOf(c))
}

// probes is what a probe changes.
func probes(now int) func(*impl.Conn) {
	return func(c *impl.Conn) {
		c.Timing, c.Rtt.Shift, c.Probe = false, c.Rtt.Shift+1, now+nextWait
		if c.Max == c.Una {
			c.Max++
		}
	}
}

func probeOf(c impl.Conn) impl.Seg {
	return segOf(ack, c.Una, c.In.Next, c.In.Room-len(c.In.Ready), c.Out.Data[:1])
}

// probedEnd has no window, nothing under way, and a probe that is due at tick 100.
func probedEnd(state int) impl.Conn {
	return with(readyEnd(state, 5), func(c *impl.Conn) { c.Wnd, c.Probe, c.Timing = 0, 100, true })
}

// Point 2, in every state but what is gone.
func TestProbeGoesOut(t *testing.T) {
	for _, state := range everyState[1:] {
		base := probedEnd(state)
		for _, now := range []int{100, 101, 4999} {
			checkDoes(t, "a probe", impl.ConnTick, base, now, probes(now), probeOf(base))
			checkDoes(t, "a probe, a confirmation owed", impl.ConnTick, with(base, owes), now, probes(now), probeOf(base))
		}
		for _, most := range []uint32{1001, 1002, 1003, 1006, 1001 + topPlaces} {
			c := with(base, func(c *impl.Conn) { c.Max = most })
			checkDoes(t, fmt.Sprint("Max ", most), impl.ConnTick, c, nowTick, probes(nowTick), probeOf(c))
		}
		for _, off := range []uint32{1, 4} {
			c := with(base, func(c *impl.Conn) { c.Nxt, c.Max, c.Again = 1001+off, 1006, 173 })
			checkDoes(t, "something under way", impl.ConnTick, c, nowTick, probes(nowTick), probeOf(c))
		}
		one := with(base, closes, func(c *impl.Conn) { c.Out.Data = "x" })
		checkDoes(t, "one byte and Fin", impl.ConnTick, one, nowTick, probes(nowTick), segOf(16, 1001, 5001, 293, "x"))
		for _, row := range []struct {
			rtt  impl.Rtt
			next impl.Rtt
			wait int
		}{{impl.Rtt{}, impl.Rtt{Shift: 1}, 20}, {known(40, 10, 5), known(40, 10, 6), 600}, {known(40, 10, 8), known(40, 10, 8), 600}, {known(0, 0, 0), known(0, 0, 1), 4}} {
			c := with(base, func(c *impl.Conn) { c.Rtt = row.rtt })
			checkDoes(t, "the wait", impl.ConnTick, c, nowTick, all(probes(nowTick), func(c *impl.Conn) { c.Rtt, c.Probe = row.next, nowTick+row.wait }), probeOf(c))
		}
	}
	for _, state := range sending {
		last := with(probedEnd(state), func(c *impl.Conn) { c.Probe = topTick })
		checkDoes(t, "at the last tick", impl.ConnTick, last, topTick, probes(topTick), probeOf(last))
	}
}

func TestProbeIsDroppedOrNotDue(t *testing.T) {
	for _, state := range everyState[1:] {
		base := probedEnd(state)
		drops := func(c *impl.Conn) { c.Probe = 0 }
		for _, now := range []int{0, 1, 99} {
			checkDoes(t, "not due", impl.ConnTick, base, now, nil)
		}
		for _, now := range []int{100, 101} {
			for _, wnd := range []int{1, 400, topWin} {
				checkDoes(t, "a window", impl.ConnTick, with(base, func(c *impl.Conn) { c.Wnd = wnd }), now, drops)
			}
			checkDoes(t, "no byte", impl.ConnTick, with(base, func(c *impl.Conn) { c.Out.Data = "" }), now, drops)
			for _, off := range []uint32{5, 6} {
				checkDoes(t, "nothing left", impl.ConnTick, with(base, func(c *impl.Conn) { c.Nxt, c.Max = 1001+off, 1001+off }), now, drops)
			}
		}
	}
	for _, state := range []int{impl.ConnAsked, impl.ConnHeard} {
		// Out begins behind the SYN, so that something is left while no byte is there.
		c := with(probedEnd(state), func(c *impl.Conn) { c.Out = outAt(1002, "", 9) })
		checkDoes(t, "left, but no byte", impl.ConnTick, c, nowTick, func(c *impl.Conn) { c.Probe = 0 })
		behind := with(c, func(c *impl.Conn) { c.Out.Data = "xy" })
		checkDoes(t, "a byte behind the SYN", impl.ConnTick, behind, nowTick, probes(nowTick), segOf(16, 1001, 5001, 293, "x"))
	}
	for _, state := range sending {
		// A FIN that was confirmed is behind Out.
		c := with(probedEnd(state), closes, func(c *impl.Conn) { c.Out, c.FinSent, c.FinSeq = outAt(1000, "", 9), true, 1000 })
		checkDoes(t, "a FIN confirmed", impl.ConnTick, c, nowTick, func(c *impl.Conn) { c.Probe = 0 })
	}
}

// Point 3: in every state but what is gone.
func TestAgainUntilTired(t *testing.T) {
	for _, state := range everyState[1:] {
		for _, now := range []int{100, 101, 4999} {
			for _, tries := range []int{0, 1, topTries - 2, topTries - 1} {
				c := with(dueEnd(state), func(c *impl.Conn) { c.Tries = tries })
				got, sent := impl.ConnTick(c, now)
				if got.Tries != tries+1 || got.State != state || got.End != impl.EndTired || got.Again != now+nextWait {
					t.Errorf("%d tries: %s; %s", tries, shownConn(got), shownSegs(sent))
				}
				okIs(t, "tried again", got, true)
			}
			for _, change := range []func(*impl.Conn){nil, owes, closes, func(c *impl.Conn) { c.Wnd = 0 }, func(c *impl.Conn) { c.Probe = 6000 }} {
				c := with(dueEnd(state), change, func(c *impl.Conn) { c.Tries, c.End = topTries, impl.EndNone })
				checkDoes(t, "tired", impl.ConnTick, c, now, endsFor(impl.EndTired))
			}
		}
		for _, now := range []int{0, 1, 99} {
			c := with(dueEnd(state), func(c *impl.Conn) { c.Tries = topTries })
			checkDoes(t, "not due", impl.ConnTick, c, now, nil)
		}
	}
}

func TestSynGoesOutAgain(t *testing.T) {
	for _, now := range []int{100, 101, topTick} {
		for _, wnd := range []int{0, 400} {
			for _, iss := range []uint32{ownIss, 980} {
				syns := func(state int) (impl.Conn, func(*impl.Conn)) {
					c := with(dueEnd(state), owes, closes, func(c *impl.Conn) {
						c.Iss, c.Una, c.Nxt, c.Max, c.Out, c.Wnd = iss, 1000, 1001, 1001, outAt(1001, "early", 50), wnd
					})
					return c, failed(now, 1)
				}
				asked, change := syns(impl.ConnAsked)
				// It confirms nothing, whatever In holds.
				checkDoes(t, "who asked", impl.ConnTick, asked, now, change, impl.Seg{Seq: iss, Flags: 2, Win: 293, Mss: 100})
				heard, change := syns(impl.ConnHeard)
				checkDoes(t, "who was asked", impl.ConnTick, heard, now, change, impl.Seg{Seq: iss, Ack: 5001, Flags: 18, Win: 293, Mss: 100})
				back := with(heard, func(c *impl.Conn) { c.Nxt = 1000 })
				checkDoes(t, "Nxt stays", impl.ConnTick, back, now, change, impl.Seg{Seq: iss, Ack: 5001, Flags: 18, Win: 293, Mss: 100})
				full := with(heard, func(c *impl.Conn) { c.In = inAt(5009, "full up", 7) })
				checkDoes(t, "without room", impl.ConnTick, full, now, change, impl.Seg{Seq: iss, Ack: 5009, Flags: 18, Mss: 100})
				empty := with(asked, func(c *impl.Conn) { c.In = inAt(5001, "", topBuf) })
				checkDoes(t, "with all its room", impl.ConnTick, empty, now, change, impl.Seg{Seq: iss, Flags: 2, Win: topBuf, Mss: 100})
			}
		}
	}
}

// Who asks and hears nothing asks ten times more, ever later, and then it is gone.
func TestAskedUntilTired(t *testing.T) {
	for _, heard := range []bool{false, true} {
		c, first, _ := impl.ConnAsk(ownIss, 300, 5)
		if heard {
			c, first, _ = impl.ConnHear(impl.Seg{Seq: otherIss, Flags: syn, Win: 400}, ownIss, 300, 5)
		}
		for i, at := range []int{15, 35, 75, 155, 315, 635, 1235, 1835, 2435, 3035} {
			if due := impl.ConnDue(c); due != at {
				t.Fatalf("due at %d, not %d", due, at)
			}
			early, sent := impl.ConnTick(c, at-1)
			unchanged(t, "early", c, answer{"ConnTick", early, 0, "", sent})
			if c, sent = impl.ConnTick(c, at); !slices.Equal(sent, []impl.Seg{first}) || c.Tries != i+1 {
				t.Fatalf("at %d: %s; %s", at, shownConn(c), shownSegs(sent))
			}
		}
		was := c
		c, sent := impl.ConnTick(c, 3635)
		if !equalConns(c, with(was, endsFor(impl.EndTired))) || len(sent) != 0 || impl.ConnDue(c) != 0 || was.Again != 3635 {
			t.Errorf("in the end: %s; %s", shownConn(c), shownSegs(sent))
		}
	}
}

// Point 3, where a line stands: all goes out again, as much as ConnSend may.
func TestBytesGoOutAgain(t *testing.T) {
	back := func(n int) func(*impl.Conn) {
		return func(c *impl.Conn) { c.Nxt = c.Una + uint32(n) }
	}
	for _, state := range sending {
		for _, now := range []int{100, 101, topTick} {
			c := dueEnd(state)
			again := with(c, back(0))
			checkDoes(t, "the first piece", impl.ConnTick, c, now, all(failed(now, 200), back(100)), piecesOf(again, 100)...)
			owing := with(c, owes)
			checkDoes(t, "with a confirmation owed", impl.ConnTick, owing, now, all(failed(now, 200), back(100), func(c *impl.Conn) { c.Owe = false }), piecesOf(again, 100)...)
			small := with(c, func(c *impl.Conn) { c.Wnd = 3 })
			checkDoes(t, "a small window", impl.ConnTick, small, now, all(failed(now, 200), back(3)), piecesOf(again, 3)...)
			for _, flight := range []int{199, 400, 401, 402, 1000, topPlaces} {
				far := with(c, func(c *impl.Conn) { c.Nxt, c.Max = 1001+uint32(flight), 1001+uint32(flight) })
				checkDoes(t, fmt.Sprint(flight, " under way"), impl.ConnTick, far, now, all(failed(now, flight), back(100)), piecesOf(again, 100)...)
			}
		}
		one := with(dueEnd(state), func(c *impl.Conn) { c.Out.Data, c.Nxt, c.Max = "x", 1002, 1002 })
		checkDoes(t, "one byte", impl.ConnTick, one, nowTick, failed(nowTick, 1), segOf(24, 1001, 5001, 293, "x"))
		fins := with(one, closes, func(c *impl.Conn) { c.FinSent, c.FinSeq, c.Nxt, c.Max = true, 1002, 1003, 1003 })
		// The FIN makes its change of state here, if it was hand-made to be sent in the state ahead of it.
		checkDoes(t, "one byte and a FIN", impl.ConnTick, fins, nowTick, all(failed(nowTick, 2), finsState), segOf(24, 1001, 5001, 293, "x"), finOf(fins, 1002))
		alone := with(fins, func(c *impl.Conn) { c.Una, c.Out = 1002, outAt(1002, "", 9) })
		checkDoes(t, "a FIN", impl.ConnTick, alone, nowTick, all(failed(nowTick, 1), finsState), finOf(alone, 1002))
		none := with(alone, func(c *impl.Conn) { c.Wnd = 0 })
		checkDoes(t, "a FIN without a window", impl.ConnTick, none, nowTick, all(failed(nowTick, 1), finsState), finOf(alone, 1002))
		nothing := with(readyEnd(state, 0), func(c *impl.Conn) { c.Again, c.Timing = 100, true })
		checkDoes(t, "nothing", impl.ConnTick, nothing, nowTick, failed(nowTick, 0))
		fresh := with(one, closes)
		checkDoes(t, "one byte, and a FIN for the first time", impl.ConnTick, fresh, nowTick, all(failed(nowTick, 1), func(c *impl.Conn) {
			c.FinSent, c.FinSeq, c.Nxt, c.Max = true, c.Una+1, c.Una+2, c.Una+2
		}, finsState), segOf(24, 1001, 5001, 293, "x"), finOf(fresh, 1002))
	}
}

// Where there is no window, all is kept back and a probe planned.
func TestAgainWithoutAWindow(t *testing.T) {
	for _, state := range everyState[3:] {
		for _, now := range []int{100, 101, 4999} {
			for _, probe := range []int{0, 6000} {
				c := with(dueEnd(state), owes, func(c *impl.Conn) { c.Wnd, c.Probe = 0, probe })
				change := all(failed(now, 200), func(c *impl.Conn) { c.Nxt, c.Again, c.Probe = c.Una, 0, now+nextWait })
				checkDoes(t, "no window", impl.ConnTick, c, now, change)
				one := with(c, func(c *impl.Conn) { c.Out.Data, c.Nxt, c.Max = "x", 1002, 1002 })
				checkDoes(t, "no window for one byte", impl.ConnTick, one, now, all(failed(now, 1), func(c *impl.Conn) { c.Nxt, c.Again, c.Probe = c.Una, 0, now+nextWait }))
			}
		}
		small := with(dueEnd(state), func(c *impl.Conn) { c.Wnd = 1 })
		got, sent := impl.ConnTick(small, nowTick)
		if got.Again != nowTick+nextWait || got.Probe != 0 || len(sent) == 1 != slices.Contains(sending, state) {
			t.Errorf("a window of 1: %s; %s", shownConn(got), shownSegs(sent))
		}
	}
}

func TestAgainInOtherStates(t *testing.T) {
	for _, state := range []int{impl.ConnFin2, impl.ConnRest} {
		c := dueEnd(state)
		goesBack := all(failed(nowTick, 200), func(c *impl.Conn) { c.Nxt = c.Una })
		checkDoes(t, "nothing goes out", impl.ConnTick, c, nowTick, goesBack)
		checkDoes(t, "but what is owed", impl.ConnTick, with(c, owes), nowTick, all(goesBack, func(c *impl.Conn) { c.Owe = false }), segOf(ack, 1201, 5001, 293, ""))
	}
}

// Both are due at once: first the probe, then the rest, which waits for two failures more.
func TestProbeAndAgainAtOnce(t *testing.T) {
	twice := func(now, flight int) func(*impl.Conn) {
		return all(probes(now), failed(now, flight), func(c *impl.Conn) { c.Again, c.Probe = now+240, now+nextWait })
	}
	for _, state := range sending {
		for _, now := range []int{100, 101, topTick} {
			c := with(dueEnd(state), func(c *impl.Conn) { c.Wnd, c.Probe = 0, 99 })
			both := all(twice(now, 200), func(c *impl.Conn) { c.Nxt, c.Again, c.Probe = c.Una, 0, now+240 })
			checkDoes(t, "both", impl.ConnTick, c, now, both, probeOf(c))
			idle := with(c, func(c *impl.Conn) { c.Nxt, c.Max = 1001, 1001 })
			checkDoes(t, "both, with nothing under way", impl.ConnTick, idle, now, all(twice(now, 1), func(c *impl.Conn) { c.Again, c.Probe = 0, now+240 }), probeOf(c))
			late := with(c, func(c *impl.Conn) { c.Tries = topTries })
			checkDoes(t, "a probe, then tired", impl.ConnTick, late, now, all(probes(now), endsFor(impl.EndTired)), probeOf(c))
			open := with(c, func(c *impl.Conn) { c.Wnd = 400 })
			checkDoes(t, "a probe that is dropped", impl.ConnTick, open, now, all(failed(now, 200), func(c *impl.Conn) { c.Nxt, c.Probe = c.Una+100, 0 }), piecesOf(with(c, func(c *impl.Conn) { c.Nxt = 1001 }), 100)...)
		}
	}
	for _, state := range []int{impl.ConnAsked, impl.ConnHeard} {
		c := with(dueEnd(state), func(c *impl.Conn) { c.Wnd, c.Probe = 0, 99 })
		resent := impl.Seg{Seq: ownIss, Flags: 2, Win: 293, Mss: 100}
		if state == impl.ConnHeard {
			resent.Flags, resent.Ack = 18, 5001
		}
		checkDoes(t, "both, with the SYN", impl.ConnTick, c, nowTick, twice(nowTick, 200), probeOf(c), resent)
	}
}

func TestDue(t *testing.T) {
	ticks := []int{0, 1, 2, 99, 100, topTick, topTick + 1, topDue - 1, topDue}
	for _, state := range everyState {
		for _, again := range ticks {
			for _, probe := range ticks {
				for _, rest := range ticks {
					c := with(endIn(state), func(c *impl.Conn) { c.Again, c.Probe, c.Rest = again, probe, rest })
					list := slices.DeleteFunc([]int{again, probe, rest}, func(n int) bool { return n == 0 })
					want := 0
					if len(list) > 0 {
						want = slices.Min(list)
					}
					if got := impl.ConnDue(c); got != want {
						t.Errorf("ConnDue of %d, %d and %d is %d, not %d", again, probe, rest, got, want)
					}
				}
			}
		}
	}
}

// sendBy goes through the points of ConnSend for an end that is right, with places told from the first byte of Out.
func sendBy(c impl.Conn, now int) (impl.Conn, []impl.Seg) {
	sent, room := []impl.Seg{}, c.In.Room-len(c.In.Ready)
	goes := func(flags, n int, data string) {
		sent = append(sent, segOf(flags, c.Nxt, c.In.Next, room, data))
		c.Nxt += uint32(n)
		if forward(c.Una, c.Nxt) > forward(c.Una, c.Max) {
			c.Max = c.Nxt
		}
		if c.Again == 0 {
			c.Again = now + waitBy(c.Rtt)
		}
		c.Owe = false
	}
	sends := c.State == 3 || c.State == 4 || c.State == 6 || c.State == 7 || c.State == 8
	for sends {
		at, under := forward(c.Out.First, c.Nxt), forward(c.Una, c.Nxt)
		if at >= len(c.Out.Data) || under >= c.Wnd || under >= c.Cong.Wnd {
			break
		}
		rest := c.Out.Data[at:]
		fits := rest[:min(len(rest), oneSeg, c.Wnd-under, c.Cong.Wnd-under)]
		if under > 0 && len(fits) < oneSeg && len(fits) < len(rest) {
			break
		}
		if c.Nxt == c.Max && !c.Timing {
			c.Timing, c.TimeSeq, c.TimeAt = true, c.Nxt, now
		}
		flags := ack
		if fits == rest {
			flags = ack + push
		}
		goes(flags, len(fits), fits)
	}
	left := len(c.Out.Data) - forward(c.Out.First, c.Nxt)
	if sends && c.Fin && left == 0 && !(c.FinSent && c.FinSeq != c.Nxt) {
		c.FinSent, c.FinSeq = true, c.Nxt
		goes(fin+ack, 1, "")
		finsState(&c)
	} else if sends && left > 0 && c.Wnd+c.Probe == 0 && c.Nxt == c.Una {
		c.Probe = now + waitBy(c.Rtt)
	}
	if c.Owe && c.State > 1 {
		sent = append(sent, segOf(ack, c.Max, c.In.Next, room, ""))
		c.Owe = false
	}
	return c, sent
}

// tickBy goes through the points of ConnTick for an end that is right.
func tickBy(c impl.Conn, now int) (impl.Conn, []impl.Seg) {
	sent, room, flags := []impl.Seg{}, c.In.Room-len(c.In.Ready), []int{0, syn, syn + ack}
	if c.State == 0 || c.State == 9 && c.Rest <= now {
		if c.State == 9 {
			endsFor(0)(&c)
		}
		return c, sent
	}
	fails := func() int {
		c.Timing, c.Rtt.Shift = false, min(c.Rtt.Shift+1, topShift)
		return now + waitBy(c.Rtt)
	}
	if c.Probe > 0 && c.Probe <= now {
		c.Probe = 0
		if len(c.Out.Data) > 0 && c.Wnd == 0 && isAhead(c.Out.First+uint32(len(c.Out.Data)), c.Nxt) {
			sent = append(sent, segOf(ack, c.Una, c.In.Next, room, c.Out.Data[:1]))
			c.Probe = fails()
			if c.Max == c.Una {
				c.Max = c.Una + 1
			}
		}
	}
	switch {
	case c.Again == 0 || c.Again > now:
		return c, sent
	case c.Tries == topTries:
		endsFor(3)(&c)
		return c, sent
	}
	c.Tries, c.Again, c.Cong = c.Tries+1, fails(), growing(lowWnd, halfOf(forward(c.Una, c.Max)), 0)
	if c.State < 3 {
		return c, append(sent, impl.Seg{Seq: c.Iss, Ack: c.In.Next * uint32(c.State-1), Flags: flags[c.State], Win: room, Mss: 100})
	}
	if c.Nxt = c.Una; c.Wnd == 0 && len(c.Out.Data) > 0 {
		c.Probe, c.Again = c.Again, 0
		return c, sent
	}
	c, more := sendBy(c, now)
	return c, append(sent, more...)
}

// actsBy asks that an end does what the plain steps say, and is right behind it.
func actsBy(t *testing.T, name string, does, plain doing, c impl.Conn, now int) (impl.Conn, []impl.Seg) {
	t.Helper()
	want, wantSent := plain(c, now)
	got, sent := does(c, now)
	if !equalConns(got, want) || !slices.Equal(sent, wantSent) {
		t.Fatalf("%s(%s; %d)\n is  %s; %s\n not %s; %s", name, shownConn(c), now, shownConn(got), shownSegs(sent), shownConn(want), shownSegs(wantSent))
	}
	if !impl.ConnOk(got) {
		t.Fatalf("%s(%s; %d)\n is  %s, which is not right", name, shownConn(c), now, shownConn(got))
	}
	return got, sent
}

// isWithinWhatMayBe asks that no byte lies beyond what the other end takes or what the net bears, and that each is the one of its place.
func isWithinWhatMayBe(t *testing.T, c impl.Conn, sent []impl.Seg) {
	t.Helper()
	for _, s := range sent {
		at, n := forward(c.Out.First, s.Seq), len(s.Data)
		if n == 0 {
			continue
		}
		if last := forward(c.Una, s.Seq) + n; last > c.Wnd || last > c.Cong.Wnd || n > oneSeg {
			t.Fatalf("%s sends %s beyond what may be", shownConn(c), shownSeg(s))
		}
		if at+n > len(c.Out.Data) || s.Data != c.Out.Data[at:at+n] {
			t.Fatalf("%s sends %s, which are other bytes", shownConn(c), shownSeg(s))
		}
	}
}

// someEnd is an end that is right, as it comes about or not.
func someEnd(state int, w []uint32) impl.Conn {
	pick := func(i int, list ...int) int { return list[int(w[i]>>4)%len(list)] }
	many := pick(0, 0, 0, 1, 2, 99, 100, 101, 150, 200, 250, 300, topBuf)
	una := []uint32{1001, 0, round - 1, round - 100, round - 150, halfWay, w[1]}[w[1]%7]
	nxt := min(pick(2, 0, 0, 0, 1, 50, 100, 101, 200, many, many, many+1, max(many-1, 0), topPlaces), topPlaces)
	most := min(nxt+pick(3, 0, 0, 0, 1, 50, 100, 200, topPlaces), topPlaces)
	c := impl.Conn{
		State: state, Iss: una - 1, Una: una, Nxt: una + uint32(nxt), Max: una + uint32(most), Wnd: pick(4, 0, 0, 1, 50, 99, 100, 101, 150, 200, 249, 250, 300, topWin), WndSeq: w[5], WndAck: w[6],
		Out: outAt(una, bytesFrom(int(w[0]%50), many), max(many, 1)), In: inAt(w[7], bytesFrom(9, int(w[8]%5)), 4+int(w[8]>>8)%300),
		Fin: w[9]%2 == 0, FinSent: w[9]>>4%3 == 0, FinSeq: una + uint32(pick(10, many, many, many+1, max(nxt-1, 0), 0)), GotFin: w[9]>>8%2 == 0,
		Rtt:    []impl.Rtt{{}, {Shift: 8}, known(0, 0, 0), known(40, 10, 2), known(80, 30, 7), known(topSmooth, topVary, 0)}[w[11]%6],
		Cong:   []impl.Cong{growing(100, 200, 0), growing(150, 200, 2), growing(200, 300, 1), growing(300, topWnd, 4), growing(topWnd, topWnd, 0), mending(400, 200, una+5)}[w[12]%6],
		Timing: w[13]%2 == 0, TimeSeq: una, TimeAt: pick(13, 0, 50, topDue), Tries: pick(14, 0, 3, topTries-1, topTries), End: pick(14, 0, 1, 4), Owe: w[15]%2 == 0,
		Again: pick(16, 0, 1, 99, 100, 101, topDue), Probe: pick(17, 0, 1, 99, 100, 101, topDue), Rest: pick(18, 0, 1, 99, 100, 101, topDue),
	}
	switch {
	case state < 3 && w[19]%2 == 0:
		c.Out.First++
	case c.FinSent && w[19]%2 == 0:
		c.Out.First--
	}
	if room := c.In.Room - len(c.In.Ready); room > 9 && w[19]>>4%2 == 0 {
		c.In.Parts = []impl.Part{part(c.In.Next+2, "part"), part(c.In.Next+8, "p")}
	}
	return c
}

// P11: every end of these does just what the plain steps say, stays right, and sends nothing beyond what may be.
func TestActsOfManyEnds(t *testing.T) {
	const each = 2500
	seen := map[string]int{}
	for _, state := range everyState {
		words := spread((state + 1) * each * 20)[state*each*20:]
		for i := range each {
			c := someEnd(state, words[i*20:])
			okIs(t, "an end of these", c, true)
			got, sent := actsBy(t, "ConnSend", impl.ConnSend, sendBy, c, nowTick)
			isWithinWhatMayBe(t, c, sent)
			for _, s := range sent {
				seen["pieces"] += min(len(s.Data), 1)
				seen["FINs"] += s.Flags % 2
			}
			if got.Probe != c.Probe {
				seen["planned probes"]++
			}
			late, sent := actsBy(t, "ConnTick", impl.ConnTick, tickBy, c, nowTick)
			if late.State != c.State && late.State == impl.ConnGone {
				seen["ends"]++
			}
			for _, s := range sent {
				seen["late segments"] += min(len(s.Data), 1)
				seen["late SYNs"] += s.Flags / syn % 2
			}
			actsBy(t, "ConnTick", impl.ConnTick, tickBy, got, nowTick)
			for _, a := range answersOf(c, nowTick, "text", 3) {
				okIs(t, a.name, a.c, true)
			}
		}
	}
	for what, least := range map[string]int{"pieces": 3000, "FINs": 1000, "planned probes": 40, "ends": 1000, "late segments": 1000, "late SYNs": 1000} {
		if seen[what] < least {
			t.Errorf("%d %s", seen[what], what)
		}
	}
}

// A second sending at once adds nothing: what may be sent was.
func TestSendingTwiceIsSendingOnce(t *testing.T) {
	for _, state := range everyState {
		words := spread((state + 20) * 20 * 300)[state*20*300:]
		for i := range 300 {
			c, _ := impl.ConnSend(someEnd(state, words[i*20:]), nowTick)
			again, sent := impl.ConnSend(c, nowTick)
			unchanged(t, "sent", c, answer{"ConnSend", again, 0, "", sent})
		}
	}
}

// talk are two ends, what is under way to each, and what each wrote and read.
type talk struct {
	t     *testing.T
	end   [2]impl.Conn
	heard bool
	iss   [2]uint32
	room  [2]int
	way   [2][]impl.Seg
	wrote [2]string
	got   [2]string
	now   int
}

func newTalk(t *testing.T, iss [2]uint32, room [2]int, now int) *talk {
	x := &talk{t: t, iss: iss, room: room, now: now}
	asks := impl.Seg{}
	x.end[0], asks, _ = impl.ConnAsk(iss[0], room[0], now)
	x.way[1] = []impl.Seg{asks}
	return x
}

func (x *talk) exists(k int) bool { return k == 0 || x.heard }

func (x *talk) goesOut(k int, c impl.Conn, sent []impl.Seg) {
	x.end[k] = c
	x.way[1-k] = append(x.way[1-k], sent...)
}

// sends lets both ends send what they may.
func (x *talk) sends() {
	x.t.Helper()
	for k := range 2 {
		if x.exists(k) {
			was := x.end[k]
			c, sent := actsBy(x.t, "ConnSend", impl.ConnSend, sendBy, was, x.now)
			isWithinWhatMayBe(x.t, was, sent)
			x.goesOut(k, c, sent)
		}
	}
}

// gives lets the segment at a place of the way to an end come there.
func (x *talk) gives(k, i int) {
	x.t.Helper()
	if i >= len(x.way[k]) {
		return
	}
	s := x.way[k][i]
	x.way[k] = slices.Delete(slices.Clone(x.way[k]), i, i+1)
	if !x.exists(k) {
		if c, answers, ok := impl.ConnHear(s, x.iss[1], x.room[1], x.now); ok {
			x.heard = true
			x.goesOut(1, c, []impl.Seg{answers})
		}
		return
	}
	was := x.end[k]
	c := holdsBy(x.t, was, s, x.now)
	_, sent := impl.ConnCame(was, s, x.now)
	x.goesOut(k, c, sent)
}

func (x *talk) ticks(n int) {
	x.t.Helper()
	x.now += n
	for k := range 2 {
		if x.exists(k) {
			c, sent := actsBy(x.t, "ConnTick", impl.ConnTick, tickBy, x.end[k], x.now)
			x.goesOut(k, c, sent)
		}
	}
}

func (x *talk) writes(k int, text string) {
	c, n := impl.ConnWrite(x.end[k], text)
	x.end[k], x.wrote[k] = c, x.wrote[k]+text[:n]
}

func (x *talk) reads(k, n int) {
	x.t.Helper()
	c, text := impl.ConnRead(x.end[k], n)
	x.end[k], x.got[k] = c, x.got[k]+text
	if len(x.got[k]) > len(x.wrote[1-k]) || x.got[k] != x.wrote[1-k][:len(x.got[k])] {
		x.t.Fatalf("end %d read what was not written: %s", k, shownConn(c))
	}
}

func (x *talk) closes(k int) { x.end[k] = impl.ConnClose(x.end[k]) }

// calm loses nothing, reads what comes, and lets time pass, until nothing is due or under way.
func (x *talk) calm() {
	x.t.Helper()
	for range 20000 {
		x.sends()
		switch {
		case len(x.way[1]) > 0:
			x.gives(1, 0)
		case len(x.way[0]) > 0:
			x.gives(0, 0)
		case x.reading():
		case impl.ConnDue(x.end[0])+impl.ConnDue(x.end[1]) == 0:
			return
		default:
			x.ticks(1)
		}
	}
	x.t.Fatalf("never calm: %s\n%s", shownConn(x.end[0]), shownConn(x.end[1]))
}

// reading lets both ends read, and tells whether there was anything.
func (x *talk) reading() bool {
	x.t.Helper()
	was := len(x.got[0]) + len(x.got[1])
	for k := range 2 {
		if x.exists(k) {
			x.reads(k, topBuf)
		}
	}
	return len(x.got[0])+len(x.got[1]) > was
}

// states asks for the states of both ends.
func (x *talk) states(what string, a, b int) {
	x.t.Helper()
	if x.end[0].State != a || x.end[1].State != b {
		x.t.Fatalf("%s: %s\n%s", what, shownConn(x.end[0]), shownConn(x.end[1]))
	}
}

// P11: both are open, read what the other writes, and are gone when both have closed.
func TestTwoEndsTalk(t *testing.T) {
	for _, iss := range [][2]uint32{{1000, 5000}, {round - 1, 0}, {round - 2, round - 1}, {round - 150, round - 60}, {halfWay - 1, halfWay}} {
		for _, room := range [][2]int{{300, 200}, {1, 1}, {1, topBuf}, {topBuf, 1}, {99, 100}, {101, 150}, {topBuf, topBuf}} {
			x := newTalk(t, iss, room, 5)
			x.calm()
			x.states("open", impl.ConnOpen, impl.ConnOpen)
			for i, many := range [][2]int{{1, 0}, {0, 1}, {50, 50}, {250, 120}, {99, 101}, {1200, 1}, {3, 900}} {
				for k := range 2 {
					x.writes(k, bytesFrom(10*i+k, many[k]))
				}
				x.calm()
				if x.got[0] != x.wrote[1] || x.got[1] != x.wrote[0] || len(x.wrote[0]) < min(many[0], room[0]) {
					t.Fatalf("rooms %v: %d and %d bytes read, not %d and %d", room, len(x.got[1]), len(x.got[0]), len(x.wrote[0]), len(x.wrote[1]))
				}
			}
			first := room[0] % 2
			x.closes(first)
			x.calm()
			x.closes(1 - first)
			x.writes(0, "too late")
			x.calm()
			x.states("gone", impl.ConnGone, impl.ConnGone)
			for k := range 2 {
				if x.end[k].End != impl.EndNone || !x.end[k].GotFin || len(x.got[k]) != len(x.wrote[1-k]) {
					t.Fatalf("in the end: %s", shownConn(x.end[k]))
				}
			}
		}
	}
}

// The way to be gone, step by step.
func TestTwoEndsClose(t *testing.T) {
	open := func() *talk {
		x := newTalk(t, [2]uint32{1000, 5000}, [2]int{300, 200}, 5)
		x.calm()
		return x
	}
	x := open()
	x.writes(0, "last words")
	x.closes(0)
	x.sends()
	x.states("a FIN goes out", impl.ConnFin1, impl.ConnOpen)
	x.gives(1, 0)
	x.gives(1, 0)
	x.states("and comes", impl.ConnFin1, impl.ConnHalf)
	x.sends()
	x.gives(0, 0)
	x.states("and is confirmed", impl.ConnFin2, impl.ConnHalf)
	x.writes(1, "one more")
	x.closes(1)
	x.sends()
	x.states("the other FIN goes out", impl.ConnFin2, impl.ConnLast)
	x.gives(0, 0)
	x.gives(0, 0)
	x.states("and comes", impl.ConnRest, impl.ConnLast)
	x.sends()
	x.gives(1, 0)
	x.states("and is confirmed", impl.ConnRest, impl.ConnGone)
	x.reading()
	if x.got != [2]string{"one more", "last words"} {
		t.Errorf("read: %q", x.got)
	}
	rest := x.now
	x.ticks(restFor - 1)
	x.states("rests", impl.ConnRest, impl.ConnGone)
	x.ticks(1)
	x.states("rested", impl.ConnGone, impl.ConnGone)
	if x.now != rest+restFor || x.end[0].End != impl.EndNone || x.end[1].End != impl.EndNone {
		t.Errorf("at %d: %s", x.now, shownConn(x.end[0]))
	}

	x = open()
	x.closes(0)
	x.closes(1)
	x.sends()
	x.states("both FINs go out", impl.ConnFin1, impl.ConnFin1)
	x.gives(1, 0)
	x.gives(0, 0)
	x.states("and come", impl.ConnBoth, impl.ConnBoth)
	x.sends()
	x.gives(1, 0)
	x.gives(0, 0)
	x.states("and are confirmed", impl.ConnRest, impl.ConnRest)
	x.calm()
	x.states("rested", impl.ConnGone, impl.ConnGone)
}

// P11: who gives up is gone, and the other one learns of it, or grows tired.
func TestWhoGivesUpIsGone(t *testing.T) {
	for k := range 2 {
		for _, learns := range []bool{true, false} {
			x := newTalk(t, [2]uint32{round - 3, round - 1}, [2]int{300, 200}, 5)
			x.calm()
			c, sent := impl.ConnAbort(x.end[k])
			x.goesOut(k, c, sent)
			if c.State != impl.ConnGone || c.End != impl.EndAborted || len(sent) != 1 || impl.ConnDue(c) != 0 {
				t.Fatalf("given up: %s; %s", shownConn(c), shownSegs(sent))
			}
			why := impl.EndReset
			if !learns {
				x.way[1-k], why = nil, impl.EndTired
			}
			x.writes(1-k, "are you there?")
			x.calm()
			if x.end[1-k].State != impl.ConnGone || x.end[1-k].End != why || x.got[k] != "" {
				t.Errorf("the other end: %s", shownConn(x.end[1-k]))
			}
			if x.end[k].State != impl.ConnGone || x.end[k].End != impl.EndAborted {
				t.Errorf("who gave up: %s", shownConn(x.end[k]))
			}
		}
	}
	for _, state := range everyState {
		words := spread((state + 2) * 20 * 50)[state*20*50:]
		for i := range 50 {
			c := someEnd(state, words[20*i:])
			gone, _ := impl.ConnAbort(c)
			if state == impl.ConnGone {
				unchanged(t, "gone", c, answer{"ConnAbort", gone, 0, "", nil})
				continue
			}
			for _, a := range answersOf(gone, topTick, "text", 0) {
				if !equalConns(a.c, gone) || a.n != 0 || len(a.segs) != 0 || gone.State != impl.ConnGone || gone.End != impl.EndAborted {
					t.Fatalf("%s of what was given up: %s; %s", a.name, shownConn(a.c), shownSegs(a.segs))
				}
			}
		}
	}
}

// A window that closes is asked for until it opens, and no byte is lost by it.
func TestTwoEndsAndNoWindow(t *testing.T) {
	x := newTalk(t, [2]uint32{1000, 5000}, [2]int{300, 120}, 5)
	x.calm()
	x.writes(0, bytesFrom(3, 300))
	passes := func(ticks int) {
		for range ticks {
			x.sends()
			for len(x.way[0])+len(x.way[1]) > 0 {
				x.gives(1, 0)
				x.sends()
				x.gives(0, 0)
				x.sends()
			}
			x.ticks(1)
		}
	}
	passes(2000)
	if x.end[0].Wnd != 0 || x.end[0].Probe == 0 || x.end[0].State != impl.ConnOpen || len(x.end[1].In.Ready) != 120 {
		t.Fatalf("no window: %s\n%s", shownConn(x.end[0]), shownConn(x.end[1]))
	}
	for len(x.got[1]) < 300 {
		was := len(x.got[1])
		x.reads(1, 30)
		if !x.end[1].Owe && was < 180 {
			t.Fatalf("who has room again doesn't say so: %s", shownConn(x.end[1]))
		}
		passes(100)
	}
	if x.got[1] != x.wrote[0] || x.end[0].State != impl.ConnOpen {
		t.Errorf("%d bytes read: %s", len(x.got[1]), shownConn(x.end[0]))
	}
}

// P11, over ways that lose, double and turn around: each end does as the plain steps say, and what is read is what was written.
func TestTwoEndsOverBadWays(t *testing.T) {
	whole, seen := 0, map[int]int{}
	for seed := range 150 {
		words := spread(seed*97 + 400*4 + 4)[seed*97:]
		rooms := []int{1, 30, 99, 150, 300, topBuf}
		x := newTalk(t, [2]uint32{[]uint32{1000, round - 1, round - 300}[seed%3], words[0]}, [2]int{rooms[seed%6], rooms[seed/6%6]}, seed)
		for i := range 400 {
			w := words[4*i:]
			k := int(w[1] % 2)
			if at := int(w[2]>>4) % max(len(x.way[k]), 1); w[0]%16 < 9 && len(x.way[k]) > 0 {
				switch {
				case w[0]%16 < 6:
					x.gives(k, 0)
				case w[0]%16 == 6:
					x.gives(k, at)
				case w[0]%16 == 7:
					x.way[k] = slices.Delete(slices.Clone(x.way[k]), at, at+1)
				default:
					x.way[k] = append(slices.Clone(x.way[k]), x.way[k][at])
				}
			} else if x.exists(k) {
				switch w[0] % 16 {
				case 9, 10:
					x.writes(k, bytesFrom(int(w[2]%50), int(w[2]>>8)%400))
				case 11, 12:
					x.reads(k, int(w[2]>>8)%300)
				case 13:
					if i > 300 {
						x.closes(k)
					}
				default:
					x.ticks(int(w[2]>>8) % 9)
				}
			}
			x.sends()
			seen[x.end[0].State]++
			seen[x.end[1].State]++
		}
		x.calm()
		if x.end[0].End == impl.EndNone && x.heard && x.end[1].End == impl.EndNone {
			if x.got[0] != x.wrote[1] || x.got[1] != x.wrote[0] {
				t.Fatalf("%d and %d bytes read, not %d and %d: %s\n%s", len(x.got[1]), len(x.got[0]), len(x.wrote[0]), len(x.wrote[1]), shownConn(x.end[0]), shownConn(x.end[1]))
			}
			whole++
		}
	}
	if whole < 100 {
		t.Errorf("only %d talks came through", whole)
	}
	for _, state := range everyState {
		if seen[state] < 20 {
			t.Errorf("state %d came up %d times", state, seen[state])
		}
	}
}

func TestActsAreNewMemory(t *testing.T) {
	for _, state := range everyState {
		list := append(badEnds(state), endsOf(state)...)
		list = append(list, readyEnd(state, bytesOfReady), dueEnd(state), probedEnd(state), with(dueEnd(state), func(c *impl.Conn) { c.Wnd, c.Rest = 0, 1 }), readingEnd(state, 50, 40))
		for _, plain := range list {
			c, whole := roomyEnd(plain)
			was := slices.Clone(whole)
			text := heap("some bytes to write")
			impl.ConnDue(c)
			for _, a := range answersOf(c, nowTick, text, 30) {
				mine := append(allTexts(a.c), a.text)
				for _, s := range a.segs {
					mine = append(mine, s.Data)
				}
				for i, m := range mine {
					for _, other := range append(allTexts(c), text) {
						if sharesText(m, other) {
							t.Fatalf("%s(%s) shares a text with an argument", a.name, shownConn(plain))
						}
					}
					for _, other := range mine[:i] {
						if sharesText(m, other) {
							t.Fatalf("%s(%s) has a text twice", a.name, shownConn(plain))
						}
					}
				}
				parts, segs := a.c.In.Parts[:cap(a.c.In.Parts)], a.segs[:cap(a.segs)]
				for i := range parts {
					parts[i] = part(9, "mine")
				}
				for i := range segs {
					segs[i] = segOf(1, 2, 3, 4, "mine")
				}
				if !slices.Equal(whole, was) || !equalConns(c, plain) || text != "some bytes to write" {
					t.Fatalf("%s(%s) writes into its argument, or shares its list", a.name, shownConn(plain))
				}
			}
		}
	}
}

// Nothing is kept between calls: the same is answered once more, whatever was done between.
func TestActsKeepNothing(t *testing.T) {
	for _, state := range everyState {
		for _, c := range []impl.Conn{endIn(state), readyEnd(state, bytesOfReady), dueEnd(state), probedEnd(state)} {
			first := answersOf(c, nowTick, "text", 5)
			for _, a := range first {
				answersOf(a.c, 173, "other", 9)
			}
			for i, a := range answersOf(c, nowTick, "text", 5) {
				b := first[i]
				if !equalConns(a.c, b.c) || a.n != b.n || a.text != b.text || !slices.Equal(a.segs, b.segs) {
					t.Fatalf("%s(%s) is %s, then %s", a.name, shownConn(c), shownConn(b.c), shownConn(a.c))
				}
			}
		}
	}
}
