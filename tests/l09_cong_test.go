package tests

import (
	"math"
	"testing"

	"loop.example/g00107/impl"
)

const (
	oneSeg   = 100
	topWnd   = 8000
	lowWnd   = 100
	lowEdge  = 200
	topDups  = 1000000
	thirdDup = 3
)

// farWnds are beyond every bound of this chapter.
var farWnds = []int{-1, -2, -oneSeg, -topWnd, -round, math.MinInt, math.MinInt + 1, 2 * topDups, round, round + 1, round + oneSeg, math.MaxInt - 1, math.MaxInt}

// badFlights are no number of bytes that can be under way, or be confirmed at once.
var badFlights = append([]int{topWnd + 1, topWnd + 2, 2 * topWnd}, farWnds...)

var goodFlights = []int{0, 1, 2, 99, 100, 101, 199, 200, 201, 300, 399, 400, 401, 402, 403, 999, 1000, 1001, 4000, 4001, 7900, 7998, 7999, topWnd}

var (
	goodWnds    = []int{lowWnd, 101, 102, 150, 199, 200, 201, 299, 300, 301, 399, 400, 401, 3333, 3334, 4999, 5000, 5001, 7799, 7800, 7899, 7900, 7901, 7998, 7999, topWnd}
	goodThreshs = []int{lowEdge, 201, 300, 301, 400, 4000, 5000, 7900, 7999, topWnd}
	goodDups    = []int{0, 1, 2, 3, 4, 999999, topDups}
)

func growing(wnd, thresh, dups int) impl.Cong {
	return impl.Cong{Wnd: wnd, Thresh: thresh, Dups: dups}
}

func mending(wnd, thresh int, until uint32) impl.Cong {
	return impl.Cong{Wnd: wnd, Thresh: thresh, Dups: thirdDup, Fast: true, Recover: until}
}

// goodCongs are at every edge of what is right, with a loss being mended and without.
func goodCongs() []impl.Cong {
	out := []impl.Cong{}
	for _, fast := range []bool{false, true} {
		for _, until := range []uint32{0, 1000, round - 1} {
			for _, wnd := range goodWnds {
				for _, thresh := range goodThreshs {
					for _, dups := range goodDups {
						out = append(out, impl.Cong{Wnd: wnd, Thresh: thresh, Dups: dups, Fast: fast, Recover: until})
					}
				}
			}
		}
	}
	return out
}

// badCongs have each one thing that is beyond its bounds.
func badCongs() []impl.Cong {
	out := []impl.Cong{{}, {Fast: true}, {Recover: 7}}
	for _, fast := range []bool{false, true} {
		for _, base := range []impl.Cong{growing(lowWnd, lowEdge, 0), growing(200, topWnd, 2), growing(topWnd, topWnd, topDups), growing(500, 400, thirdDup)} {
			base.Fast, base.Recover = fast, 5000
			for _, n := range append([]int{0, 1, 2, lowWnd - 1, topWnd + 1, topWnd + 2, topDups}, farWnds...) {
				bad := base
				bad.Wnd = n
				out = append(out, bad)
			}
			for _, n := range append([]int{0, 1, lowWnd, lowEdge - 1, topWnd + 1, topWnd + 2, topDups}, farWnds...) {
				bad := base
				bad.Thresh = n
				out = append(out, bad)
			}
			for _, n := range append([]int{topDups + 1, topDups + 2}, farWnds...) {
				bad := base
				bad.Dups = n
				out = append(out, bad)
			}
		}
	}
	return out
}

// timesIn counts how often b can be taken from a.
func timesIn(a, b int) int {
	n := 0
	for a >= b {
		a -= b
		n++
	}
	return n
}

func boundedWnd(n int) int {
	if n < lowWnd {
		return lowWnd
	}
	if n > topWnd {
		return topWnd
	}
	return n
}

// ackedBy asks by the number of steps forward whether everything was mended.
func ackedBy(c impl.Cong, n int, ack uint32) (impl.Cong, bool) {
	if !c.Fast {
		by := timesIn(oneSeg*oneSeg, c.Wnd)
		if c.Wnd < c.Thresh {
			by = oneSeg
			if n < oneSeg {
				by = n
			}
		}
		c.Wnd, c.Dups = boundedWnd(c.Wnd+by), 0
		return c, false
	}
	if forward(c.Recover, ack) < halfWay {
		c.Wnd, c.Fast, c.Dups = c.Thresh, false, 0
		return c, false
	}
	c.Wnd = boundedWnd(c.Wnd - n + oneSeg)
	return c, true
}

func halfOf(flight int) int {
	half := timesIn(flight, 2)
	if half < lowEdge {
		return lowEdge
	}
	return half
}

func dupedBy(c impl.Cong, flight int, next uint32) (impl.Cong, bool) {
	switch {
	case c.Fast:
		c.Wnd = boundedWnd(c.Wnd + oneSeg)
		return c, false
	case c.Dups == thirdDup-1:
		half := halfOf(flight)
		return impl.Cong{Wnd: half + 3*oneSeg, Thresh: half, Dups: thirdDup, Fast: true, Recover: next}, true
	case c.Dups < topDups:
		c.Dups++
	}
	return c, false
}

func checkAck(t *testing.T, c impl.Cong, n int, ack uint32) {
	t.Helper()
	got, again := impl.CongAck(c, n, ack)
	want, wantAgain := ackedBy(c, n, ack)
	if got != want || again != wantAgain || !impl.CongOk(got) {
		t.Errorf("CongAck(%+v, %d, %d) is %+v, %v, not %+v, %v", c, n, ack, got, again, want, wantAgain)
	}
}

func checkDup(t *testing.T, c impl.Cong, flight int, next uint32) {
	t.Helper()
	got, again := impl.CongDup(c, flight, next)
	want, wantAgain := dupedBy(c, flight, next)
	if got != want || again != wantAgain || !impl.CongOk(got) {
		t.Errorf("CongDup(%+v, %d, %d) is %+v, %v, not %+v, %v", c, flight, next, got, again, want, wantAgain)
	}
}

func checkLost(t *testing.T, c impl.Cong, flight int) {
	t.Helper()
	got, want := impl.CongLost(c, flight), growing(lowWnd, halfOf(flight), 0)
	if got != want || !impl.CongOk(got) {
		t.Errorf("CongLost(%+v, %d) is %+v, not %+v", c, flight, got, want)
	}
}

func TestCongConstants(t *testing.T) {
	if impl.Mss != oneSeg || impl.MaxWnd != topWnd {
		t.Errorf("Mss %d, MaxWnd %d", impl.Mss, impl.MaxWnd)
	}
}

func TestCongStart(t *testing.T) {
	for _, c := range [][2]int{
		{math.MinInt, 200}, {-round, 200}, {-8000, 200}, {-201, 200}, {-1, 200}, {0, 200}, {1, 200}, {100, 200}, {199, 200}, {200, 200}, {201, 201}, {202, 202},
		{5000, 5000}, {7999, 7999}, {8000, 8000}, {8001, 8000}, {8002, 8000}, {9999, 8000}, {round, 8000}, {round + 300, 8000}, {math.MaxInt, 8000},
	} {
		want := impl.Cong{Wnd: 200, Thresh: c[1]}
		if got := impl.CongStart(c[0]); got != want || !impl.CongOk(got) {
			t.Errorf("CongStart(%d) is %+v, not %+v", c[0], got, want)
		}
	}
}

func TestCongOkByHand(t *testing.T) {
	for _, c := range []struct {
		wnd, thresh, dups int
		want              bool
	}{
		{100, 200, 0, true}, {99, 200, 0, false}, {101, 200, 0, true}, {7999, 200, 0, true}, {8000, 200, 0, true}, {8001, 200, 0, false}, {0, 200, 0, false}, {-100, 200, 0, false},
		{200, 199, 0, false}, {200, 200, 0, true}, {200, 201, 0, true}, {200, 7999, 0, true}, {200, 8000, 0, true}, {200, 8001, 0, false}, {200, 100, 0, false}, {200, 0, 0, false},
		{200, 200, -1, false}, {200, 200, 1, true}, {200, 200, 3, true}, {200, 200, 999999, true}, {200, 200, 1000000, true}, {200, 200, 1000001, false},
		{8000, 8000, 1000000, true}, {100, 8000, 0, true}, {0, 0, 0, false},
	} {
		for _, fast := range []bool{false, true} {
			for _, until := range []uint32{0, 1, halfWay, 4294967294, 4294967295} {
				cong := impl.Cong{Wnd: c.wnd, Thresh: c.thresh, Dups: c.dups, Fast: fast, Recover: until}
				if got := impl.CongOk(cong); got != c.want {
					t.Errorf("CongOk(%+v) is %v", cong, got)
				}
			}
		}
	}
}

func TestCongOkAtEveryEdge(t *testing.T) {
	for _, c := range goodCongs() {
		if !impl.CongOk(c) {
			t.Errorf("CongOk(%+v) is false", c)
		}
	}
	for _, c := range badCongs() {
		if impl.CongOk(c) {
			t.Errorf("CongOk(%+v) is true", c)
		}
	}
}

func TestCongAckGrowsByHand(t *testing.T) {
	for _, c := range []struct {
		wnd, thresh, n, want int
	}{
		{200, 8000, 0, 200}, {200, 8000, 1, 201}, {200, 8000, 50, 250}, {200, 8000, 99, 299}, {200, 8000, 100, 300}, {200, 8000, 101, 300}, {200, 8000, 8000, 300},
		{100, 200, 0, 100}, {100, 200, 100, 200}, {199, 200, 100, 299}, {199, 200, 1, 200}, {399, 400, 100, 499}, {399, 400, 0, 399},
		{200, 200, 0, 250}, {200, 200, 1, 250}, {200, 200, 100, 250}, {200, 200, 101, 250}, {200, 200, 8000, 250},
		{400, 400, 50, 425}, {401, 400, 50, 425}, {400, 200, 50, 425}, {300, 200, 100, 333}, {333, 200, 100, 363}, {600, 200, 0, 616}, {3333, 200, 1, 3336}, {3334, 200, 1, 3336},
		{5000, 200, 100, 5002}, {5001, 200, 100, 5002}, {7998, 200, 100, 7999}, {7999, 200, 100, 8000}, {8000, 200, 100, 8000}, {8000, 8000, 100, 8000}, {8000, 8000, 0, 8000}, {8000, 8000, 8000, 8000},
		{7999, 8000, 0, 7999}, {7999, 8000, 1, 8000}, {7999, 8000, 2, 8000}, {7999, 8000, 100, 8000}, {7999, 8000, 8000, 8000}, {7900, 8000, 99, 7999}, {7900, 8000, 100, 8000}, {7901, 8000, 100, 8000},
		{7999, 7999, 0, 8000}, {7998, 7999, 8000, 8000},
	} {
		for _, dups := range goodDups {
			for _, until := range []uint32{0, 77, 4294967295} {
				was, want := growing(c.wnd, c.thresh, dups), growing(c.want, c.thresh, 0)
				was.Recover, want.Recover = until, until
				for _, ack := range []uint32{0, 76, 77, 78, 4294967295} {
					if got, again := impl.CongAck(was, c.n, ack); got != want || again {
						t.Errorf("CongAck(%+v, %d, %d) is %+v, %v, not %+v", was, c.n, ack, got, again, want)
					}
				}
			}
		}
	}
}

func TestCongAckMendsAPartByHand(t *testing.T) {
	for _, c := range []struct{ wnd, n, want int }{
		{800, 0, 900}, {800, 1, 899}, {800, 99, 801}, {800, 100, 800}, {800, 101, 799}, {800, 799, 101}, {800, 800, 100}, {800, 801, 100}, {800, 900, 100}, {800, 8000, 100},
		{100, 0, 200}, {100, 1, 199}, {100, 99, 101}, {100, 100, 100}, {100, 101, 100}, {100, 200, 100}, {100, 8000, 100}, {150, 149, 101}, {150, 150, 100}, {150, 151, 100},
		{7900, 0, 8000}, {7901, 0, 8000}, {7901, 1, 8000}, {7999, 0, 8000}, {8000, 0, 8000}, {8000, 1, 8000}, {8000, 99, 8000}, {8000, 100, 8000}, {8000, 101, 7999}, {8000, 7999, 101}, {8000, 8000, 100},
	} {
		for _, thresh := range []int{200, 500, 8000} {
			was, want := mending(c.wnd, thresh, 77), mending(c.want, thresh, 77)
			if got, again := impl.CongAck(was, c.n, 50); got != want || !again {
				t.Errorf("CongAck(%+v, %d, 50) is %+v, %v, not %+v", was, c.n, got, again, want)
			}
		}
	}
}

// Recover, one ahead, one behind, half the way round, and where the words come round between both.
func TestCongAckMendedWhereRecoverIsConfirmed(t *testing.T) {
	for _, c := range []struct {
		until, ack uint32
		all        bool
	}{
		{77, 77, true}, {77, 78, true}, {77, 76, false}, {77, 0, false}, {77, 4294967295, false},
		{0, 0, true}, {0, 1, true}, {0, 4294967295, false}, {0, 4294967294, false},
		{4294967295, 4294967295, true}, {4294967295, 0, true}, {4294967295, 1, true}, {4294967295, 4294967294, false},
		{77, 77 + halfWay, false}, {77, 76 + halfWay, true}, {77, 78 + halfWay, false},
		{0, halfWay, false}, {0, halfWay - 1, true}, {0, halfWay + 1, false},
		{halfWay, 0, false}, {halfWay, 1, false}, {halfWay, 4294967295, true}, {halfWay, halfWay, true}, {halfWay, halfWay - 1, false},
		{4294967295, halfWay - 1, false}, {4294967295, halfWay - 2, true}, {4294967295, halfWay, false},
		{4294967000, 500, true}, {500, 4294967000, false},
	} {
		for _, dups := range goodDups {
			for _, n := range []int{0, 1, 100, 300, 8000} {
				was := impl.Cong{Wnd: 800, Thresh: 500, Dups: dups, Fast: true, Recover: c.until}
				want := impl.Cong{Wnd: 500, Thresh: 500, Recover: c.until}
				if !c.all {
					want = was
					want.Wnd = max(900-n, 100)
				}
				if got, again := impl.CongAck(was, n, c.ack); got != want || again == c.all {
					t.Errorf("CongAck(%+v, %d, %d) is %+v, %v, not %+v", was, n, c.ack, got, again, want)
				}
			}
		}
	}
}

func TestCongAckAtEveryEdge(t *testing.T) {
	for _, c := range goodCongs() {
		for _, n := range goodFlights {
			for _, off := range []uint32{0, 1, halfWay - 1, halfWay, halfWay + 1, round - 1} {
				checkAck(t, c, n, c.Recover+off)
			}
		}
	}
}

// Every Wnd there is, at both sides of Thresh, with what the division leaves over.
func TestCongAckOfEveryWindow(t *testing.T) {
	for wnd := lowWnd; wnd <= topWnd; wnd++ {
		for _, thresh := range []int{lowEdge, wnd - 1, wnd, wnd + 1, topWnd} {
			if thresh < lowEdge || thresh > topWnd {
				continue
			}
			for _, n := range []int{0, 1, 99, 100, 101, wnd - 1, wnd, min(wnd+1, topWnd), topWnd} {
				checkAck(t, growing(wnd, thresh, 2), n, 5)
				checkAck(t, mending(wnd, thresh, 6), n, 5)
				checkAck(t, mending(wnd, thresh, 5), n, 5)
			}
		}
	}
}

func TestCongDupCountsByHand(t *testing.T) {
	for _, c := range [][2]int{{0, 1}, {1, 2}, {3, 4}, {4, 5}, {999998, 999999}, {999999, 1000000}, {1000000, 1000000}} {
		for _, flight := range goodFlights {
			was, want := growing(900, 700, c[0]), growing(900, 700, c[1])
			was.Recover, want.Recover = 55, 55
			if got, again := impl.CongDup(was, flight, 77); got != want || again {
				t.Errorf("CongDup(%+v, %d, 77) is %+v, %v, not %+v", was, flight, got, again, want)
			}
		}
	}
}

func TestCongDupThirdByHand(t *testing.T) {
	for _, c := range []struct{ flight, thresh, wnd int }{
		{0, 200, 500}, {1, 200, 500}, {100, 200, 500}, {399, 200, 500}, {400, 200, 500}, {401, 200, 500}, {402, 201, 501}, {403, 201, 501},
		{1000, 500, 800}, {1001, 500, 800}, {4000, 2000, 2300}, {7999, 3999, 4299}, {8000, 4000, 4300},
	} {
		for _, was := range []impl.Cong{growing(200, 8000, 2), growing(100, 200, 2), growing(8000, 200, 2), {Wnd: 8000, Thresh: 8000, Dups: 2, Recover: 9}} {
			for _, next := range []uint32{0, 77, 4294967295} {
				want := mending(c.wnd, c.thresh, next)
				if got, again := impl.CongDup(was, c.flight, next); got != want || !again {
					t.Errorf("CongDup(%+v, %d, %d) is %+v, %v, not %+v", was, c.flight, next, got, again, want)
				}
			}
		}
	}
}

func TestCongDupMendingByHand(t *testing.T) {
	for _, c := range [][2]int{{100, 200}, {800, 900}, {7899, 7999}, {7900, 8000}, {7901, 8000}, {7999, 8000}, {8000, 8000}} {
		for _, dups := range goodDups {
			for _, flight := range goodFlights {
				was := impl.Cong{Wnd: c[0], Thresh: 500, Dups: dups, Fast: true, Recover: 77}
				want := was
				want.Wnd = c[1]
				if got, again := impl.CongDup(was, flight, 1234); got != want || again {
					t.Errorf("CongDup(%+v, %d, 1234) is %+v, %v, not %+v", was, flight, got, again, want)
				}
			}
		}
	}
}

func TestCongDupAtEveryEdge(t *testing.T) {
	for _, c := range goodCongs() {
		for _, flight := range goodFlights {
			for _, next := range []uint32{0, 1, halfWay, round - 1} {
				checkDup(t, c, flight, next)
			}
		}
	}
}

func TestCongLostByHand(t *testing.T) {
	for _, c := range [][2]int{{0, 200}, {1, 200}, {399, 200}, {400, 200}, {401, 200}, {402, 201}, {403, 201}, {1000, 500}, {7999, 3999}, {8000, 4000}} {
		for _, was := range []impl.Cong{growing(100, 200, 0), growing(200, 8000, 2), growing(8000, 8000, topDups), {Wnd: 300, Thresh: 4000, Recover: 6}, mending(800, 500, 77), mending(8000, 200, 4294967295)} {
			if got := impl.CongLost(was, c[0]); got != (impl.Cong{Wnd: 100, Thresh: c[1]}) {
				t.Errorf("CongLost(%+v, %d) is %+v", was, c[0], got)
			}
		}
	}
}

func TestCongLostAtEveryEdge(t *testing.T) {
	for _, c := range goodCongs() {
		for _, flight := range goodFlights {
			checkLost(t, c, flight)
		}
	}
}

// Every number of bytes under way, with what the half leaves over.
func TestCongHalvesEveryFlight(t *testing.T) {
	for flight := range topWnd + 1 {
		checkDup(t, growing(1000, 900, 2), flight, 77)
		checkDup(t, growing(1000, 900, 1), flight, 77)
		checkDup(t, mending(1000, 900, 66), flight, 77)
		checkLost(t, growing(1000, 900, 2), flight)
		checkLost(t, mending(1000, 900, 66), flight)
	}
}

// asItIs asks all three for nothing but c itself.
func asItIs(t *testing.T, c impl.Cong, n int, at uint32) {
	t.Helper()
	if got, again := impl.CongAck(c, n, at); got != c || again {
		t.Errorf("CongAck(%+v, %d, %d) is %+v, %v", c, n, at, got, again)
	}
	if got, again := impl.CongDup(c, n, at); got != c || again {
		t.Errorf("CongDup(%+v, %d, %d) is %+v, %v", c, n, at, got, again)
	}
	if got := impl.CongLost(c, n); got != c {
		t.Errorf("CongLost(%+v, %d) is %+v", c, n, got)
	}
}

func TestCongOfWrongThings(t *testing.T) {
	good := []impl.Cong{growing(100, 200, 0), growing(200, 8000, 2), growing(400, 200, 2), growing(8000, 8000, topDups), mending(800, 500, 77), mending(100, 200, 77), mending(8000, 8000, 0)}
	for _, at := range []uint32{0, 50, 77, 78, round - 1} {
		for _, c := range good {
			for _, n := range badFlights {
				asItIs(t, c, n, at)
			}
		}
		for _, c := range badCongs() {
			for _, n := range append([]int{0, 1, 100, 400, 1000, topWnd}, badFlights...) {
				asItIs(t, c, n, at)
			}
		}
	}
}

// congEvent is one of the three: a confirmation, one of the same, or nothing in time.
type congEvent struct {
	kind, n int
	at      uint32
}

const (
	eventAck = iota
	eventDup
	eventLost
)

// someEvents are events without order, with rows of one kind, and now and then a number that is none.
func someEvents(seed, n int) []congEvent {
	words := spread(seed*11 + 3*n)[seed*11:]
	list := []congEvent{}
	kind := 0
	for i := range n {
		w, size, at := words[3*i], int(words[3*i+1]), words[3*i+2]
		if w%uint32(2+seed%7) == 0 {
			kind = []int{eventAck, eventDup, eventAck, eventDup, eventLost}[int(w>>8)%5]
		}
		sizes := []int{0, 1, oneSeg, size % 300, size % 2000, size % (topWnd + 1), topWnd, topWnd + 1 + size%3}
		places := []uint32{0, at % 3, at % 1000, at, round - 1 - at%1000}
		list = append(list, congEvent{kind, sizes[int(w>>16)%len(sizes)], places[int(w>>4)%len(places)]})
	}
	return list
}

func rowOfEvents(n int, row ...congEvent) []congEvent {
	list := make([]congEvent, n)
	for i := range list {
		list[i] = row[i%len(row)]
	}
	return list
}

func eventRuns() [][]congEvent {
	runs := [][]congEvent{
		rowOfEvents(9000, congEvent{eventAck, oneSeg, 5}),
		rowOfEvents(9000, congEvent{eventAck, 0, 5}),
		rowOfEvents(9000, congEvent{eventAck, topWnd, 5}),
		rowOfEvents(300, congEvent{eventDup, 1000, 5}),
		rowOfEvents(300, congEvent{eventDup, topWnd, 5}, congEvent{eventDup, 0, round - 1}, congEvent{eventDup, 900, 8}, congEvent{eventAck, topWnd, 4}),
		rowOfEvents(300, congEvent{eventDup, topWnd, 5}, congEvent{eventDup, 0, round - 1}, congEvent{eventDup, 900, 8}, congEvent{eventAck, topWnd, 8}),
		rowOfEvents(300, congEvent{eventLost, topWnd, 0}),
		rowOfEvents(300, congEvent{eventLost, topWnd, 0}, congEvent{eventAck, oneSeg, 7}, congEvent{eventAck, oneSeg, 7}),
	}
	for seed := range 200 {
		runs = append(runs, someEvents(seed, 50+10*(seed%40)))
	}
	return runs
}

// checkEvent holds one step of a run against P9, and answers what the run goes on from.
func checkEvent(t *testing.T, c impl.Cong, e congEvent) impl.Cong {
	t.Helper()
	after, again := c, false
	switch e.kind {
	case eventAck:
		after, again = impl.CongAck(c, e.n, e.at)
	case eventDup:
		after, again = impl.CongDup(c, e.n, e.at)
	case eventLost:
		after = impl.CongLost(c, e.n)
	}
	if !impl.CongOk(after) || after.Wnd < lowWnd || after.Wnd > topWnd {
		t.Fatalf("%+v and %+v: %+v is beyond its bounds", c, e, after)
	}
	if e.n > topWnd {
		if after != c || again {
			t.Fatalf("%+v and %+v: %+v, %v", c, e, after, again)
		}
		return after
	}
	switch e.kind {
	case eventAck:
		if !c.Fast && (after.Wnd < c.Wnd || after.Dups != 0 || again) {
			t.Fatalf("%+v and %+v: a confirmation makes it %+v, %v", c, e, after, again)
		}
		if !c.Fast && e.n > 0 && c.Wnd < topWnd && after.Wnd == c.Wnd {
			t.Fatalf("%+v and %+v: it does not grow", c, e)
		}
	case eventDup:
		third := !c.Fast && c.Dups == thirdDup-1
		if again != third || third && (!after.Fast || after.Recover != e.at || after.Thresh != halfOf(e.n) || after.Wnd != after.Thresh+3*oneSeg) {
			t.Fatalf("%+v and %+v: the same once more makes it %+v, %v", c, e, after, again)
		}
	case eventLost:
		if after != growing(lowWnd, halfOf(e.n), 0) {
			t.Fatalf("%+v and %+v: nothing in time makes it %+v", c, e, after)
		}
	}
	return after
}

// P9: after any run of the three from CongStart.
func TestWhatIsUnderWayStaysInItsBounds(t *testing.T) {
	for i, run := range eventRuns() {
		c := impl.CongStart([]int{0, lowEdge, 500, 4000, topWnd}[i%5])
		for _, e := range run {
			c = checkEvent(t, c, e)
		}
	}
}

// P9: a run is what its steps are by the plain steps above, one behind the other.
func TestCongRunsAreTheirSteps(t *testing.T) {
	for i, run := range eventRuns() {
		c := impl.CongStart([]int{0, lowEdge, 500, 4000, topWnd}[i%5])
		want := growing(lowEdge, []int{lowEdge, lowEdge, 500, 4000, topWnd}[i%5], 0)
		for k, e := range run {
			switch {
			case e.kind == eventAck:
				c, _ = impl.CongAck(c, e.n, e.at)
			case e.kind == eventDup:
				c, _ = impl.CongDup(c, e.n, e.at)
			default:
				c = impl.CongLost(c, e.n)
			}
			switch {
			case e.n > topWnd:
			case e.kind == eventAck:
				want, _ = ackedBy(want, e.n, e.at)
			case e.kind == eventDup:
				want, _ = dupedBy(want, e.n, e.at)
			default:
				want = growing(lowWnd, halfOf(e.n), 0)
			}
			if c != want {
				t.Fatalf("run %d, step %d, %+v: %+v, not %+v", i, k, e, c, want)
			}
		}
	}
}

// P9: from the third that confirms the same, through what is mended in parts, to growing slowly again.
func TestALossIsMended(t *testing.T) {
	c := growing(1000, 8000, 0)
	for i, want := range []impl.Cong{growing(1000, 8000, 1), growing(1000, 8000, 2), mending(800, 500, 10), mending(900, 500, 10), mending(1000, 500, 10)} {
		after, again := impl.CongDup(c, 1000, 10+uint32(max(i-2, 0)))
		if after != want || again != (i == 2) {
			t.Fatalf("%+v: the same once more makes it %+v, %v, not %+v", c, after, again, want)
		}
		c = after
	}
	for _, step := range []struct {
		n     int
		ack   uint32
		want  impl.Cong
		again bool
	}{
		{100, round - 700, mending(1000, 500, 10), true},
		{300, round - 400, mending(800, 500, 10), true},
		{409, 9, mending(491, 500, 10), true},
		{1, 10, impl.Cong{Wnd: 500, Thresh: 500, Recover: 10}, false},
		{100, 110, impl.Cong{Wnd: 520, Thresh: 500, Recover: 10}, false},
		{100, 210, impl.Cong{Wnd: 539, Thresh: 500, Recover: 10}, false},
	} {
		after, again := impl.CongAck(c, step.n, step.ack)
		if after != step.want || again != step.again {
			t.Fatalf("CongAck(%+v, %d, %d) is %+v, %v, not %+v", c, step.n, step.ack, after, again, step.want)
		}
		c = after
	}
	if c = impl.CongLost(c, 900); c != growing(100, 450, 0) {
		t.Fatalf("nothing in time makes it %+v", c)
	}
}
