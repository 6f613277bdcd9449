package tests

import (
	"fmt"
	"math"
	"slices"
	"strings"
	"testing"
	"unsafe"

	"loop.example/g00107/impl"
)

const (
	topFlights = 200
	topNetOps  = 1000
)

var netKinds = []int{impl.NetDrop, impl.NetTwice, impl.NetSpoil, impl.NetLast, impl.NetGive}

var badKinds = []int{-1, 5, 6, -5, 256, round, -round, math.MinInt, math.MaxInt}

// netOf is a net with one unlike datagram for each number, so that none can be taken for another.
func netOf(n int) impl.Net {
	var out impl.Net
	for i := range n {
		out.Flights = append(out.Flights, fmt.Sprintf("datagram %d of %d", i, n))
	}
	return out
}

// badNets are nets with one datagram too many, or one byte too many in a datagram, wherever that is.
func badNets() []impl.Net {
	long := strings.Repeat("x", topDatagram+1)
	return []impl.Net{
		netOf(topFlights + 1),
		netOf(3 * topFlights),
		{Flights: make([]string, topFlights+1)},
		{Flights: []string{long}},
		{Flights: []string{long, "a", "b"}},
		{Flights: []string{"a", long, "b"}},
		{Flights: []string{"a", "b", long}},
		{Flights: append(netOf(topFlights-1).Flights, long)},
	}
}

func shownNet(n impl.Net) string {
	texts := []string{}
	for i, s := range n.Flights {
		if i == 6 {
			texts = append(texts, "..")
			break
		}
		texts = append(texts, short(s))
	}
	return fmt.Sprintf("%d under way: %s", len(n.Flights), strings.Join(texts, ", "))
}

func sameNet(t *testing.T, what string, got impl.Net, want ...string) {
	t.Helper()
	if !slices.Equal(got.Flights, want) {
		t.Errorf("%s: %s, not %s", what, shownNet(got), shownNet(impl.Net{Flights: want}))
	}
}

// doneBy puts a net together from pieces of the old one, an op at a time.
func doneBy(flights []string, op impl.NetOp) ([]string, string, bool) {
	many := len(flights)
	if many == 0 {
		return nil, "", false
	}
	at := op.At % many
	if at < 0 {
		at += many
	}
	it := flights[at]
	others := slices.Concat(flights[:at], flights[at+1:])
	switch op.Kind {
	case 0:
		return others, "", false
	case 1:
		if many == topFlights {
			return flights, "", false
		}
		return slices.Concat(flights, []string{it}), "", false
	case 2:
		if isWhole(it, op.Half) && op.Turn > 0 && op.Turn <= topHalf {
			turned := turnedByPieces(it, op.Half, op.Turn)
			if !sameSum(ones(total(it)), ones(total(turned))) {
				return slices.Concat(flights[:at], []string{turned}, flights[at+1:]), "", false
			}
		}
		return flights, "", false
	case 3:
		return slices.Concat(others, []string{it}), "", false
	case 4:
		return others, it, true
	}
	return flights, "", false
}

func checkDo(t *testing.T, n impl.Net, op impl.NetOp) {
	t.Helper()
	want, arrives, does := doneBy(n.Flights, op)
	got, s, came := impl.NetDo(n, op)
	sameNet(t, fmt.Sprintf("NetDo(%s, %+v)", shownNet(n), op), got, want...)
	if s != arrives || came != does {
		t.Errorf("NetDo(%s, %+v) gives %s, %v, not %s, %v", shownNet(n), op, short(s), came, short(arrives), does)
	}
	if !impl.NetOk(got) {
		t.Errorf("NetDo(%s, %+v) is not NetOk: %s", shownNet(n), op, shownNet(got))
	}
}

// edgePlaces are places at and around the ends of a net, below 0, and the greatest and the least int.
func edgePlaces(many int) []int {
	return []int{0, 1, many - 1, many, many + 1, 2*many - 1, 2 * many, -1, -2, -many + 1, -many, -many - 1, -3 * many, round, -round - 1, math.MaxInt, math.MaxInt - 1, math.MinInt, math.MinInt + 1}
}

func TestNetConstants(t *testing.T) {
	if impl.MaxFlights != 200 || impl.MaxNetOps != 1000 {
		t.Errorf("MaxFlights %d, MaxNetOps %d", impl.MaxFlights, impl.MaxNetOps)
	}
	if !slices.Equal(netKinds, []int{0, 1, 2, 3, 4}) {
		t.Errorf("kinds %v", netKinds)
	}
}

func TestNetOkAtItsBounds(t *testing.T) {
	full := strings.Repeat("\xff", topDatagram)
	for _, n := range []impl.Net{
		{},
		{Flights: nil},
		{Flights: []string{}},
		{Flights: []string{""}},
		{Flights: []string{"a"}},
		{Flights: []string{full}},
		{Flights: []string{"", full, full[1:], "a"}},
		{Flights: make([]string, topFlights)},
		{Flights: slices.Repeat([]string{full}, topFlights)},
		netOf(topFlights - 1),
		netOf(topFlights),
	} {
		if !impl.NetOk(n) {
			t.Errorf("not NetOk: %s", shownNet(n))
		}
	}
	for _, n := range badNets() {
		if impl.NetOk(n) {
			t.Errorf("NetOk: %s", shownNet(n))
		}
	}
}

func TestNetSendPutsBehindTheOthers(t *testing.T) {
	full := strings.Repeat("f", topDatagram)
	for _, many := range []int{0, 1, 2, 7, topFlights - 2, topFlights - 1} {
		for _, s := range []string{"", "x", "\x00\xff", full[1:], full} {
			n := netOf(many)
			got := impl.NetSend(n, s)
			sameNet(t, fmt.Sprintf("NetSend(%s, %s)", shownNet(n), short(s)), got, append(netOf(many).Flights, s)...)
			if !impl.NetOk(got) {
				t.Errorf("NetSend(%s, %s) is not NetOk", shownNet(n), short(s))
			}
		}
	}
	n := impl.Net{}
	for i := range topFlights + 5 {
		n = impl.NetSend(n, netOf(topFlights + 5).Flights[i])
	}
	sameNet(t, "sent one by one", n, netOf(topFlights + 5).Flights[:topFlights]...)
}

func TestNetSendLosesWhatIsNoMore(t *testing.T) {
	long := strings.Repeat("f", topDatagram+1)
	same := func(n impl.Net, s string) {
		t.Helper()
		was := slices.Clone(n.Flights)
		sameNet(t, fmt.Sprintf("NetSend(%s, %s)", shownNet(n), short(s)), impl.NetSend(n, s), was...)
	}
	for _, many := range []int{0, 1, topFlights - 1, topFlights} {
		same(netOf(many), long)
		same(netOf(many), long+long)
	}
	for _, s := range []string{"", "x", long[1:], long} {
		same(netOf(topFlights), s)
		for _, n := range badNets() {
			same(n, s)
		}
	}
}

func TestNetDoByHand(t *testing.T) {
	for _, c := range []struct {
		n    []string
		op   impl.NetOp
		want []string
		s    string
		came bool
	}{
		{[]string{"a", "b", "c"}, impl.NetOp{Kind: 0, At: 0}, []string{"b", "c"}, "", false},
		{[]string{"a", "b", "c"}, impl.NetOp{Kind: 0, At: 1}, []string{"a", "c"}, "", false},
		{[]string{"a", "b", "c"}, impl.NetOp{Kind: 0, At: 2}, []string{"a", "b"}, "", false},
		{[]string{"a", "b", "c"}, impl.NetOp{Kind: 0, At: 3}, []string{"b", "c"}, "", false},
		{[]string{"a", "b", "c"}, impl.NetOp{Kind: 0, At: -1}, []string{"a", "b"}, "", false},
		{[]string{"a", "b", "c"}, impl.NetOp{Kind: 0, At: -3}, []string{"b", "c"}, "", false},
		{[]string{"a", "b", "c"}, impl.NetOp{Kind: 1, At: 0}, []string{"a", "b", "c", "a"}, "", false},
		{[]string{"a", "b", "c"}, impl.NetOp{Kind: 1, At: -1}, []string{"a", "b", "c", "c"}, "", false},
		{[]string{"a", "b", "c"}, impl.NetOp{Kind: 3, At: 0}, []string{"b", "c", "a"}, "", false},
		{[]string{"a", "b", "c"}, impl.NetOp{Kind: 3, At: 4}, []string{"a", "c", "b"}, "", false},
		{[]string{"a", "b", "c"}, impl.NetOp{Kind: 3, At: 2}, []string{"a", "b", "c"}, "", false},
		{[]string{"a", "b", "c"}, impl.NetOp{Kind: 4, At: 0}, []string{"b", "c"}, "a", true},
		{[]string{"a", "b", "c"}, impl.NetOp{Kind: 4, At: 1}, []string{"a", "c"}, "b", true},
		{[]string{"a", "b", "c"}, impl.NetOp{Kind: 4, At: -1}, []string{"a", "b"}, "c", true},
		{[]string{"a", "b", "c"}, impl.NetOp{Kind: 4, At: math.MaxInt}, []string{"a", "c"}, "b", true},
		{[]string{"a", "b", "c"}, impl.NetOp{Kind: 4, At: math.MinInt}, []string{"a", "c"}, "b", true},
		{[]string{"a"}, impl.NetOp{Kind: 4, At: -7}, nil, "a", true},
		{[]string{"a"}, impl.NetOp{Kind: 3, At: 7}, []string{"a"}, "", false},
		{[]string{"a"}, impl.NetOp{Kind: 1, At: 7}, []string{"a", "a"}, "", false},
		{[]string{""}, impl.NetOp{Kind: 4}, nil, "", true},
		{[]string{"", "a"}, impl.NetOp{Kind: 4, At: 2}, []string{"a"}, "", true},
		{[]string{"ab", "cd"}, impl.NetOp{Kind: 2, At: 3, Turn: 1}, []string{"ab", "ce"}, "", false},
		{[]string{"ab", "cdef"}, impl.NetOp{Kind: 2, At: -1, Half: 1, Turn: 257}, []string{"ab", "cddg"}, "", false},
		{[]string{"ab"}, impl.NetOp{Kind: 5}, []string{"ab"}, "", false},
		{[]string{"ab"}, impl.NetOp{Kind: -1}, []string{"ab"}, "", false},
	} {
		got, s, came := impl.NetDo(impl.Net{Flights: c.n}, c.op)
		sameNet(t, fmt.Sprintf("NetDo(%q, %+v)", c.n, c.op), got, c.want...)
		if s != c.s || came != c.came {
			t.Errorf("NetDo(%q, %+v) gives %q, %v", c.n, c.op, s, came)
		}
	}
}

func TestNetDoOfEveryKindAtEveryEdge(t *testing.T) {
	for _, many := range []int{1, 2, 3, 7, topFlights - 1, topFlights} {
		for _, at := range edgePlaces(many) {
			for _, kind := range slices.Concat(netKinds, badKinds) {
				checkDo(t, netOf(many), impl.NetOp{Kind: kind, At: at, Half: 1, Turn: 5})
			}
		}
	}
	for _, n := range []impl.Net{{}, {Flights: []string{}}} {
		for _, at := range edgePlaces(0) {
			for _, kind := range slices.Concat(netKinds, badKinds) {
				checkDo(t, n, impl.NetOp{Kind: kind, At: at, Half: 1, Turn: 5})
			}
		}
	}
}

func TestNetTwiceAtTheLimit(t *testing.T) {
	n := netOf(topFlights - 1)
	got, _, _ := impl.NetDo(n, impl.NetOp{Kind: impl.NetTwice, At: 5})
	sameNet(t, "one place free", got, append(netOf(topFlights-1).Flights, n.Flights[5])...)
	again, s, came := impl.NetDo(got, impl.NetOp{Kind: impl.NetTwice, At: 6})
	sameNet(t, "no place free", again, got.Flights...)
	if s != "" || came {
		t.Errorf("NetTwice gives %q, %v", s, came)
	}
	// To put a datagram behind all others needs no place more.
	last, _, _ := impl.NetDo(got, impl.NetOp{Kind: impl.NetLast, At: 0})
	sameNet(t, "NetLast of a full net", last, append(slices.Clone(got.Flights[1:]), got.Flights[0])...)
}

func TestNetSpoilWhereItShows(t *testing.T) {
	eachTurn(sumTexts(), func(s string, k, x int) {
		checkDo(t, impl.Net{Flights: []string{"ahead", s, "behind"}}, impl.NetOp{Kind: impl.NetSpoil, At: 1, Half: k, Turn: x})
	})
	spoil := func(s string, half, turn int) string {
		t.Helper()
		got, given, came := impl.NetDo(impl.Net{Flights: []string{s}}, impl.NetOp{Kind: impl.NetSpoil, Half: half, Turn: turn})
		if len(got.Flights) != 1 || given != "" || came {
			t.Fatalf("NetSpoil of %s: %s, %q, %v", short(s), shownNet(got), given, came)
		}
		return got.Flights[0]
	}
	for _, c := range []struct {
		s          string
		half, turn int
		want       string
	}{
		{"ab", 0, 1, "ac"},
		{"ab", 0, 65535, "\x9e\x9d"},
		{"ab", 0, 0, "ab"},
		{"ab", 0, 65536, "ab"},
		{"ab", 0, -1, "ab"},
		{"ab", 1, 1, "ab"},
		{"ab", -1, 1, "ab"},
		{"abc", 1, 256, "abc"},
		{"a", 0, 1, "a"},
		{"", 0, 1, ""},
		{"\x00\x00", 0, 65535, "\x00\x00"},
		{"\xff\xff", 0, 65535, "\xff\xff"},
		{"\x00\x00", 0, 65534, "\xff\xfe"},
		{"ab\x00\x00", 1, 65535, "ab\x00\x00"},
	} {
		if got := spoil(c.s, c.half, c.turn); got != c.want {
			t.Errorf("%q spoilt at %d by %d is %q, not %q", c.s, c.half, c.turn, got, c.want)
		}
	}
	full := bytesFrom(3, topDatagram)
	if got := spoil(full, 999, 1); got != turnedByPieces(full, 999, 1) {
		t.Errorf("the last half of a full datagram is not spoilt: %s", short(got))
	}
	for _, half := range []int{-1, 1000, round, -round, math.MaxInt, math.MinInt} {
		if spoil(full, half, 1) != full {
			t.Errorf("spoilt at %d", half)
		}
	}
	for _, turn := range badTurns {
		if spoil(full, 0, turn) != full {
			t.Errorf("spoilt by %d", turn)
		}
	}
}

func TestNetDoOfWhatIsNoNet(t *testing.T) {
	for _, n := range badNets() {
		for _, kind := range slices.Concat(netKinds, badKinds) {
			for _, at := range []int{0, -1, len(n.Flights) - 1, math.MinInt} {
				got, s, came := impl.NetDo(n, impl.NetOp{Kind: kind, At: at, Turn: 1})
				sameNet(t, fmt.Sprintf("kind %d at %d of no net", kind, at), got, n.Flights...)
				if s != "" || came {
					t.Errorf("kind %d of no net gives %s, %v", kind, short(s), came)
				}
			}
		}
	}
}

// Only NetGive has something arrive, and an empty datagram arrives too.
func TestWhatArrives(t *testing.T) {
	for _, s := range []string{"", "a", strings.Repeat("z", topDatagram)} {
		for _, kind := range slices.Concat(netKinds, badKinds) {
			_, got, came := impl.NetDo(impl.Net{Flights: []string{s, "other"}}, impl.NetOp{Kind: kind, At: 2})
			if kind == impl.NetGive {
				if got != s || !came {
					t.Errorf("NetGive of %s: %s, %v", short(s), short(got), came)
				}
			} else if got != "" || came {
				t.Errorf("kind %d gives %s, %v", kind, short(got), came)
			}
		}
	}
	_, came := impl.NetRun(impl.Net{Flights: []string{"", "a", ""}}, slices.Repeat([]impl.NetOp{{Kind: impl.NetGive}}, 4))
	if !slices.Equal(came, []string{"", "a", ""}) {
		t.Errorf("empty datagrams among them: %q", came)
	}
}

// someOps are n ops that look unordered, of kinds from -1 to 5.
func someOps(seed, n int) []impl.NetOp {
	words := spread(seed + 4*n)[seed:]
	ops := make([]impl.NetOp, n)
	for i := range ops {
		w := words[4*i : 4*i+4]
		ops[i] = impl.NetOp{Kind: int(w[0]%7) - 1, At: int(int32(w[1])), Half: int(w[2]%12) - 1, Turn: int(w[3] % 65537)}
	}
	return ops
}

// P5: as many datagrams arrive as are given, in order.
func TestNetRunIsNetDoOfEach(t *testing.T) {
	for seed := range 40 {
		for _, many := range []int{0, 1, 5, 60, topFlights} {
			ops := someOps(seed*31, 25*(seed+1))
			want, all, gives := netOf(many).Flights, []string{}, 0
			step, stepped := netOf(many), []string{}
			for _, op := range ops {
				if op.Kind == impl.NetGive && len(want) > 0 {
					gives++
				}
				after, s, came := doneBy(want, op)
				if want = after; came {
					all = append(all, s)
				}
				if step, s, came = impl.NetDo(step, op); came {
					stepped = append(stepped, s)
				}
			}
			got, came := impl.NetRun(netOf(many), ops)
			sameNet(t, fmt.Sprintf("NetRun of %d ops from %d", len(ops), many), got, want...)
			sameNet(t, fmt.Sprintf("NetDo of %d ops from %d", len(ops), many), step, want...)
			if !slices.Equal(came, all) || !slices.Equal(stepped, all) || len(came) != gives {
				t.Errorf("NetRun of %d ops from %d: %d came, by NetDo %d, not %d", len(ops), many, len(came), len(stepped), gives)
			}
		}
	}
}

// P5: what is not spoilt is as it was sent. Each datagram begins with its number, which no spoiling here reaches.
func TestWhatIsNotSpoiltIsAsItWasSent(t *testing.T) {
	const many = 50
	sent := make([]string, many)
	n := impl.Net{}
	for i := range sent {
		sent[i] = twoBytes(i) + bytesFrom(i, i+20)
		n = impl.NetSend(n, sent[i])
	}
	for seed := range 30 {
		spoilt := map[int]bool{}
		ops := []impl.NetOp{}
		now := n
		for _, op := range someOps(seed*17, 300) {
			if op.Kind == impl.NetSpoil {
				op.Half = 1 + op.Half&7
				if places := len(now.Flights); places > 0 {
					spoilt[halfAt(now.Flights[(op.At%places+places)%places], 0)] = true
				}
			}
			ops = append(ops, op)
			now, _, _ = impl.NetDo(now, op)
		}
		left, came := impl.NetRun(n, ops)
		changed := 0
		for _, s := range slices.Concat(left.Flights, came) {
			if was := sent[halfAt(s, 0)]; s != was {
				changed++
				if !spoilt[halfAt(s, 0)] || len(s) != len(was) {
					t.Errorf("%s was sent as %s", short(s), short(was))
				}
			}
		}
		if len(came) == 0 || changed == 0 {
			t.Errorf("seed %d: %d came, %d changed", seed, len(came), changed)
		}
	}
	all, came := impl.NetRun(n, slices.Repeat([]impl.NetOp{{Kind: impl.NetGive}}, many))
	if !slices.Equal(came, sent) || len(all.Flights) != 0 {
		t.Errorf("given in order: %d came, %s", len(came), shownNet(all))
	}
}

func TestNetRunAtItsLimit(t *testing.T) {
	last := impl.NetOp{Kind: impl.NetLast}
	give := impl.NetOp{Kind: impl.NetGive}
	n := netOf(3)
	// A net of three is as it was when all three went behind the others: 998 times leave the last one first, 999 times the first.
	for _, c := range []struct {
		ops  []impl.NetOp
		want []string
		came []string
	}{
		{nil, n.Flights, nil},
		{[]impl.NetOp{}, n.Flights, nil},
		{append(slices.Repeat([]impl.NetOp{last}, topNetOps-2), give), n.Flights[:2], n.Flights[2:]},
		{append(slices.Repeat([]impl.NetOp{last}, topNetOps-1), give), n.Flights[1:], n.Flights[:1]},
		{append(slices.Repeat([]impl.NetOp{last}, topNetOps), give), n.Flights, nil},
		{slices.Repeat([]impl.NetOp{give}, topNetOps), nil, n.Flights},
		{slices.Repeat([]impl.NetOp{give}, topNetOps+1), n.Flights, nil},
		{make([]impl.NetOp, 5*topNetOps), n.Flights, nil},
	} {
		got, came := impl.NetRun(netOf(3), c.ops)
		sameNet(t, fmt.Sprintf("NetRun of %d ops", len(c.ops)), got, c.want...)
		if !slices.Equal(came, c.came) {
			t.Errorf("NetRun of %d ops: came %q, not %q", len(c.ops), came, c.came)
		}
	}
	full := slices.Repeat([]impl.NetOp{{Kind: impl.NetTwice}}, topNetOps)
	if got, came := impl.NetRun(netOf(1), full); len(got.Flights) != topFlights || len(came) != 0 {
		t.Errorf("doubled %d times: %s, %d came", topNetOps, shownNet(got), len(came))
	}
}

func TestNetRunOfWhatIsNoNet(t *testing.T) {
	for _, n := range badNets() {
		for _, count := range []int{0, 1, 300, topNetOps, topNetOps + 1} {
			got, came := impl.NetRun(n, slices.Repeat([]impl.NetOp{{Kind: impl.NetGive}, {Kind: impl.NetDrop}}, count)[:count])
			sameNet(t, fmt.Sprintf("NetRun of %d ops of no net", count), got, n.Flights...)
			if len(came) != 0 {
				t.Errorf("NetRun of no net: %d came", len(came))
			}
		}
	}
}

func TestNetLoadCountsBytes(t *testing.T) {
	full := strings.Repeat("f", topDatagram)
	for _, c := range []struct {
		n    impl.Net
		want int
	}{
		{impl.Net{}, 0},
		{impl.Net{Flights: []string{}}, 0},
		{impl.Net{Flights: []string{""}}, 0},
		{impl.Net{Flights: []string{"a", "", "bcd"}}, 4},
		{impl.Net{Flights: []string{"é"}}, 2},
		{impl.Net{Flights: []string{full, "a"}}, 2001},
		{impl.Net{Flights: slices.Repeat([]string{full}, topFlights)}, 400000},
		{impl.Net{Flights: make([]string, topFlights)}, 0},
	} {
		if got := impl.NetLoad(c.n); got != c.want {
			t.Errorf("NetLoad(%s) = %d, not %d", shownNet(c.n), got, c.want)
		}
	}
	for _, n := range badNets() {
		if got := impl.NetLoad(n); got != 0 {
			t.Errorf("NetLoad(%s) = %d", shownNet(n), got)
		}
	}
}

// netAnswers are all answers that hold a net, with what arrived as a second list.
func netAnswers(n impl.Net, s string, ops []impl.NetOp) map[string][2][]string {
	out := map[string][2][]string{"NetSend": {impl.NetSend(n, s).Flights}}
	run, came := impl.NetRun(n, ops)
	out["NetRun"] = [2][]string{run.Flights, came}
	for _, kind := range slices.Concat(netKinds, badKinds) {
		got, given, _ := impl.NetDo(n, impl.NetOp{Kind: kind, At: 1, Half: 1, Turn: 3})
		out[fmt.Sprintf("NetDo %d", kind)] = [2][]string{got.Flights, {given}}
	}
	return out
}

// roomy is a net whose list has room behind it, filled with what must stay.
func roomy(n impl.Net, spare int) (impl.Net, []string) {
	whole := slices.Clone(n.Flights)
	for i := range spare {
		whole = append(whole, fmt.Sprintf("spare %d", i))
	}
	return impl.Net{Flights: whole[:len(n.Flights)]}, whole
}

func TestNetsAreNewMemory(t *testing.T) {
	for _, plain := range append(badNets(), impl.Net{}, netOf(1), netOf(3), netOf(topFlights-1), netOf(topFlights)) {
		n, whole := roomy(plain, 5)
		was := slices.Clone(whole)
		ops := append(someOps(3, 60), impl.NetOp{Kind: impl.NetTwice}, impl.NetOp{Kind: impl.NetGive, At: -1})
		opsWere := slices.Clone(ops)
		s := "sent now"
		for what, lists := range netAnswers(n, s, ops) {
			for _, list := range lists {
				list = list[:cap(list)]
				for i := range list {
					list[i] = "written by a caller"
				}
			}
			if !slices.Equal(whole, was) {
				t.Fatalf("%s of %s writes into its argument or shares it", what, shownNet(plain))
			}
		}
		if !slices.Equal(ops, opsWere) {
			t.Errorf("NetRun of %s writes into its ops", shownNet(plain))
		}
	}
}

func TestAnswersOfANetShareNoList(t *testing.T) {
	ops := []impl.NetOp{{Kind: impl.NetGive}, {Kind: impl.NetTwice}, {Kind: impl.NetGive}, {Kind: impl.NetLast}}
	left, came := impl.NetRun(netOf(5), ops)
	leftWas := slices.Clone(left.Flights)
	for i := range came[:cap(came)] {
		came[:cap(came)][i] = "written by a caller"
	}
	sameNet(t, "what is left", left, leftWas...)
}

func TestTextsOfANetAreNewMemory(t *testing.T) {
	n := impl.Net{Flights: []string{bytesFrom(1, 30), bytesFrom(2, 40), bytesFrom(3, 50)}}
	s := bytesFrom(4, 60)
	ops := []impl.NetOp{{Kind: impl.NetTwice}, {Kind: impl.NetTwice}, {Kind: impl.NetGive}, {Kind: impl.NetLast}, {Kind: impl.NetGive, At: -1}}
	held := map[*byte]bool{unsafe.StringData(s): true}
	for _, text := range n.Flights {
		held[unsafe.StringData(text)] = true
	}
	for what, lists := range netAnswers(n, s, ops) {
		seen := map[*byte]bool{}
		for _, text := range slices.Concat(lists[0], lists[1]) {
			at := unsafe.StringData(text)
			if len(text) > 0 && (held[at] || seen[at]) {
				t.Errorf("%s shares a text", what)
			}
			seen[at] = true
		}
	}
}
