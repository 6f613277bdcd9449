package tests

import (
	"fmt"
	"math"
	"slices"
	"testing"

	"loop.example/g00107/impl"
)

const (
	topTimers   = 100
	topTick     = 1000000000
	topClockOps = 1000
)

// badTicks are neither ticks of a clock, nor Ids, nor waits.
var badTicks = []int{-1, -2, -topTick, -round, math.MinInt, math.MinInt + 1, topTick + 1, topTick + 2, 2 * topTick, round, math.MaxInt - 1, math.MaxInt}

// farWaits are around places where a wheel of any likely size has made a whole turn, and the farthest ones.
var farWaits = []int{1, 2, 3, 15, 16, 17, 31, 32, 33, 63, 64, 65, 127, 128, 129, 255, 256, 257, 511, 512, 513, 1023, 1024, 1025, 1055, 1056, 1057, 2047, 2048, 2049, 4095, 4096, 4097, 65535, 65536, 65537, 1048576, 999999967, 999999968, topTick - 1, topTick}

// clockAt is a clock from its Now and from Ids and ticks in turn.
func clockAt(now int, idsAndAts ...int) impl.Clock {
	c := impl.Clock{Now: now}
	for i := 0; i < len(idsAndAts); i += 2 {
		c.Timers = append(c.Timers, impl.Timer{Id: idsAndAts[i], At: idsAndAts[i+1]})
	}
	return c
}

// clockOf is a clock with n timers, three of them at each tick.
func clockOf(now, n int) impl.Clock {
	c := impl.Clock{Now: now}
	for i := range n {
		c.Timers = append(c.Timers, impl.Timer{Id: 1000 + i, At: now + 1 + i/3})
	}
	return c
}

// badClocks have each one thing that no clock has.
func badClocks() []impl.Clock {
	out := []impl.Clock{
		clockOf(0, topTimers+1),
		clockOf(7, 3*topTimers),
		clockAt(-1, 1, 5),
		clockAt(topTick+1, 1, topTick+2),
		clockAt(3, -1, 5),
		clockAt(3, topTick+1, 5),
		clockAt(3, 1, 3),
		clockAt(3, 1, 2),
		clockAt(3, 1, -5),
		clockAt(3, 1, 0),
		clockAt(3, 1, topTick+1),
		clockAt(topTick, 1, topTick),
		clockAt(topTick, 1, topTick+1),
		clockAt(3, 1, 5, 1, 5),
		clockAt(3, 1, 5, 1, 6),
		clockAt(3, 1, 5, 2, 5, 1, 9),
		clockAt(3, 1, 5, 2, 5, 3, 5, 1, 9),
		clockAt(3, 1, 6, 2, 5),
		clockAt(3, 2, 5, 1, 5),
		clockAt(3, 1, 5, 2, 6, 4, 7, 3, 7),
		clockAt(3, 1, 5, 2, 8, 3, 7, 4, 9),
		clockAt(3, 1, 5, 2, 6, 3, 3),
		clockAt(3, 1, 4, 2, 6, 3, topTick+1),
		clockAt(3, 1, 4, 2, 6, -1, 7),
	}
	for _, n := range badTicks {
		out = append(out, impl.Clock{Now: n}, clockAt(0, n, 5), clockAt(0, 1, n))
	}
	return out
}

func shownClock(c impl.Clock) string {
	if len(c.Timers) > 8 {
		return fmt.Sprintf("%d %v..(%d)", c.Now, c.Timers[:8], len(c.Timers))
	}
	return fmt.Sprintf("%d %v", c.Now, c.Timers)
}

func equalClocks(a, b impl.Clock) bool {
	return a.Now == b.Now && slices.Equal(a.Timers, b.Timers)
}

func sameClock(t *testing.T, what string, got, want impl.Clock) {
	t.Helper()
	if !equalClocks(got, want) {
		t.Errorf("%s: %s, not %s", what, shownClock(got), shownClock(want))
	}
}

// setBy, stoppedBy and goneBy put a clock together from a plain list, without any wheel.
func setBy(c impl.Clock, id, wait int) (impl.Clock, bool) {
	others, _ := stoppedBy(c, id)
	if id < 0 || id > topTick || wait < 1 || wait > topTick-c.Now || len(others.Timers) == topTimers {
		return c, false
	}
	fresh := impl.Timer{Id: id, At: c.Now + wait}
	place := 0
	for _, o := range others.Timers {
		if o.At < fresh.At || o.At == fresh.At && o.Id < id {
			place++
		}
	}
	others.Timers = slices.Insert(others.Timers, place, fresh)
	return others, true
}

func stoppedBy(c impl.Clock, id int) (impl.Clock, bool) {
	out := impl.Clock{Now: c.Now}
	for _, o := range c.Timers {
		if o.Id != id {
			out.Timers = append(out.Timers, o)
		}
	}
	return out, len(out.Timers) < len(c.Timers)
}

func goneBy(c impl.Clock, ticks int) (impl.Clock, []int) {
	if ticks < 0 || ticks > topTick {
		return c, nil
	}
	out := impl.Clock{Now: min(c.Now+ticks, topTick)}
	off := []int{}
	for _, o := range c.Timers {
		if o.At <= out.Now {
			off = append(off, o.Id)
		} else {
			out.Timers = append(out.Timers, o)
		}
	}
	return out, off
}

func checkSet(t *testing.T, c impl.Clock, id, wait int) {
	t.Helper()
	want, does := setBy(c, id, wait)
	got, done := impl.ClockSet(c, id, wait)
	what := fmt.Sprintf("ClockSet(%s, %d, %d)", shownClock(c), id, wait)
	sameClock(t, what, got, want)
	if done != does || !impl.ClockOk(got) {
		t.Errorf("%s: %v, and ClockOk %v", what, done, impl.ClockOk(got))
	}
}

func checkGo(t *testing.T, c impl.Clock, ticks int) {
	t.Helper()
	want, offs := goneBy(c, ticks)
	got, off := impl.ClockGo(c, ticks)
	what := fmt.Sprintf("ClockGo(%s, %d)", shownClock(c), ticks)
	sameClock(t, what, got, want)
	if !slices.Equal(off, offs) || !impl.ClockOk(got) {
		t.Errorf("%s: %v went off, not %v, and ClockOk %v", what, off, offs, impl.ClockOk(got))
	}
}

func TestClockConstants(t *testing.T) {
	if impl.MaxTimers != topTimers || impl.MaxTick != topTick {
		t.Errorf("MaxTimers %d, MaxTick %d", impl.MaxTimers, impl.MaxTick)
	}
	if impl.ClockOpSet != 0 || impl.ClockOpStop != 1 || impl.ClockOpGo != 2 {
		t.Errorf("kinds %d, %d, %d", impl.ClockOpSet, impl.ClockOpStop, impl.ClockOpGo)
	}
}

func TestClockOkAtItsBounds(t *testing.T) {
	for _, c := range []impl.Clock{
		{},
		{Timers: nil},
		{Timers: []impl.Timer{}},
		{Now: 1},
		{Now: topTick},
		{Now: topTick, Timers: []impl.Timer{}},
		clockAt(0, 0, 1),
		clockAt(0, topTick, topTick),
		clockAt(5, 0, 6),
		clockAt(5, topTick, 6),
		clockAt(5, 1, topTick),
		clockAt(topTick-1, 1, topTick),
		clockAt(topTick-1, 1, topTick, 2, topTick),
		clockAt(5, 1, 6, 2, 6, 3, 6),
		clockAt(5, 9, 6, 1, 7, 0, 8),
		clockAt(5, 3, 6, 9, 6, 1, 7, 2, 7),
		clockOf(0, topTimers-1),
		clockOf(0, topTimers),
		clockOf(topTick-40, topTimers),
	} {
		if !impl.ClockOk(c) {
			t.Errorf("not ClockOk: %s", shownClock(c))
		}
	}
	for _, c := range badClocks() {
		if impl.ClockOk(c) {
			t.Errorf("ClockOk: %s", shownClock(c))
		}
	}
}

// Two alike are found wherever they stand.
func TestClockOkFindsTwoAlike(t *testing.T) {
	for i := range topTimers {
		for j := range i {
			c := clockOf(2, topTimers)
			for k := range c.Timers {
				c.Timers[k].At = 10 + k
			}
			c.Timers[i].Id = c.Timers[j].Id
			if impl.ClockOk(c) {
				t.Fatalf("ClockOk with the same Id at %d and %d", j, i)
			}
		}
	}
}

func TestClockSetByHand(t *testing.T) {
	for _, c := range []struct {
		c        impl.Clock
		id, wait int
		want     impl.Clock
		done     bool
	}{
		{clockAt(0), 0, 1, clockAt(0, 0, 1), true},
		{clockAt(0), topTick, topTick, clockAt(0, topTick, topTick), true},
		{clockAt(0), 1, 0, clockAt(0), false},
		{clockAt(0), 1, -1, clockAt(0), false},
		{clockAt(0), 1, topTick + 1, clockAt(0), false},
		{clockAt(0), -1, 1, clockAt(0), false},
		{clockAt(0), topTick + 1, 1, clockAt(0), false},
		{clockAt(1), 1, topTick, clockAt(1), false},
		{clockAt(1), 1, topTick - 1, clockAt(1, 1, topTick), true},
		{clockAt(topTick - 1), 1, 1, clockAt(topTick-1, 1, topTick), true},
		{clockAt(topTick - 1), 1, 2, clockAt(topTick - 1), false},
		{clockAt(topTick), 1, 1, clockAt(topTick), false},
		{clockAt(10, 4, 15, 6, 20), 5, 3, clockAt(10, 5, 13, 4, 15, 6, 20), true},
		{clockAt(10, 4, 15, 6, 20), 5, 5, clockAt(10, 4, 15, 5, 15, 6, 20), true},
		{clockAt(10, 4, 15, 6, 20), 3, 5, clockAt(10, 3, 15, 4, 15, 6, 20), true},
		{clockAt(10, 4, 15, 6, 20), 5, 10, clockAt(10, 4, 15, 5, 20, 6, 20), true},
		{clockAt(10, 4, 15, 6, 20), 7, 10, clockAt(10, 4, 15, 6, 20, 7, 20), true},
		{clockAt(10, 4, 15, 6, 20), 5, 11, clockAt(10, 4, 15, 6, 20, 5, 21), true},
		{clockAt(10, 4, 15, 6, 20), 6, 1, clockAt(10, 6, 11, 4, 15), true},
		{clockAt(10, 4, 15, 6, 20), 4, 99, clockAt(10, 6, 20, 4, 109), true},
		{clockAt(10, 4, 15, 6, 20), 4, 5, clockAt(10, 4, 15, 6, 20), true},
		{clockAt(10, 4, 15, 6, 20), 4, 0, clockAt(10, 4, 15, 6, 20), false},
		{clockAt(10, 4, 15, 6, 20), 4, topTick - 9, clockAt(10, 4, 15, 6, 20), false},
		{clockAt(10, 4, 15, 6, 20), 4, topTick - 10, clockAt(10, 6, 20, 4, topTick), true},
	} {
		got, done := impl.ClockSet(c.c, c.id, c.wait)
		what := fmt.Sprintf("ClockSet(%s, %d, %d)", shownClock(c.c), c.id, c.wait)
		sameClock(t, what, got, c.want)
		if done != c.done {
			t.Errorf("%s: %v", what, done)
		}
	}
}

func TestClockSetAtEveryEdge(t *testing.T) {
	clocks := []impl.Clock{{}, {Now: 1}, {Now: 31}, {Now: 32}, {Now: topTick - 1}, {Now: topTick}, clockAt(0, 0, 1), clockAt(31, 1, 32, 7, 64), clockAt(topTick-3, 5, topTick-2, 6, topTick), clockOf(100, 20), clockOf(0, topTimers-1), clockOf(9, topTimers)}
	for _, c := range clocks {
		ids := slices.Concat(badTicks, []int{0, 1, 5, 7, 999, 1000, 1050, 1098, 1099, 1100, topTick - 1, topTick})
		for _, id := range ids {
			for _, wait := range slices.Concat(badTicks, []int{0, topTick - c.Now - 1, topTick - c.Now, topTick - c.Now + 1}, farWaits) {
				checkSet(t, c, id, wait)
			}
		}
	}
}

func TestClockSetAtTheMostTimers(t *testing.T) {
	almost := clockOf(5, topTimers-1)
	full, done := impl.ClockSet(almost, 3, 1)
	if !done || len(full.Timers) != topTimers {
		t.Fatalf("the last place: %v, %s", done, shownClock(full))
	}
	after, done := impl.ClockSet(full, 4, 1)
	sameClock(t, "one too many", after, full)
	if done {
		t.Error("one too many is taken")
	}
	for _, o := range full.Timers {
		for _, wait := range []int{1, o.At - 5, 20, 5000, topTick - 5} {
			checkSet(t, full, o.Id, wait)
		}
		after, done := impl.ClockSet(full, o.Id, 77)
		if !done || len(after.Timers) != topTimers || after.Timers[topTimers-1] != (impl.Timer{Id: o.Id, At: 82}) {
			t.Errorf("Id %d among them: %v, %s", o.Id, done, shownClock(after))
		}
	}
}

func TestClockStop(t *testing.T) {
	for _, c := range []struct {
		c    impl.Clock
		id   int
		want impl.Clock
		was  bool
	}{
		{clockAt(0), 0, clockAt(0), false},
		{clockAt(0), 1, clockAt(0), false},
		{clockAt(5, 0, 6), 0, clockAt(5), true},
		{clockAt(5, 1, 6), 0, clockAt(5, 1, 6), false},
		{clockAt(5, 1, 6, 2, 6, 3, 9), 1, clockAt(5, 2, 6, 3, 9), true},
		{clockAt(5, 1, 6, 2, 6, 3, 9), 2, clockAt(5, 1, 6, 3, 9), true},
		{clockAt(5, 1, 6, 2, 6, 3, 9), 3, clockAt(5, 1, 6, 2, 6), true},
		{clockAt(5, 1, 6, 2, 6, 3, 9), 6, clockAt(5, 1, 6, 2, 6, 3, 9), false},
		{clockAt(5, topTick, topTick), topTick, clockAt(5), true},
		{clockAt(topTick), 1, clockAt(topTick), false},
	} {
		got, was := impl.ClockStop(c.c, c.id)
		what := fmt.Sprintf("ClockStop(%s, %d)", shownClock(c.c), c.id)
		sameClock(t, what, got, c.want)
		if was != c.was {
			t.Errorf("%s: %v", what, was)
		}
	}
	full := clockOf(5, topTimers)
	for _, id := range slices.Concat(badTicks, []int{0, 999, 1000, 1001, 1050, 1099, 1100, topTick}) {
		want, is := stoppedBy(full, id)
		got, was := impl.ClockStop(full, id)
		sameClock(t, fmt.Sprintf("ClockStop of Id %d", id), got, want)
		if was != is {
			t.Errorf("ClockStop of Id %d: %v", id, was)
		}
	}
}

func TestClockGoByHand(t *testing.T) {
	for _, c := range []struct {
		c     impl.Clock
		ticks int
		want  impl.Clock
		off   []int
	}{
		{clockAt(0), 0, clockAt(0), nil},
		{clockAt(0), 1, clockAt(1), nil},
		{clockAt(0), topTick, clockAt(topTick), nil},
		{clockAt(0), topTick + 1, clockAt(0), nil},
		{clockAt(0), -1, clockAt(0), nil},
		{clockAt(7), topTick, clockAt(topTick), nil},
		{clockAt(topTick), 0, clockAt(topTick), nil},
		{clockAt(topTick), 1, clockAt(topTick), nil},
		{clockAt(topTick), topTick, clockAt(topTick), nil},
		{clockAt(10, 4, 15), 0, clockAt(10, 4, 15), nil},
		{clockAt(10, 4, 15), 4, clockAt(14, 4, 15), nil},
		{clockAt(10, 4, 15), 5, clockAt(15), []int{4}},
		{clockAt(10, 4, 15), 6, clockAt(16), []int{4}},
		{clockAt(10, 4, 11), 0, clockAt(10, 4, 11), nil},
		{clockAt(10, 4, 11), 1, clockAt(11), []int{4}},
		{clockAt(10, 3, 15, 8, 15, 1, 16), 5, clockAt(15, 1, 16), []int{3, 8}},
		{clockAt(10, 3, 15, 8, 15, 1, 16), 6, clockAt(16), []int{3, 8, 1}},
		{clockAt(10, 3, 15, 8, 15, 1, 16), topTick, clockAt(topTick), []int{3, 8, 1}},
		{clockAt(10, 3, 15, 8, 15, 1, 16), topTick + 1, clockAt(10, 3, 15, 8, 15, 1, 16), nil},
		{clockAt(10, 3, 15, 8, 15, 1, 16), -1, clockAt(10, 3, 15, 8, 15, 1, 16), nil},
		{clockAt(10, 3, topTick), topTick - 11, clockAt(topTick-1, 3, topTick), nil},
		{clockAt(10, 3, topTick), topTick - 10, clockAt(topTick), []int{3}},
		{clockAt(10, 3, topTick), topTick, clockAt(topTick), []int{3}},
		{clockAt(topTick-1, 3, topTick, 4, topTick), 1, clockAt(topTick), []int{3, 4}},
	} {
		got, off := impl.ClockGo(c.c, c.ticks)
		what := fmt.Sprintf("ClockGo(%s, %d)", shownClock(c.c), c.ticks)
		sameClock(t, what, got, c.want)
		if !slices.Equal(off, c.off) {
			t.Errorf("%s: %v went off, not %v", what, off, c.off)
		}
	}
}

// P6: a timer goes off at its tick, not one ahead of it, wherever Now stands and however long it waits.
func TestTimersGoOffAtTheirVeryTick(t *testing.T) {
	for _, now := range []int{0, 1, 30, 31, 32, 33, 1022, 1023, 1024, 999990, topTick - 4097, topTick - 33, topTick - 1} {
		for _, wait := range farWaits {
			if now+wait > topTick {
				continue
			}
			c := clockAt(now, 7, now+wait, 9, now+wait)
			for _, ticks := range []int{0, wait - 1, wait, wait + 1, wait + 32, wait + 1024} {
				if ticks <= topTick {
					checkGo(t, c, ticks)
				}
			}
		}
	}
}

func TestClockGoAtEveryEdge(t *testing.T) {
	for _, c := range []impl.Clock{{}, {Now: 31}, {Now: topTick}, clockAt(0, 3, 1), clockOf(0, 10), clockOf(topTick-34, topTimers), clockOf(1000, topTimers), spreadClock(1, 40), spreadClock(2, topTimers)} {
		for _, ticks := range slices.Concat(badTicks, []int{0, topTick - c.Now}, farWaits) {
			checkGo(t, c, ticks)
		}
		for _, o := range c.Timers {
			for _, ticks := range []int{o.At - c.Now - 1, o.At - c.Now, o.At - c.Now + 1} {
				if ticks <= topTick {
					checkGo(t, c, ticks)
				}
			}
		}
	}
}

// spreadClock is a clock with n timers, near ones, far ones and some at the same tick.
func spreadClock(seed, n int) impl.Clock {
	words := spread(seed + 3*n)[seed:]
	c := impl.Clock{Now: int(words[0] % 5000)}
	for i := range n {
		far := []int{5, 40, 700, 3000, 100000, 900000000}[words[3*i]%6]
		c, _ = setBy(c, int(words[3*i+1]%topTick), 1+int(words[3*i+2])%far)
	}
	return c
}

// P6: ticks in two parts are ticks at once, whatever the parts are.
func TestTicksInTwoPartsAreTicksAtOnce(t *testing.T) {
	for seed := range 60 {
		c := spreadClock(seed, 5+seed)
		ways := []int{0, 1, 31, 32, 33, 900, 1024, 5000, 100000, topTick / 2, topTick}
		for _, o := range c.Timers {
			ways = append(ways, o.At-c.Now)
		}
		for i, first := range ways {
			second := ways[(i*7+seed)%len(ways)]
			if first+second > topTick {
				continue
			}
			once, all := impl.ClockGo(c, first+second)
			part, off := impl.ClockGo(c, first)
			both, more := impl.ClockGo(part, second)
			sameClock(t, fmt.Sprintf("%d and %d ticks of %s", first, second, shownClock(c)), both, once)
			if !slices.Equal(slices.Concat(off, more), all) {
				t.Errorf("%d and %d ticks of %s: %v and %v, at once %v", first, second, shownClock(c), off, more, all)
			}
		}
	}
}

// P6: a timer goes off once, at its tick: gone through tick by tick.
func TestTickByTickEachGoesOffOnce(t *testing.T) {
	for seed := range 10 {
		c := impl.Clock{Now: 1000 * seed}
		for i, w := range spread(seed + topTimers)[seed:] {
			c, _ = impl.ClockSet(c, i%topTimers, 1+int(w%1500))
		}
		at := map[int]int{}
		for _, o := range c.Timers {
			at[o.Id] = o.At
		}
		end := c.Now + 1600
		count := map[int]int{}
		for c.Now < end {
			var off []int
			c, off = impl.ClockGo(c, 1)
			if !slices.IsSorted(off) {
				t.Errorf("at %d: %v", c.Now, off)
			}
			for _, id := range off {
				count[id]++
				if at[id] != c.Now {
					t.Errorf("Id %d went off at %d, not at %d", id, c.Now, at[id])
				}
			}
		}
		for id := range at {
			if count[id] != 1 {
				t.Errorf("Id %d went off %d times", id, count[id])
			}
		}
		if len(c.Timers) != 0 || len(at) != topTimers {
			t.Errorf("seed %d: %d timers, %d left", seed, len(at), len(c.Timers))
		}
	}
}

func TestClockNext(t *testing.T) {
	for _, c := range []struct {
		c    impl.Clock
		want int
	}{
		{impl.Clock{}, -1},
		{impl.Clock{Timers: []impl.Timer{}}, -1},
		{clockAt(5), -1},
		{clockAt(topTick), -1},
		{clockAt(0, 1, 1), 1},
		{clockAt(0, 1, topTick), topTick},
		{clockAt(5, 9, 6), 1},
		{clockAt(5, 9, 15, 1, 16, 2, 17), 10},
		{clockAt(topTick-1, 9, topTick), 1},
		{clockOf(40, topTimers), 1},
	} {
		if got := impl.ClockNext(c.c); got != c.want {
			t.Errorf("ClockNext(%s) = %d, not %d", shownClock(c.c), got, c.want)
		}
	}
	for _, c := range badClocks() {
		if got := impl.ClockNext(c); got != -1 {
			t.Errorf("ClockNext(%s) = %d", shownClock(c), got)
		}
	}
}

// The next one goes off in just as many ticks as ClockNext says, and in no fewer.
func TestClockNextIsWhenTheNextGoesOff(t *testing.T) {
	for seed := range 30 {
		c := spreadClock(seed, 30)
		for len(c.Timers) > 0 {
			next := impl.ClockNext(c)
			if _, off := impl.ClockGo(c, next-1); len(off) != 0 {
				t.Fatalf("%v went off ahead of time", off)
			}
			after, off := impl.ClockGo(c, next)
			if len(off) == 0 {
				t.Fatalf("nothing went off in %d ticks of %s", next, shownClock(c))
			}
			c = after
		}
	}
}

func TestWhatIsNoClockStaysAsItIs(t *testing.T) {
	for _, c := range badClocks() {
		was := impl.Clock{Now: c.Now, Timers: slices.Clone(c.Timers)}
		for _, n := range slices.Concat(badTicks, []int{0, 1, 5, 1000, topTick}) {
			got, done := impl.ClockSet(c, 1, n)
			sameClock(t, "ClockSet of no clock", got, was)
			again, doneToo := impl.ClockSet(c, n, 1)
			sameClock(t, "ClockSet of no clock", again, was)
			stopped, there := impl.ClockStop(c, n)
			sameClock(t, "ClockStop of no clock", stopped, was)
			gone, off := impl.ClockGo(c, n)
			sameClock(t, "ClockGo of no clock", gone, was)
			if done || doneToo || there || len(off) != 0 {
				t.Errorf("%s with %d: %v, %v, %v, %v", shownClock(c), n, done, doneToo, there, off)
			}
		}
	}
}

// ranBy goes through the ops on a plain list.
func ranBy(ops []impl.ClockOp) (impl.Clock, []int) {
	c, all := impl.Clock{}, []int{}
	for _, op := range ops {
		switch op.Kind {
		case 0:
			c, _ = setBy(c, op.Id, op.Wait)
		case 1:
			c, _ = stoppedBy(c, op.Id)
		case 2:
			after, off := goneBy(c, op.Wait)
			c, all = after, append(all, off...)
		}
	}
	return c, all
}

func checkRun(t *testing.T, what string, ops []impl.ClockOp) {
	t.Helper()
	want, all := ranBy(ops)
	got, off := impl.ClockRun(ops)
	sameClock(t, what, got, want)
	if !slices.Equal(off, all) || !impl.ClockOk(got) {
		t.Errorf("%s: %v went off, not %v, and ClockOk %v", what, off, all, impl.ClockOk(got))
	}
}

// clockOps are the ops of rows of a Kind, an Id and a Wait.
func clockOps(rows [][3]int) []impl.ClockOp {
	var ops []impl.ClockOp
	for _, r := range rows {
		ops = append(ops, impl.ClockOp{Kind: r[0], Id: r[1], Wait: r[2]})
	}
	return ops
}

func TestClockRunByHand(t *testing.T) {
	const set, stop, goOn = impl.ClockOpSet, impl.ClockOpStop, impl.ClockOpGo
	for _, c := range []struct {
		ops  [][3]int
		want impl.Clock
		off  []int
	}{
		{[][3]int{{set, 3, 5}}, clockAt(0, 3, 5), nil},
		{[][3]int{{set, 3, 5}, {-1, 3, 5}, {3, 4, 6}, {goOn, 99, 4}}, clockAt(4, 3, 5), nil},
		{[][3]int{{-1, 1, 1}, {3, 1, 1}}, clockAt(0), nil},
		{[][3]int{{set, 3, 5}, {goOn, 0, 5}, {goOn, 0, 5}}, clockAt(10), []int{3}},
		{[][3]int{{set, 3, 5}, {goOn, 0, 5}, {set, 3, 5}, {goOn, 0, 5}}, clockAt(10), []int{3, 3}},
		{[][3]int{{set, 3, 5}, {stop, 3, 99}, {goOn, 0, 9}}, clockAt(9), nil},
		{[][3]int{{set, 3, 5}, {stop, 3, 0}, {set, 3, 5}, {goOn, 0, 9}}, clockAt(9), []int{3}},
		{[][3]int{{set, 3, 5}, {set, 3, 7}, {set, 3, 5}, {goOn, 0, 9}}, clockAt(9), []int{3}},
		{[][3]int{{set, 3, 5}, {set, 3, 7}, {goOn, 0, 5}}, clockAt(5, 3, 7), nil},
		{[][3]int{{set, 3, 7}, {set, 3, 5}, {goOn, 0, 5}, {goOn, 0, 2}}, clockAt(7), []int{3}},
		{[][3]int{{set, 9, 5}, {set, 3, 5}, {set, 6, 4}, {goOn, 0, 5}}, clockAt(5), []int{6, 3, 9}},
		{[][3]int{{set, 3, 5}, {set, -1, 5}, {set, 4, 0}, {goOn, 0, -1}, {goOn, 0, topTick + 1}}, clockAt(0, 3, 5), nil},
		{[][3]int{{goOn, 0, topTick}, {set, 1, 1}, {goOn, 0, topTick}}, clockAt(topTick), nil},
		{[][3]int{{set, 8, topTick}, {goOn, 0, topTick - 1}, {set, 1, 1}, {set, 2, 2}, {goOn, 0, 2}}, clockAt(topTick), []int{1, 8}},
		{[][3]int{{set, 5, 2000}, {goOn, 0, 1990}, {set, 4, 10}, {set, 6, 9}, {goOn, 0, 10}}, clockAt(2000), []int{6, 4, 5}},
	} {
		got, off := impl.ClockRun(clockOps(c.ops))
		what := fmt.Sprintf("ClockRun(%v)", c.ops)
		sameClock(t, what, got, c.want)
		if !slices.Equal(off, c.off) {
			t.Errorf("%s: %v went off, not %v", what, off, c.off)
		}
	}
}

func TestClockRunAtItsLimit(t *testing.T) {
	goes := slices.Repeat([]impl.ClockOp{{Kind: impl.ClockOpSet, Id: 4, Wait: 1}, {Kind: impl.ClockOpGo, Wait: 1}}, topClockOps/2)
	got, off := impl.ClockRun(goes)
	sameClock(t, "as many ops as may be", got, clockAt(topClockOps/2))
	if !slices.Equal(off, slices.Repeat([]int{4}, topClockOps/2)) {
		t.Errorf("as many ops as may be: %d went off", len(off))
	}
	for _, more := range []int{1, 2, topClockOps} {
		for _, kind := range []int{impl.ClockOpGo, impl.ClockOpSet, -1, 3} {
			ops := append(slices.Clone(goes), slices.Repeat([]impl.ClockOp{{Kind: kind, Id: 1, Wait: 1}}, more)...)
			got, off := impl.ClockRun(ops)
			sameClock(t, fmt.Sprintf("%d ops too many", more), got, impl.Clock{})
			if len(off) != 0 {
				t.Errorf("%d ops too many: %d went off", more, len(off))
			}
		}
	}
	for _, ops := range [][]impl.ClockOp{nil, {}} {
		got, off = impl.ClockRun(ops)
		sameClock(t, "no op", got, impl.Clock{})
		if len(off) != 0 {
			t.Errorf("no op: %v went off", off)
		}
	}
}

func TestClockRunPassesOtherKindsBy(t *testing.T) {
	for _, kind := range append([]int{3, 4}, badKinds...) {
		other := impl.ClockOp{Kind: kind, Id: 4, Wait: 2}
		ops := []impl.ClockOp{other, {Kind: impl.ClockOpSet, Id: 4, Wait: 9}, other, {Kind: impl.ClockOpGo, Wait: 3}, other}
		got, off := impl.ClockRun(ops)
		sameClock(t, fmt.Sprintf("kind %d", kind), got, clockAt(3, 4, 9))
		if len(off) != 0 {
			t.Errorf("kind %d: %v went off", kind, off)
		}
	}
}

// someClockOps are n ops that look unordered, of Kinds from -1 to 3, on few Ids, so that timers are set anew and stopped often.
func someClockOps(seed, n, ids, far int) []impl.ClockOp {
	words := spread(seed + 3*n)[seed:]
	kinds := []int{-1, 0, 0, 0, 0, 1, 2, 2, 3, 0}
	ops := make([]impl.ClockOp, n)
	for i := range ops {
		w := words[3*i : 3*i+3]
		ops[i] = impl.ClockOp{Kind: kinds[w[0]%10], Id: int(w[1])%ids - 1, Wait: int(w[2])%far - 1}
	}
	return ops
}

func TestClockRunIsEachOpInOrder(t *testing.T) {
	wentOff := 0
	for seed := range 60 {
		for _, ids := range []int{3, 12, 300} {
			for _, far := range []int{6, 45, 1100, 5000, 20000000} {
				ops := someClockOps(seed*13, 16*(seed+1), ids, far)
				checkRun(t, fmt.Sprintf("seed %d, %d Ids, as far as %d", seed, ids, far), ops)
				c, all := impl.Clock{}, []int{}
				for _, op := range ops {
					var off []int
					switch op.Kind {
					case impl.ClockOpSet:
						c, _ = impl.ClockSet(c, op.Id, op.Wait)
					case impl.ClockOpStop:
						c, _ = impl.ClockStop(c, op.Id)
					case impl.ClockOpGo:
						c, off = impl.ClockGo(c, op.Wait)
					}
					all = append(all, off...)
				}
				got, off := impl.ClockRun(ops)
				sameClock(t, "one op after the other", got, c)
				if !slices.Equal(off, all) {
					t.Errorf("seed %d: %v went off, one op after the other %v", seed, off, all)
				}
				wentOff += len(off)
			}
		}
	}
	if wentOff < 1000 {
		t.Errorf("only %d timers went off in all", wentOff)
	}
}

// More timers than may be: those that come too late are refused until one goes off or is stopped.
func TestClockRunWithMoreTimersThanMayBe(t *testing.T) {
	ops := []impl.ClockOp{}
	for i := range topTimers + 50 {
		ops = append(ops, impl.ClockOp{Kind: impl.ClockOpSet, Id: i, Wait: 10 + i})
	}
	checkRun(t, "too many set", ops)
	ops = append(ops, impl.ClockOp{Kind: impl.ClockOpStop, Id: 7}, impl.ClockOp{Id: 120, Wait: 3}, impl.ClockOp{Id: 121, Wait: 3}, impl.ClockOp{Kind: impl.ClockOpGo, Wait: 12}, impl.ClockOp{Id: 130, Wait: 900})
	checkRun(t, "some again", ops)
	checkRun(t, "all gone", append(ops, impl.ClockOp{Kind: impl.ClockOpGo, Wait: topTick}))
}

// roomyClock is a clock whose list has room behind it, filled with what must stay.
func roomyClock(c impl.Clock, spare int) (impl.Clock, []impl.Timer) {
	whole := slices.Clone(c.Timers)
	for i := range spare {
		whole = append(whole, impl.Timer{Id: -100 - i, At: -200 - i})
	}
	return impl.Clock{Now: c.Now, Timers: whole[:len(c.Timers)]}, whole
}

// clockAnswers are all answers that hold a clock, of ops that do something and of some that do not.
func clockAnswers(c impl.Clock) map[string]impl.Clock {
	out := map[string]impl.Clock{}
	for _, n := range []int{-1, 0, 1, 3, 60, 1000, 1001, topTick, topTick + 1} {
		out[fmt.Sprintf("ClockSet %d", n)], _ = impl.ClockSet(c, 1000, n)
		out[fmt.Sprintf("ClockSet of Id %d", n)], _ = impl.ClockSet(c, n, 4)
		out[fmt.Sprintf("ClockStop %d", n)], _ = impl.ClockStop(c, n)
		out[fmt.Sprintf("ClockGo %d", n)], _ = impl.ClockGo(c, n)
	}
	return out
}

func TestClocksAreNewMemory(t *testing.T) {
	for _, plain := range append(badClocks(), impl.Clock{}, clockAt(3, 1000, 5), clockOf(2, 3), clockOf(2, topTimers-1), clockOf(2, topTimers)) {
		c, whole := roomyClock(plain, 5)
		was := slices.Clone(whole)
		impl.ClockOk(c)
		impl.ClockNext(c)
		for what, got := range clockAnswers(c) {
			if !slices.Equal(whole, was) {
				t.Fatalf("%s of %s writes into its argument", what, shownClock(plain))
			}
			list := got.Timers[:cap(got.Timers)]
			for i := range list {
				list[i] = impl.Timer{Id: -7, At: -8}
			}
			if !slices.Equal(whole, was) {
				t.Fatalf("%s of %s shares its list", what, shownClock(plain))
			}
		}
	}
}

func TestClockRunWritesIntoNoOps(t *testing.T) {
	ops := someClockOps(5, 400, 12, 45)
	was := slices.Clone(ops)
	c, off := impl.ClockRun(ops[:300])
	kept := slices.Clone(c.Timers)
	for i := range off[:cap(off)] {
		off[:cap(off)][i] = -9
	}
	if !slices.Equal(ops, was) {
		t.Error("ClockRun writes into its ops")
	}
	again, _ := impl.ClockRun(ops[:300])
	sameClock(t, "once more", again, impl.Clock{Now: c.Now, Timers: kept})
}
