package tests

import (
	"fmt"
	"math"
	"slices"
	"testing"

	"loop.example/g00107/impl"
)

const (
	firstWait  = 10
	leastWait  = 2
	mostWait   = 600
	topShift   = 8
	topSample  = 100000
	topSmooth  = 8 * topSample
	topVary    = 4 * topSample
	topRttRun  = 1000
	failedOnce = -1
)

// badSamples are no number of ticks that an answer took.
var badSamples = []int{-1, -2, -8, -topSample, -round, math.MinInt, math.MinInt + 1, topSample + 1, topSample + 2, 2 * topSample, topSmooth, round, round + 1, math.MaxInt / 8, math.MaxInt - 1, math.MaxInt}

// goodSmooths and goodVarys have numbers that eight and four divide, and those beside them.
var (
	goodSmooths = []int{0, 1, 7, 8, 9, 15, 16, 17, 79, 80, 87, 88, 2399, 2400, 4791, 4792, 4799, 4800, 4807, 4808, 399999, 400000, topSmooth - 9, topSmooth - 8, topSmooth - 7, topSmooth - 1, topSmooth}
	goodVarys   = []int{0, 1, 2, 3, 4, 5, 7, 8, 9, 11, 299, 300, 301, 597, 598, 599, 600, 601, 200000, topVary - 5, topVary - 4, topVary - 1, topVary}
)

func known(smooth, vary, shift int) impl.Rtt {
	return impl.Rtt{Any: true, Smooth: smooth, Vary: vary, Shift: shift}
}

// goodRtts are waits at every edge of what is right.
func goodRtts() []impl.Rtt {
	out := []impl.Rtt{}
	for shift := range topShift + 1 {
		out = append(out, impl.Rtt{Shift: shift})
		for _, smooth := range goodSmooths {
			for _, vary := range goodVarys {
				out = append(out, known(smooth, vary, shift))
			}
		}
	}
	return out
}

// badRtts have each one thing that no wait has.
func badRtts() []impl.Rtt {
	out := []impl.Rtt{}
	for _, n := range []int{1, 2, 7, 8, 80, topSample, topVary, topSmooth} {
		out = append(out, impl.Rtt{Smooth: n}, impl.Rtt{Smooth: n, Shift: 2}, impl.Rtt{Smooth: n, Shift: topShift})
	}
	for _, n := range []int{1, 2, 4, 80, topSample, topVary} {
		out = append(out, impl.Rtt{Vary: n}, impl.Rtt{Vary: n, Shift: 2}, impl.Rtt{Vary: n, Shift: topShift}, impl.Rtt{Smooth: n, Vary: n})
	}
	far := []int{-1, -2, -8, -round, math.MinInt, math.MinInt + 1, round, round + 1, math.MaxInt - 1, math.MaxInt}
	for _, any := range []bool{false, true} {
		for _, n := range append(far, topSmooth+1, topSmooth+2) {
			out = append(out, impl.Rtt{Any: any, Smooth: n}, impl.Rtt{Any: any, Smooth: n, Shift: 3})
		}
		for _, n := range append(far, topVary+1, topVary+2, topSmooth) {
			out = append(out, impl.Rtt{Any: any, Vary: n}, impl.Rtt{Any: any, Vary: n, Shift: 3})
		}
		for _, n := range append(far, topShift+1, topShift+2, 62, 63, 64, 65) {
			out = append(out, impl.Rtt{Any: any, Shift: n})
		}
	}
	for _, n := range append(far, topSmooth+1) {
		out = append(out, known(n, 20, 0), known(n, topVary, topShift))
	}
	for _, n := range append(far, topVary+1) {
		out = append(out, known(80, n, 0), known(topSmooth, n, topShift))
	}
	for _, n := range append(far, topShift+1) {
		out = append(out, known(80, 20, n), known(topSmooth, topVary, n))
	}
	return out
}

// sampledBy takes what is left over away ahead of dividing, and tells answers that took less from those that took more.
func sampledBy(t impl.Rtt, r int) impl.Rtt {
	if !t.Any {
		return known(r+r+r+r+r+r+r+r, r+r, 0)
	}
	mean := (t.Smooth - t.Smooth%8) / 8
	quarter := (t.Vary - t.Vary%4) / 4
	if r < mean {
		return known(t.Smooth-(mean-r), t.Vary+(mean-r)-quarter, 0)
	}
	return known(t.Smooth+(r-mean), t.Vary+(r-mean)-quarter, 0)
}

// waitBy doubles one by one.
func waitBy(t impl.Rtt) int {
	n := firstWait
	if t.Any {
		n = (t.Smooth-t.Smooth%8)/8 + t.Vary
		if t.Vary == 0 {
			n++
		}
	}
	if n < leastWait {
		n = leastWait
	}
	for range t.Shift {
		n += n
	}
	if n > mostWait {
		return mostWait
	}
	return n
}

// waitsBy goes through a run with the plain steps above.
func waitsBy(list []int) []int {
	t, out := impl.Rtt{}, []int{}
	for _, n := range list {
		switch {
		case n < 0 && t.Shift < topShift:
			t.Shift++
		case n > topSample:
			t = impl.Rtt{}
		case n >= 0:
			t = sampledBy(t, n)
		}
		out = append(out, waitBy(t))
	}
	return out
}

// longRun is a run without order, of answers of every size, failures in rows, and numbers that are none.
func longRun(seed, n int) []int {
	words := spread(seed*7 + 2*n)[seed*7:]
	list := []int{}
	for i := range n {
		w := int(words[2*i+1])
		kinds := []int{failedOnce, failedOnce, -1 - w, 0, w % 4, w % 30, w % 1000, w % (topSample + 1), topSample, topSample + 1 + w%5}
		list = append(list, kinds[int(words[2*i])%(3+seed%8)])
	}
	return list
}

func alternating(n int, row ...int) []int {
	list := make([]int, n)
	for i := range list {
		list[i] = row[i%len(row)]
	}
	return list
}

func TestRttConstants(t *testing.T) {
	if impl.FirstWait != firstWait || impl.LeastWait != leastWait || impl.MostWait != mostWait {
		t.Errorf("waits %d, %d, %d", impl.FirstWait, impl.LeastWait, impl.MostWait)
	}
	if impl.MaxShift != topShift || impl.MaxSample != topSample {
		t.Errorf("MaxShift %d, MaxSample %d", impl.MaxShift, impl.MaxSample)
	}
}

func TestRttOkByHand(t *testing.T) {
	for _, c := range []struct {
		rtt  impl.Rtt
		want bool
	}{
		{impl.Rtt{}, true}, {known(0, 0, 0), true},
		{known(-1, 0, 0), false}, {known(1, 0, 0), true}, {known(topSmooth-1, 0, 0), true}, {known(topSmooth, 0, 0), true}, {known(topSmooth+1, 0, 0), false},
		{known(0, -1, 0), false}, {known(0, 1, 0), true}, {known(0, topVary-1, 0), true}, {known(0, topVary, 0), true}, {known(0, topVary+1, 0), false},
		{known(0, 0, -1), false}, {known(0, 0, 1), true}, {known(0, 0, topShift-1), true}, {known(0, 0, topShift), true}, {known(0, 0, topShift+1), false},
		{impl.Rtt{Shift: -1}, false}, {impl.Rtt{Shift: 1}, true}, {impl.Rtt{Shift: topShift}, true}, {impl.Rtt{Shift: topShift + 1}, false},
		{impl.Rtt{Smooth: 1}, false}, {impl.Rtt{Smooth: -1}, false}, {impl.Rtt{Vary: 1}, false}, {impl.Rtt{Vary: -1}, false}, {impl.Rtt{Smooth: 1, Vary: 1}, false}, {impl.Rtt{Smooth: 1, Vary: -1}, false},
		{known(topSmooth, topVary, topShift), true}, {known(topVary+1, 0, 0), true},
	} {
		if got := impl.RttOk(c.rtt); got != c.want {
			t.Errorf("RttOk(%v) is %v", c.rtt, got)
		}
	}
}

func TestRttOkAtEveryEdge(t *testing.T) {
	for _, r := range goodRtts() {
		if !impl.RttOk(r) {
			t.Errorf("RttOk(%v) is false", r)
		}
	}
	for _, r := range badRtts() {
		if impl.RttOk(r) {
			t.Errorf("RttOk(%v) is true", r)
		}
	}
}

func TestRttSampleByHand(t *testing.T) {
	for _, c := range []struct {
		rtt          impl.Rtt
		r            int
		smooth, vary int
	}{
		{impl.Rtt{}, 0, 0, 0},
		{impl.Rtt{}, 1, 8, 2},
		{impl.Rtt{}, 5, 40, 10},
		{impl.Rtt{}, topSample - 1, 799992, 199998},
		{impl.Rtt{}, topSample, 800000, 200000},
		{impl.Rtt{Shift: 1}, 3, 24, 6},
		{impl.Rtt{Shift: topShift}, 3, 24, 6},
		{known(0, 0, 0), 0, 0, 0},
		{known(0, 0, 0), 1, 1, 1},
		{known(0, 0, 0), topSample, 100000, 100000},
		{known(1, 1, 0), 0, 1, 1},
		{known(7, 3, 0), 0, 7, 3},
		{known(7, 3, 0), 1, 8, 4},
		{known(8, 4, 0), 0, 7, 4},
		{known(15, 7, 0), 0, 14, 7},
		{known(80, 8, 0), 4, 74, 12},
		{known(80, 8, 0), 9, 79, 7},
		{known(80, 8, 0), 10, 80, 6},
		{known(80, 8, 0), 11, 81, 7},
		{known(80, 8, 0), 16, 86, 12},
		{known(87, 11, 0), 9, 86, 10},
		{known(87, 11, 0), 10, 87, 9},
		{known(87, 11, 0), 11, 88, 10},
		{known(81, 9, 5), 10, 81, 7},
		{known(81, 10, topShift), 10, 81, 8},
		{known(topSmooth, topVary, 0), 0, 700000, 400000},
		{known(topSmooth, topVary, 3), topSample, 800000, 300000},
		{known(topSmooth-1, topVary-1, 3), topSample, 800000, 300001},
		{known(topSmooth-1, topVary-1, 0), 0, 700000, 399999},
		{known(topSmooth, 0, 0), topSample - 1, 799999, 1},
		{known(0, topVary, 0), topSample, 100000, 400000},
	} {
		if got, want := impl.RttSample(c.rtt, c.r), known(c.smooth, c.vary, 0); got != want {
			t.Errorf("RttSample(%v, %d) is %v, not %v", c.rtt, c.r, got, want)
		}
	}
}

func TestRttSampleAtEveryEdge(t *testing.T) {
	for _, rtt := range goodRtts() {
		mean := rtt.Smooth / 8
		for _, r := range []int{0, 1, 2, mean - 7, mean - 1, mean, mean + 1, mean + 7, 50000, topSample - 1, topSample} {
			if r < 0 || r > topSample {
				continue
			}
			got, want := impl.RttSample(rtt, r), sampledBy(rtt, r)
			if got != want || !impl.RttOk(got) {
				t.Errorf("RttSample(%v, %d) is %v, not %v", rtt, r, got, want)
			}
		}
	}
}

// Each remainder of Smooth by eight and of Vary by four, with answers that take less, as much and more.
func TestRttSampleDividesDown(t *testing.T) {
	for smooth := range 50 {
		for vary := range 14 {
			for r := range 12 {
				rtt := known(smooth, vary, (smooth+vary+r)%(topShift+1))
				if got, want := impl.RttSample(rtt, r), sampledBy(rtt, r); got != want {
					t.Errorf("RttSample(%v, %d) is %v, not %v", rtt, r, got, want)
				}
			}
		}
	}
}

func TestRttSampleOfWrongThings(t *testing.T) {
	for _, rtt := range []impl.Rtt{{}, {Shift: 4}, known(0, 0, 0), known(80, 8, 2), known(topSmooth, topVary, topShift)} {
		for _, r := range badSamples {
			if got := impl.RttSample(rtt, r); got != (impl.Rtt{}) {
				t.Errorf("RttSample(%v, %d) is %v", rtt, r, got)
			}
		}
	}
	for _, rtt := range badRtts() {
		for _, r := range append([]int{0, 1, 10, topSample}, badSamples...) {
			if got := impl.RttSample(rtt, r); got != (impl.Rtt{}) {
				t.Errorf("RttSample(%v, %d) is %v", rtt, r, got)
			}
		}
	}
}

func TestRttBackByHand(t *testing.T) {
	for _, rtt := range []impl.Rtt{{}, known(0, 0, 0), known(80, 8, 0), known(87, 11, 0), known(topSmooth, topVary, 0)} {
		for _, c := range [][2]int{{0, 1}, {1, 2}, {4, 5}, {topShift - 2, topShift - 1}, {topShift - 1, topShift}, {topShift, topShift}} {
			was, want := rtt, rtt
			was.Shift, want.Shift = c[0], c[1]
			if got := impl.RttBack(was); got != want || !impl.RttOk(got) {
				t.Errorf("RttBack(%v) is %v", was, got)
			}
		}
	}
	for _, rtt := range badRtts() {
		if got := impl.RttBack(rtt); got != (impl.Rtt{}) {
			t.Errorf("RttBack(%v) is %v", rtt, got)
		}
	}
}

func TestRttWaitByHand(t *testing.T) {
	for _, c := range []struct {
		rtt  impl.Rtt
		want int
	}{
		{impl.Rtt{}, 10}, {impl.Rtt{Shift: 1}, 20}, {impl.Rtt{Shift: 5}, 320}, {impl.Rtt{Shift: 6}, 600}, {impl.Rtt{Shift: topShift}, 600},
		{known(0, 0, 0), 2}, {known(0, 1, 0), 2}, {known(0, 2, 0), 2}, {known(0, 3, 0), 3},
		{known(7, 0, 0), 2}, {known(8, 0, 0), 2}, {known(8, 1, 0), 2}, {known(8, 2, 0), 3}, {known(15, 0, 0), 2}, {known(15, 1, 0), 2},
		{known(16, 0, 0), 3}, {known(16, 1, 0), 3}, {known(16, 2, 0), 4}, {known(23, 2, 0), 4}, {known(40, 10, 0), 15}, {known(47, 10, 0), 15},
		{known(0, 0, 1), 4}, {known(0, 1, 3), 16}, {known(7, 1, 7), 256}, {known(0, 0, topShift), 512}, {known(0, 3, 7), 384}, {known(0, 3, topShift), 600},
		{known(4000, 99, 0), 599}, {known(4007, 99, 0), 599}, {known(4000, 100, 0), 600}, {known(4000, 101, 0), 600}, {known(4008, 99, 0), 600}, {known(4008, 100, 0), 600},
		{known(4784, 0, 0), 599}, {known(4792, 0, 0), 600}, {known(4800, 0, 0), 600}, {known(0, 599, 0), 599}, {known(0, 600, 0), 600}, {known(0, 601, 0), 600},
		{known(800, 199, 1), 598}, {known(800, 200, 1), 600}, {known(800, 201, 1), 600}, {known(80, 64, 3), 592}, {known(80, 65, 3), 600}, {known(80, 66, 3), 600},
		{known(topSmooth, 0, 0), 600}, {known(0, topVary, 0), 600}, {known(topSmooth, topVary, 0), 600}, {known(topSmooth, topVary, topShift), 600},
	} {
		if got := impl.RttWait(c.rtt); got != c.want {
			t.Errorf("RttWait(%v) is %d, not %d", c.rtt, got, c.want)
		}
	}
}

func TestRttWaitAtEveryEdge(t *testing.T) {
	for _, rtt := range goodRtts() {
		if got, want := impl.RttWait(rtt), waitBy(rtt); got != want {
			t.Errorf("RttWait(%v) is %d, not %d", rtt, got, want)
		}
	}
	for smooth := range 40 {
		for vary := range 8 {
			for shift := range topShift + 1 {
				rtt := known(smooth, vary, shift)
				if got, want := impl.RttWait(rtt), waitBy(rtt); got != want {
					t.Errorf("RttWait(%v) is %d, not %d", rtt, got, want)
				}
			}
		}
	}
	for _, rtt := range badRtts() {
		if got := impl.RttWait(rtt); got != firstWait {
			t.Errorf("RttWait(%v) is %d", rtt, got)
		}
	}
}

func TestRttRunByHand(t *testing.T) {
	for _, c := range []struct {
		list, want []int
	}{
		{nil, nil},
		{[]int{}, nil},
		{[]int{0}, []int{2}},
		{[]int{1}, []int{3}},
		{[]int{5}, []int{15}},
		{[]int{failedOnce}, []int{20}},
		{[]int{-2}, []int{20}},
		{[]int{-topSample}, []int{20}},
		{[]int{-topSample - 1}, []int{20}},
		{[]int{math.MinInt}, []int{20}},
		{[]int{topSample}, []int{600}},
		{[]int{topSample + 1}, []int{10}},
		{[]int{math.MaxInt}, []int{10}},
		{[]int{5, failedOnce, 5}, []int{15, 30, 13}},
		{[]int{5, 5, 5, 5}, []int{15, 13, 11, 10}},
		{[]int{10, 4}, []int{30, 30}},
		{[]int{0, 0, 0}, []int{2, 2, 2}},
		{[]int{0, 1, 1}, []int{2, 2, 2}},
		{[]int{5, topSample + 1, 5}, []int{15, 10, 15}},
		{[]int{5, topSample + 1, failedOnce}, []int{15, 10, 20}},
		{[]int{failedOnce, failedOnce, topSample + 1, failedOnce}, []int{20, 40, 10, 20}},
		{[]int{failedOnce, failedOnce, 0, failedOnce}, []int{20, 40, 2, 4}},
		{[]int{topSample, failedOnce, 0}, []int{600, 600, 600}},
		{alternating(10, failedOnce), []int{20, 40, 80, 160, 320, 600, 600, 600, 600, 600}},
		{append([]int{0}, alternating(10, failedOnce)...), []int{2, 4, 8, 16, 32, 64, 128, 256, 512, 512, 512}},
		{append([]int{1}, alternating(10, failedOnce)...), []int{3, 6, 12, 24, 48, 96, 192, 384, 600, 600, 600}},
		{append(alternating(12, failedOnce), 5, failedOnce), []int{20, 40, 80, 160, 320, 600, 600, 600, 600, 600, 600, 600, 15, 30}},
	} {
		if got := impl.RttRun(c.list); !slices.Equal(got, c.want) {
			t.Errorf("RttRun(%v) is %v, not %v", c.list, got, c.want)
		}
	}
}

// runsOfAllKinds are runs whose numbers have order, and runs that have none, up to the longest one.
func runsOfAllKinds() [][]int {
	runs := [][]int{
		alternating(topRttRun, failedOnce),
		alternating(topRttRun, 0),
		alternating(topRttRun, topSample),
		alternating(topRttRun, topSample+1),
		alternating(topRttRun, topSample, 0),
		alternating(topRttRun, 0, failedOnce),
		alternating(topRttRun, topSample, failedOnce, failedOnce, 0),
		alternating(topRttRun, 3, 4, 7, failedOnce, failedOnce, 0, 0, 2, failedOnce, topSample+1),
		append(alternating(topRttRun-20, 1), alternating(20, failedOnce)...),
	}
	for seed := range 60 {
		runs = append(runs, longRun(seed, []int{1, 2, 30, 400, topRttRun - 1, topRttRun}[seed%6]))
	}
	return runs
}

func TestRttRunIsEachStepInOrder(t *testing.T) {
	for i, list := range runsOfAllKinds() {
		got := impl.RttRun(list)
		if want := waitsBy(list); !slices.Equal(got, want) {
			t.Errorf("run %d: %v, not %v", i, got, want)
		}
		rtt, steps := impl.Rtt{}, []int{}
		for _, n := range list {
			if n < 0 {
				rtt = impl.RttBack(rtt)
			} else {
				rtt = impl.RttSample(rtt, n)
			}
			if !impl.RttOk(rtt) {
				t.Fatalf("run %d: %v is not right", i, rtt)
			}
			steps = append(steps, impl.RttWait(rtt))
		}
		if !slices.Equal(got, steps) {
			t.Errorf("run %d: %v, but step by step %v", i, got, steps)
		}
	}
}

func TestRttRunAtItsLimit(t *testing.T) {
	for _, row := range [][]int{{failedOnce}, {5}, {0, failedOnce}, {topSample + 1}} {
		for _, n := range []int{topRttRun - 1, topRttRun} {
			list := alternating(n, row...)
			if got := impl.RttRun(list); len(got) != n || !slices.Equal(got, waitsBy(list)) {
				t.Errorf("%d numbers of %v: %d waits", n, row, len(got))
			}
		}
		for _, n := range []int{topRttRun + 1, topRttRun + 2, 2 * topRttRun, 70000} {
			if got := impl.RttRun(alternating(n, row...)); len(got) != 0 {
				t.Errorf("%d numbers of %v: %d waits", n, row, len(got))
			}
		}
	}
}

// P8: whatever came, the wait stays in its bounds, and doubles with each failure in a row, as long as Shift has not reached its limit.
func TestWaitsOfARunStayInBoundsAndDouble(t *testing.T) {
	for i, list := range runsOfAllKinds() {
		was, row := firstWait, 0
		for k, wait := range impl.RttRun(list) {
			if wait < leastWait || wait > mostWait {
				t.Fatalf("run %d: wait %d is %d", i, k, wait)
			}
			row++
			if list[k] >= 0 {
				row = 0
			}
			if row > topShift && wait != was || row > 0 && row <= topShift && wait != min(2*was, mostWait) {
				t.Fatalf("run %d: wait %d is %d behind %d, at failure %d", i, k, wait, was, row)
			}
			was = wait
		}
	}
}

// P8: the same of every wait that is right, not only of those that a run comes to.
func TestEachFailureDoublesTheWait(t *testing.T) {
	for _, rtt := range goodRtts() {
		was := impl.RttWait(rtt)
		if was < leastWait || was > mostWait {
			t.Fatalf("RttWait(%v) is %d", rtt, was)
		}
		for shift := rtt.Shift; shift < topShift; shift++ {
			rtt = impl.RttBack(rtt)
			wait := impl.RttWait(rtt)
			if wait != min(2*was, mostWait) {
				t.Fatalf("RttWait(%v) is %d behind %d", rtt, wait, was)
			}
			was = wait
		}
		if stays := impl.RttBack(rtt); stays != rtt {
			t.Fatalf("RttBack(%v) is %v", rtt, stays)
		}
	}
}

func TestRttRunIsNewMemory(t *testing.T) {
	for _, n := range []int{0, 1, 3, 100, topRttRun, topRttRun + 1} {
		for _, spare := range []int{0, 1, 7, 2000} {
			whole := append(longRun(n%8, n), alternating(spare, 77)...)
			was := slices.Clone(whole)
			list := whole[:n]
			got, again := impl.RttRun(list), impl.RttRun(list)
			kept := slices.Clone(again)
			if !slices.Equal(whole, was) {
				t.Fatalf("a run of %d writes into its argument", n)
			}
			all := got[:cap(got)]
			for i := range all {
				all[i] = 9999
			}
			what := fmt.Sprintf("%d numbers with room for %d more", n, spare)
			if !slices.Equal(whole, was) {
				t.Errorf("%s: the waits share the argument's list", what)
			}
			if !slices.Equal(again, kept) || !slices.Equal(impl.RttRun(list), kept) {
				t.Errorf("%s: two answers share a list", what)
			}
		}
	}
}
