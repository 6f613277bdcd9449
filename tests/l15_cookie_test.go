package tests

import (
	"fmt"
	"math"
	"slices"
	"testing"

	"loop.example/g00107/impl"
)

const (
	markWeight = 134217728
	stepWeight = 16777216
	mixWeight  = 2654435761
	// unmixWeight times mixWeight is 1, where words come round.
	unmixWeight = 244002641
	topStepMss  = 1460
)

// stepSizes are what the steps stand for.
var stepSizes = []int{64, 128, 256, 400, 536, 800, 1200, topStepMss}

var (
	noSteps    = []int{-1, -2, -7, -8, 8, 9, 15, 16, -round, -round + 3, round, round + 3, math.MinInt, math.MinInt + 1, math.MaxInt - 1, math.MaxInt}
	badPorts   = []int{-1, -2, -80, -65535, -65536, 65536, 65537, 65616, -round, -round + 80, round, round + 80, math.MinInt, math.MinInt + 80, math.MaxInt - 1, math.MaxInt}
	goodEpochs = []int{0, 1, 2, 9, 30, 31, 32, 33, 34, 62, 63, 64, 65, 95, 96, 1000, 65535, 65536, topTick - 33, topTick - 32, topTick - 31, topTick - 2, topTick - 1, topTick}
)

// asker is all that a cookie hangs on, but for the epoch and the step.
type asker struct {
	secret uint32
	a, b   impl.Addr
}

func (x asker) wordsOf(epoch, k int) []uint32 {
	return []uint32{x.a.Host, uint32(x.a.Port), x.b.Host, uint32(x.b.Port), uint32(epoch), uint32(k)}
}

func (x asker) cookie(epoch, k int) uint32 { return impl.Cookie(x.secret, x.a, x.b, epoch, k) }

func (x asker) check(epoch int, cookie uint32) (int, bool) {
	return impl.CookieCheck(x.secret, x.a, x.b, epoch, cookie)
}

func (x asker) hear(epoch int, s impl.Seg) (impl.Seg, bool) {
	return impl.HearCookie(x.secret, x.a, x.b, epoch, s)
}

func (x asker) take(epoch int, s impl.Seg, room, now int) (impl.Conn, bool) {
	return impl.TakeCookie(x.secret, x.a, x.b, epoch, s, room, now)
}

func addr(host uint32, port int) impl.Addr { return impl.Addr{Host: host, Port: port} }

// client asks a server, with an ordinary secret.
var client = asker{7, addr(hostHere, 4000), addr(hostThere, 80)}

func someAskers() []asker {
	out := []asker{
		client, {7, addr(1, 2), addr(3, 4)}, {8, addr(1, 2), addr(3, 4)}, {7, addr(3, 4), addr(1, 2)}, {7, addr(2, 1), addr(4, 3)},
		{}, {0, addr(0, 1), addr(0, 1)}, {round - 1, addr(round-1, topHalf), addr(round-1, topHalf)}, {0, addr(round-1, 0), addr(0, topHalf)}, {halfWay, addr(halfWay, 32768), addr(halfWay-1, 32767)},
	}
	words := spread(50)
	for i := 0; i < len(words); i += 5 {
		out = append(out, asker{words[i], addr(words[i+1], int(words[i+2]%65536)), addr(words[i+3], int(words[i+4]%65536))})
	}
	return out
}

// mixBy takes what is above a word away ahead of going on.
func mixBy(key uint32, list ...uint32) uint32 {
	x := uint64(key)
	for _, w := range list {
		x ^= uint64(w)
		x = x * mixWeight % round
		x ^= x / 32768
	}
	return uint32(x)
}

// unmixed is the key from which the words of the list lead to an end.
func unmixed(end uint32, list ...uint32) uint32 {
	for i := len(list) - 1; i >= 0; i-- {
		end ^= end/32768 ^ end/32768/32768
		end = end*unmixWeight ^ list[i]
	}
	return end
}

// cookieBy adds the three parts by their weights.
func (x asker) cookieBy(epoch, k int) uint32 {
	return uint32(epoch%32*markWeight + k*stepWeight + int(mixBy(x.secret, x.wordsOf(epoch, k)...)%stepWeight))
}

// checkBy tries every cookie that there may be, those of this epoch first.
func (x asker) checkBy(epoch int, cookie uint32) (int, bool) {
	for e := epoch; e >= 0 && e >= epoch-1; e-- {
		for k := range len(stepSizes) {
			if x.cookieBy(e, k) == cookie {
				return k, true
			}
		}
	}
	return 0, false
}

// keyed is x with the secret for which the mix of an epoch and a step ends so.
func (x asker) keyed(epoch, k int, end uint32) asker {
	x.secret = unmixed(end, x.wordsOf(epoch, k)...)
	return x
}

func (x asker) checks(t *testing.T, what string, epoch int, cookie uint32, wantStep int, want bool) {
	t.Helper()
	if k, ok := x.check(epoch, cookie); k != wantStep || ok != want {
		t.Errorf("%s: CookieCheck of %+v, epoch %d, cookie %d is %d, %v", what, x, epoch, cookie, k, ok)
	}
}

func (x asker) refuses(t *testing.T, what string, epoch int, cookie uint32) {
	t.Helper()
	x.checks(t, what, epoch, cookie, 0, false)
}

func TestCookieConstants(t *testing.T) {
	if impl.Steps != 8 || impl.Steps != len(stepSizes) {
		t.Errorf("Steps %d", impl.Steps)
	}
}

func TestMixWordsByHand(t *testing.T) {
	for _, c := range []struct {
		key  uint32
		list []uint32
		want uint32
	}{
		{0, nil, 0}, {9, nil, 9}, {9, []uint32{}, 9}, {4294967295, nil, 4294967295},
		{0, []uint32{0}, 0}, {0, []uint32{0, 0, 0}, 0}, {1, []uint32{1}, 0}, {4294967295, []uint32{4294967295}, 0},
		{1, []uint32{0}, 2654356959}, {0, []uint32{1}, 2654356959},
		{4294967295, []uint32{0}, 1640515038}, {0, []uint32{4294967295}, 1640515038}, {4294967295, []uint32{1}, 3281030076},
		{7, []uint32{1, 2}, 2983912474}, {7, []uint32{1, 2, 3}, 3716627780}, {7, []uint32{3, 2, 1}, 2814244401}, {7, []uint32{1, 3, 2}, 2915751489},
		{7, []uint32{1, 2, 3, 0}, 940765217}, {7, []uint32{0, 1, 2, 3}, 2060784028}, {123456789, []uint32{2147483648, 2147483647, 3735928559}, 3091607696},
	} {
		if got := impl.MixWords(c.key, c.list); got != c.want {
			t.Errorf("MixWords(%d, %v) is %d, not %d", c.key, c.list, got, c.want)
		}
	}
}

func TestMixWordsIsEachWordInOrder(t *testing.T) {
	words := append(spread(60), edgeWords...)
	for _, key := range edgeWords {
		for n := range words {
			list := words[n:min(n+n%9, len(words))]
			got := impl.MixWords(key, list)
			if want := mixBy(key, list...); got != want {
				t.Fatalf("MixWords(%d, %v) is %d, not %d", key, list, got, want)
			}
			one := key
			for _, w := range list {
				one = impl.MixWords(one, []uint32{w})
			}
			if one != got {
				t.Fatalf("MixWords(%d, %v) is %d, word by word %d", key, list, got, one)
			}
		}
		if got, want := impl.MixWords(key, words), mixBy(key, words...); got != want {
			t.Errorf("MixWords(%d, of %d words) is %d, not %d", key, len(words), got, want)
		}
	}
}

// A step of the mix can be taken back, so that nothing of a word is lost: one that is another makes the mix another.
func TestMixWordsLosesNothing(t *testing.T) {
	list := spread(6)
	for _, end := range append(spread(100), edgeWords...) {
		if got := impl.MixWords(unmixed(end, list...), list); got != end {
			t.Errorf("MixWords is %d, not %d", got, end)
		}
	}
	mix := impl.MixWords(7, list)
	for i := range list {
		for bit := range 32 {
			other := slices.Clone(list)
			other[i] ^= 1 << bit
			if impl.MixWords(7, other) == mix || impl.MixWords(7^1<<bit, list) == mix {
				t.Errorf("bit %d of word %d doesn't count", bit, i)
			}
		}
		for j := range i {
			other := slices.Clone(list)
			other[i], other[j] = other[j], other[i]
			if impl.MixWords(7, other) == mix {
				t.Errorf("the order of words %d and %d doesn't count", j, i)
			}
		}
	}
}

func TestMixWordsWritesIntoNothing(t *testing.T) {
	was := spread(20)
	for n := range was {
		whole := slices.Clone(was)
		first := impl.MixWords(7, whole[:n])
		impl.MixWords(8, whole[1:])
		if again := impl.MixWords(7, whole[:n]); again != first || !slices.Equal(whole, was) {
			t.Errorf("%d words: %d, then %d; %v", n, first, again, whole)
		}
	}
}

func TestMssOf(t *testing.T) {
	for k, want := range stepSizes {
		if got := impl.MssOf(k); got != want {
			t.Errorf("MssOf(%d) is %d, not %d", k, got, want)
		}
	}
	for _, k := range noSteps {
		if got := impl.MssOf(k); got != 0 {
			t.Errorf("MssOf(%d) is %d", k, got)
		}
	}
}

// stepBy goes down from the greatest.
func stepBy(mss int) int {
	for k := len(stepSizes) - 1; k > 0; k-- {
		if mss >= stepSizes[k] {
			return k
		}
	}
	return 0
}

// tellingSizes are at the steps, beside them and far from them.
func tellingSizes() []int {
	out := []int{0, 1, -1, -64, -1460, 1500, 65535, 65536, round, round + 64, -round, -round + 1460, math.MinInt, math.MinInt + 1460, math.MaxInt - 1, math.MaxInt}
	for _, n := range stepSizes {
		out = append(out, n-1, n, n+1)
	}
	return out
}

func TestMssStep(t *testing.T) {
	for _, row := range [][2]int{
		{-1, 0}, {0, 0}, {63, 0}, {64, 0}, {65, 0}, {127, 0}, {128, 1}, {129, 1}, {255, 1}, {256, 2}, {257, 2}, {399, 2}, {400, 3}, {401, 3}, {535, 3}, {536, 4}, {537, 4},
		{799, 4}, {800, 5}, {801, 5}, {1199, 5}, {1200, 6}, {1201, 6}, {1459, 6}, {1460, 7}, {1461, 7}, {65536, 7}, {round, 7}, {math.MaxInt, 7}, {math.MinInt, 0},
	} {
		if got := impl.MssStep(row[0]); got != row[1] {
			t.Errorf("MssStep(%d) is %d, not %d", row[0], got, row[1])
		}
	}
	for mss := -2000; mss < 4000; mss++ {
		if got := impl.MssStep(mss); got != stepBy(mss) {
			t.Errorf("MssStep(%d) is %d, not %d", mss, got, stepBy(mss))
		}
	}
	for _, mss := range tellingSizes() {
		if got := impl.MssStep(mss); got != stepBy(mss) {
			t.Errorf("MssStep(%d) is %d, not %d", mss, got, stepBy(mss))
		}
	}
	for k := range stepSizes {
		if got := impl.MssStep(impl.MssOf(k)); got != k {
			t.Errorf("MssStep of MssOf(%d) is %d", k, got)
		}
	}
}

func TestCookieByHand(t *testing.T) {
	for _, c := range []struct {
		x        asker
		epoch, k int
		want     uint32
	}{
		{asker{7, addr(1, 2), addr(3, 4)}, 33, 5, 232408199}, {asker{7, addr(1, 2), addr(3, 4)}, 0, 0, 4748535},
		{asker{7, addr(1, 2), addr(3, 4)}, 31, 7, 4286794089}, {asker{7, addr(1, 2), addr(3, 4)}, 32, 0, 8560050}, {asker{7, addr(1, 2), addr(3, 4)}, 65, 5, 224675116},
		{asker{7, addr(2, 1), addr(3, 4)}, 33, 5, 219834777}, {asker{7, addr(3, 4), addr(1, 2)}, 33, 5, 223134056}, {asker{8, addr(1, 2), addr(3, 4)}, 33, 5, 222709240},
		{asker{}, 0, 0, 0}, {asker{round - 1, addr(round-1, 65535), addr(round-1, 65535)}, 1000000000, 7, 130748191},
		{client, 9, 0, 1208591838}, {client, 9, 1, 1228864256}, {client, 9, 2, 1251485022}, {client, 9, 3, 1271951292},
		{client, 9, 4, 1277847903}, {client, 9, 5, 1298274943}, {client, 9, 6, 1320943327}, {client, 9, 7, 1341306047},
		{asker{3560820164, client.a, client.b}, 31, 7, 4294967295}, {asker{2917823186, client.a, client.b}, 0, 0, 0}, {asker{3896990669, client.a, client.b}, 32, 0, 0},
	} {
		if got := c.x.cookie(c.epoch, c.k); got != c.want {
			t.Errorf("Cookie of %+v, epoch %d, step %d is %d, not %d", c.x, c.epoch, c.k, got, c.want)
		}
	}
}

// Each of the three parts is what it should be, whatever the others are.
func TestCookieParts(t *testing.T) {
	for _, x := range someAskers() {
		for _, epoch := range goodEpochs {
			for k := range stepSizes {
				got := x.cookie(epoch, k)
				mix := impl.MixWords(x.secret, x.wordsOf(epoch, k))
				if got/markWeight != uint32(epoch%32) || got/stepWeight%8 != uint32(k) || got%stepWeight != mix%stepWeight || got != x.cookieBy(epoch, k) {
					t.Errorf("Cookie of %+v, epoch %d, step %d is %d, not %d", x, epoch, k, got, x.cookieBy(epoch, k))
				}
			}
		}
	}
}

// othersThan are askers that differ from x in one thing.
func othersThan(x asker) map[string]asker {
	change := func(does func(*asker)) asker {
		y := x
		does(&y)
		return y
	}
	return map[string]asker{
		"the secret": change(func(y *asker) { y.secret++ }), "the highest bit of the secret": change(func(y *asker) { y.secret ^= halfWay }),
		"whence": change(func(y *asker) { y.a.Host++ }), "the highest bit of whence": change(func(y *asker) { y.a.Host ^= halfWay }),
		"from which port": change(func(y *asker) { y.a.Port ^= 1 }), "the highest bit of from which port": change(func(y *asker) { y.a.Port ^= 32768 }),
		"whereto": change(func(y *asker) { y.b.Host-- }), "the highest bit of whereto": change(func(y *asker) { y.b.Host ^= halfWay }),
		"to which port": change(func(y *asker) { y.b.Port ^= 1 }), "the highest bit of to which port": change(func(y *asker) { y.b.Port ^= 32768 }),
		"the other way": change(func(y *asker) { y.a, y.b = y.b, y.a }), "both hosts": change(func(y *asker) { y.a.Host, y.b.Host = y.b.Host, y.a.Host }),
		"both ports": change(func(y *asker) { y.a.Port, y.b.Port = y.b.Port, y.a.Port }),
	}
}

// A cookie hangs on each of what it is made of; epochs that have the same mark have other mixes.
func TestWhatACookieHangsOn(t *testing.T) {
	for _, x := range []asker{client, {123456, addr(99, 1), addr(round-1, 65534)}} {
		for _, epoch := range []int{0, 1, 31, 32, 1000, topTick - 32} {
			for k := range stepSizes {
				cookie := x.cookie(epoch, k)
				for what, y := range othersThan(x) {
					other := y.cookie(epoch, k)
					if other == cookie || other/stepWeight != cookie/stepWeight {
						t.Errorf("%s: %+v in epoch %d, step %d: %d and %d", what, x, epoch, k, cookie, other)
					}
				}
				for _, turn := range []int{32, -32} {
					later := x.cookie(epoch+turn, k)
					if isSo := epoch+turn >= 0; isSo && (later == cookie || later/stepWeight != cookie/stepWeight) || !isSo && later != 0 {
						t.Errorf("%+v in epoch %d, step %d: %d, and %d epochs later %d", x, epoch, k, cookie, turn, later)
					}
				}
			}
		}
	}
}

// isNoAsking asks that nothing is answered where the epoch or a port is not so, whatever the step and the segment.
func isNoAsking(t *testing.T, what string, x asker, epoch int) {
	t.Helper()
	for k := range stepSizes {
		cookie := x.cookie(epoch, k)
		if cookie != 0 {
			t.Errorf("%s: Cookie of %+v, epoch %d, step %d is %d", what, x, epoch, k, cookie)
		}
		// The second one would be known if the numbers were not looked at, and the others are of the epochs at the bounds.
		for _, c := range []uint32{0, x.cookieBy(epoch, k), x.cookieBy(topTick, k), x.cookieBy(0, k)} {
			x.refuses(t, what, epoch, c)
			if end, ok := x.take(epoch, segOf(ack, 1001, c+1, 44, ""), 300, 6); ok || !equalConns(end, impl.Conn{}) {
				t.Errorf("%s: TakeCookie of %+v, epoch %d, cookie %d is %s, %v", what, x, epoch, c, shownConn(end), ok)
			}
		}
		if s, ok := x.hear(epoch, impl.Seg{Seq: 1000, Flags: syn, Win: 300, Mss: stepSizes[k]}); ok || s != (impl.Seg{}) {
			t.Errorf("%s: HearCookie of %+v, epoch %d is %s, %v", what, x, epoch, shownSeg(s), ok)
		}
	}
}

func TestWrongEpochs(t *testing.T) {
	for _, x := range someAskers() {
		for _, epoch := range badTicks {
			isNoAsking(t, "the epoch", x, epoch)
		}
		for _, epoch := range []int{0, topTick} {
			if got := x.cookie(epoch, 3); got != x.cookieBy(epoch, 3) {
				t.Errorf("Cookie of %+v, epoch %d is %d", x, epoch, got)
			}
			x.checks(t, "at the bounds", epoch, x.cookieBy(epoch, 3), 3, true)
		}
	}
}

func TestWrongPorts(t *testing.T) {
	for _, x := range someAskers() {
		for _, port := range badPorts {
			for _, epoch := range []int{0, 9, topTick} {
				isNoAsking(t, "from which port", asker{x.secret, addr(x.a.Host, port), x.b}, epoch)
				isNoAsking(t, "to which port", asker{x.secret, x.a, addr(x.b.Host, port)}, epoch)
			}
		}
		for _, port := range []int{0, 1, topHalf - 1, topHalf} {
			for _, y := range []asker{{x.secret, addr(x.a.Host, port), x.b}, {x.secret, x.a, addr(x.b.Host, port)}} {
				if got := y.cookie(9, 3); got != y.cookieBy(9, 3) {
					t.Errorf("Cookie of %+v is %d", y, got)
				}
				y.checks(t, "at the bounds", 9, y.cookieBy(9, 3), 3, true)
			}
		}
	}
}

func TestWrongSteps(t *testing.T) {
	for _, x := range someAskers() {
		for _, epoch := range goodEpochs {
			for _, k := range noSteps {
				if got := x.cookie(epoch, k); got != 0 {
					t.Errorf("Cookie of %+v, epoch %d, step %d is %d", x, epoch, k, got)
				}
			}
		}
	}
}

// P15: a cookie is known in its epoch and in the next one, and in no other near it.
func TestCookieInItsEpochAndTheNext(t *testing.T) {
	for _, x := range someAskers() {
		for _, epoch := range goodEpochs {
			for k := range stepSizes {
				cookie := x.cookie(epoch, k)
				x.checks(t, "its epoch", epoch, cookie, k, true)
				if epoch < topTick {
					x.checks(t, "the next one", epoch+1, cookie, k, true)
				} else {
					x.refuses(t, "behind the last", epoch+1, cookie)
				}
				for _, off := range []int{-64, -33, -32, -31, -30, -2, -1, 2, 3, 30, 31, 32, 33, 34, 64, 65} {
					x.refuses(t, fmt.Sprint("epochs later: ", off), epoch+off, cookie)
				}
			}
		}
	}
}

func TestCookieCheckByHand(t *testing.T) {
	for k, cookie := range []uint32{1208591838, 1228864256, 1251485022, 1271951292, 1277847903, 1298274943, 1320943327, 1341306047} {
		client.checks(t, "epoch 9", 9, cookie, k, true)
		client.checks(t, "epoch 10", 10, cookie, k, true)
		client.refuses(t, "epoch 8", 8, cookie)
		client.refuses(t, "epoch 11", 11, cookie)
	}
	for k, cookie := range []uint32{9237289, 29703785, 50033765, 53659941, 74160673, 94520801, 114823141, 118605349} {
		client.checks(t, "epoch 0", 0, cookie, k, true)
		client.checks(t, "epoch 1", 1, cookie, k, true)
		client.refuses(t, "epoch 2", 2, cookie)
		client.refuses(t, "epoch 31", 31, cookie)
		client.refuses(t, "epoch 32", 32, cookie)
	}
}

// Ahead of epoch 0 there is none, though 31 would be its mark, and 0 what is answered for its cookies.
func TestEpochNought(t *testing.T) {
	for _, x := range someAskers() {
		for k := range stepSizes {
			mix := mixBy(x.secret, x.wordsOf(-1, k)...) % stepWeight
			x.refuses(t, "the one before", 0, uint32(31*markWeight+k*stepWeight)+mix)
			x.refuses(t, "the one before", 0, uint32(k*stepWeight)+mix)
			x.refuses(t, "epoch 31", 0, x.cookie(31, k))
			x.checks(t, "epoch 0", 0, x.cookie(0, k), k, true)
		}
		_, isOne := x.checkBy(0, 0)
		x.checks(t, "0", 0, 0, 0, isOne)
		if isOne != (x == asker{}) {
			t.Errorf("%+v: 0 is a cookie in epoch 0", x)
		}
	}
}

// The marks come round behind 31.
func TestMarksComeRound(t *testing.T) {
	for _, x := range someAskers() {
		for k := range stepSizes {
			cookies := map[int]uint32{}
			for epoch := 29; epoch <= 35; epoch++ {
				cookies[epoch] = x.cookie(epoch, k)
			}
			for from, cookie := range cookies {
				for epoch := 29; epoch <= 35; epoch++ {
					if from == epoch || from == epoch-1 {
						x.checks(t, fmt.Sprint("of epoch ", from), epoch, cookie, k, true)
					} else {
						x.refuses(t, fmt.Sprint("of epoch ", from), epoch, cookie)
					}
				}
			}
			x.refuses(t, "of epoch 0", 32, x.cookie(0, k))
			x.refuses(t, "of epoch 0", 33, x.cookie(0, k))
			x.refuses(t, "of epoch 1", 33, x.cookie(1, k))
			x.refuses(t, "of epoch 32", 0, x.cookie(32, k))
			x.refuses(t, "of epoch 32", 1, x.cookie(32, k))
			x.refuses(t, "of epoch 33", 1, x.cookie(33, k))
		}
	}
}

// A wrong bit is found in each of the three parts.
func TestSpoiltCookies(t *testing.T) {
	for _, x := range someAskers() {
		for _, epoch := range []int{0, 1, 9, 31, 32, 33, topTick} {
			for k := range stepSizes {
				for bit := range 32 {
					cookie := x.cookie(epoch, k) ^ 1<<bit
					x.refuses(t, fmt.Sprint("bit ", bit), epoch, cookie)
					if epoch < topTick {
						x.refuses(t, fmt.Sprint("bit ", bit), epoch+1, cookie)
					}
				}
			}
		}
	}
}

func TestCookieCheckOfAnyWord(t *testing.T) {
	words := append(spread(300), edgeWords...)
	for _, x := range someAskers()[:8] {
		for _, epoch := range goodEpochs {
			for _, w := range words {
				k, ok := x.checkBy(epoch, w)
				x.checks(t, "any word", epoch, w, k, ok)
			}
		}
	}
}

// The cookies of two epochs and of all steps are all apart, so the step that is told is that of this epoch where there is one.
func TestCookiesOfBothEpochs(t *testing.T) {
	for _, x := range someAskers() {
		for _, epoch := range goodEpochs[1:] {
			seen := map[uint32]bool{}
			for k := range stepSizes {
				this, before := x.cookie(epoch, k), x.cookie(epoch-1, k)
				seen[this], seen[before] = true, true
				x.checks(t, "this one", epoch, this, k, true)
				x.checks(t, "the one before", epoch, before, k, true)
			}
			if len(seen) != 2*len(stepSizes) {
				t.Errorf("%+v, epoch %d: %d cookies", x, epoch, len(seen))
			}
		}
	}
}

// Even where the mixes of both epochs end in the same bits, the marks are others.
func TestSameMixInBothEpochs(t *testing.T) {
	for _, x := range []asker{{35935798, client.a, client.b}, {22511172, addr(9, 8), addr(7, 6)}} {
		this, before := x.cookie(32, 3), x.cookie(31, 3)
		if this != 3*stepWeight+before%stepWeight || before/markWeight != 31 {
			t.Errorf("%+v: %d and %d", x, this, before)
		}
		x.checks(t, "this one", 32, this, 3, true)
		x.checks(t, "the one before", 32, before, 3, true)
		x.checks(t, "the one before in its own", 31, before, 3, true)
		x.checks(t, "this one in the next", 33, this, 3, true)
		x.refuses(t, "this one ahead of time", 31, this)
		x.refuses(t, "the one before too late", 33, before)
	}
}

// Every word is the cookie of somebody: 0 and 4294967295 too.
func TestEveryWordMayBeACookie(t *testing.T) {
	for _, w := range append(spread(200), edgeWords...) {
		mark, k := int(w/markWeight), int(w/stepWeight%8)
		for _, epoch := range []int{mark, mark + 32, mark + 32*31249998} {
			for _, high := range []uint32{0, 90 * stepWeight, 255 * stepWeight} {
				x := client.keyed(epoch, k, high+w%stepWeight)
				if got := x.cookie(epoch, k); got != w {
					t.Fatalf("Cookie of %+v, epoch %d, step %d is %d, not %d", x, epoch, k, got, w)
				}
				x.checks(t, "made so", epoch, w, k, true)
				x.checks(t, "made so, in the next", epoch+1, w, k, true)
				x.refuses(t, "made so, two later", epoch+2, w)
			}
		}
	}
}

// P15: of other addresses a cookie is only where the mix is the same in the bits that it has.
func TestCookiesOfOtherAddresses(t *testing.T) {
	known, unknown := 0, 0
	for _, x := range someAskers() {
		for _, epoch := range []int{0, 9, 31, topTick - 1} {
			for k := range stepSizes {
				cookie := x.cookie(epoch, k)
				for what, y := range othersThan(x) {
					if y == x {
						continue
					}
					step, ok := y.checkBy(epoch, cookie)
					y.checks(t, what, epoch, cookie, step, ok)
					y.checks(t, what, epoch+1, cookie, step, ok)
					if same := (mixBy(x.secret, x.wordsOf(epoch, k)...)^mixBy(y.secret, y.wordsOf(epoch, k)...))%stepWeight == 0; same != ok {
						t.Errorf("%s: %+v and %+v have the same mix: %v", what, x, y, same)
					}
					unknown++
				}
				known += x.checksOfTheSameMix(t, epoch, k, cookie)
			}
		}
	}
	if known < 5000 || unknown < 5000 {
		t.Errorf("known %d, unknown %d", known, unknown)
	}
}

// withMix is who asks from and to such ports, and to such a host, from the one host for which the mix ends so.
func (x asker) withMix(epoch, k int, port int, b impl.Addr, end uint32) asker {
	y := asker{x.secret, addr(0, port), b}
	y.a.Host = x.secret ^ unmixed(end, y.wordsOf(epoch, k)...)
	return y
}

func (x asker) checksOfTheSameMix(t *testing.T, epoch, k int, cookie uint32) int {
	t.Helper()
	mix, known := mixBy(x.secret, x.wordsOf(epoch, k)...), 0
	for _, port := range []int{0, 5, topHalf} {
		for _, b := range []impl.Addr{x.b, addr(x.b.Host+1, x.b.Port), addr(77, 443)} {
			for _, high := range []uint32{0, 1, 200} {
				y := x.withMix(epoch, k, port, b, mix^high*stepWeight)
				y.checks(t, "the same mix", epoch, cookie, k, true)
				y.checks(t, "the same mix, in the next", epoch+1, cookie, k, true)
				z := x.withMix(epoch, k, port, b, mix^high*stepWeight^1)
				z.refuses(t, "another mix by one bit", epoch, cookie)
				z = x.withMix(epoch, k, port, b, mix^high*stepWeight^8388608)
				z.refuses(t, "another mix by the highest bit", epoch, cookie)
				known++
			}
		}
	}
	return known
}

// hearBy is what HearCookie should answer, step by step.
func (x asker) hearBy(epoch int, s impl.Seg) impl.Seg {
	return impl.Seg{Seq: x.cookieBy(epoch, stepBy(s.Mss)), Ack: uint32((int(s.Seq) + 1) % round), Flags: 18, Win: 65535, Mss: 100}
}

func (x asker) hears(t *testing.T, what string, epoch int, s impl.Seg) {
	t.Helper()
	got, ok := x.hear(epoch, s)
	if want := x.hearBy(epoch, s); !ok || got != want {
		t.Errorf("%s: HearCookie of %+v, epoch %d, %s\n is  %s, %v\n not %s", what, x, epoch, shownSeg(s), shownSeg(got), ok, shownSeg(want))
	}
}

func (x asker) hearsNot(t *testing.T, what string, epoch int, s impl.Seg) {
	t.Helper()
	if got, ok := x.hear(epoch, s); ok || got != (impl.Seg{}) {
		t.Errorf("%s: HearCookie of %+v, epoch %d, %s is %s, %v", what, x, epoch, shownSeg(s), shownSeg(got), ok)
	}
}

func TestHearCookieByHand(t *testing.T) {
	for _, row := range []struct {
		mss    int
		cookie uint32
	}{{0, 1208591838}, {100, 1208591838}, {128, 1228864256}, {536, 1277847903}, {1459, 1320943327}, {1460, 1341306047}} {
		got, ok := client.hear(9, impl.Seg{Seq: 1000, Flags: 2, Win: 300, Mss: row.mss})
		if want := (impl.Seg{Seq: row.cookie, Ack: 1001, Flags: 18, Win: 65535, Mss: 100}); !ok || got != want {
			t.Errorf("Mss %d: %s, %v", row.mss, shownSeg(got), ok)
		}
	}
	got, ok := asker{3560820164, client.a, client.b}.hear(31, impl.Seg{Seq: 4294967295, Flags: 2, Mss: 2000})
	if want := (impl.Seg{Seq: 4294967295, Ack: 0, Flags: 18, Win: 65535, Mss: 100}); !ok || got != want {
		t.Errorf("the last words: %s, %v", shownSeg(got), ok)
	}
}

func TestHearCookieAtEveryEdge(t *testing.T) {
	for _, x := range someAskers() {
		for _, epoch := range goodEpochs {
			for _, mss := range tellingSizes() {
				for _, win := range []int{0, 1, 300, topWin - 1, topWin} {
					x.hears(t, "asks", epoch, impl.Seg{Seq: x.secret, Flags: syn, Win: win, Mss: mss})
				}
			}
			for _, seq := range edgeWords {
				x.hears(t, "asks", epoch, impl.Seg{Seq: seq, Flags: syn, Win: 300, Mss: 400})
				// What an asking segment says of ports and Ack is not looked at.
				x.hears(t, "asks", epoch, impl.Seg{From: 80, To: -5, Seq: seq, Ack: 77, Flags: syn, Win: 300, Mss: 800})
			}
		}
	}
}

func TestHearCookieOfNoAskingSegment(t *testing.T) {
	none := []impl.Seg{{}}
	for flags := -40; flags < 70; flags++ {
		if flags != syn {
			none = append(none, impl.Seg{Seq: 1000, Flags: flags, Win: 300, Mss: 400})
		}
	}
	for _, flags := range append([]int{round + syn, syn - round, 256 + syn, math.MinInt + syn}, farNumbers...) {
		none = append(none, impl.Seg{Seq: 1000, Flags: flags, Win: 300, Mss: 400})
	}
	for _, win := range append([]int{topWin + 1, topWin + 2}, farNumbers...) {
		none = append(none, impl.Seg{Seq: 1000, Flags: syn, Win: win, Mss: 400})
	}
	for _, data := range []string{"x", "\x00", bytesFrom(1, topSeg), bytesFrom(1, topSeg+1)} {
		none = append(none, impl.Seg{Seq: 1000, Flags: syn, Win: 300, Mss: 400, Data: data})
	}
	for _, x := range []asker{client, {}} {
		for _, epoch := range []int{0, 9, topTick} {
			for _, s := range none {
				x.hearsNot(t, "no asking segment", epoch, s)
			}
		}
	}
}

// takeBy is the end that TakeCookie should answer, field by field.
func takeBy(s impl.Seg, room, now int) impl.Conn {
	return impl.Conn{
		State: 3, Iss: s.Ack - 1, Una: s.Ack, Nxt: s.Ack, Max: s.Ack, Wnd: s.Win, WndSeq: s.Seq - 1,
		Out: impl.OutBuf{First: s.Ack, Room: room}, In: impl.InBuf{Next: s.Seq, Room: room}, Cong: impl.Cong{Wnd: 200, Thresh: 8000},
		TimeSeq: s.Ack - 1, TimeAt: now,
	}
}

func (x asker) takes(t *testing.T, what string, epoch int, s impl.Seg, room, now int) impl.Conn {
	t.Helper()
	got, ok := x.take(epoch, s, room, now)
	if want := takeBy(s, room, now); !ok || !equalConns(got, want) {
		t.Errorf("%s: TakeCookie of %+v, epoch %d, %s, room %d, now %d\n is  %s, %v\n not %s", what, x, epoch, shownSeg(s), room, now, shownConn(got), ok, shownConn(want))
	}
	okIs(t, what, got, true)
	return got
}

func (x asker) takesNot(t *testing.T, what string, epoch int, s impl.Seg, room, now int) {
	t.Helper()
	if got, ok := x.take(epoch, s, room, now); ok || !equalConns(got, impl.Conn{}) {
		t.Errorf("%s: TakeCookie of %+v, epoch %d, %s, room %d, now %d is %s, %v", what, x, epoch, shownSeg(s), room, now, shownConn(got), ok)
	}
}

// goingOn is what answers the answer to x in an epoch, with such a step.
func (x asker) goingOn(epoch, k int, seq uint32) impl.Seg {
	return segOf(ack, seq, x.cookieBy(epoch, k)+1, 44, "")
}

func TestTakeCookieByHand(t *testing.T) {
	s := impl.Seg{Seq: 1001, Ack: 1277847904, Flags: 16, Win: 44}
	want := impl.Conn{
		State: 3, Iss: 1277847903, Una: 1277847904, Nxt: 1277847904, Max: 1277847904, Wnd: 44, WndSeq: 1000, WndAck: 0,
		Out: impl.OutBuf{First: 1277847904, Room: 300}, In: impl.InBuf{Next: 1001, Room: 300}, Cong: impl.Cong{Wnd: 200, Thresh: 8000},
		Again: 0, Timing: false, TimeSeq: 1277847903, TimeAt: 6,
	}
	for _, epoch := range []int{9, 10} {
		if got, ok := client.take(epoch, s, 300, 6); !ok || !equalConns(got, want) || !impl.ConnOk(got) {
			t.Errorf("epoch %d: %s, %v", epoch, shownConn(got), ok)
		}
	}
	client.takesNot(t, "ahead of time", 8, s, 300, 6)
	client.takesNot(t, "too late", 11, s, 300, 6)
	client.takesNot(t, "too late by far", 41, s, 300, 6)
}

// P15: what answers the answer is known in the same epoch and in the next one, and then there is a line.
func TestTakeCookieInItsEpochAndTheNext(t *testing.T) {
	for _, x := range someAskers() {
		for _, epoch := range goodEpochs {
			for k := range stepSizes {
				for _, seq := range []uint32{0, 1, 1001, halfWay, round - 1} {
					s := x.goingOn(epoch, k, seq)
					x.takes(t, "its epoch", epoch, s, 300, 6)
					if epoch < topTick {
						x.takes(t, "the next one", epoch+1, s, 300, 6)
					}
					for _, off := range []int{-32, -1, 2, 32, 33} {
						x.takesNot(t, fmt.Sprint("epochs later: ", off), epoch+off, s, 300, 6)
					}
				}
			}
		}
	}
}

func TestTakeCookieOfAnotherAnswer(t *testing.T) {
	for _, x := range someAskers() {
		for _, epoch := range []int{0, 9, 31, 32, topTick} {
			s := x.goingOn(epoch, 4, 1001)
			for _, off := range []uint32{1, 2, 1000, halfWay, round - 1, round - 2} {
				x.takesNot(t, "another Ack", epoch, segOf(ack, 1001, s.Ack+off, 44, ""), 300, 6)
			}
			for bit := range 32 {
				x.takesNot(t, "a wrong bit", epoch, segOf(ack, 1001, (s.Ack-1^1<<bit)+1, 44, ""), 300, 6)
			}
			for what, y := range othersThan(x) {
				if _, ok := y.checkBy(epoch, s.Ack-1); !ok {
					y.takesNot(t, what, epoch, s, 300, 6)
				}
			}
		}
	}
}

// The words around where they come round: an Ack of 0 answers the last cookie, and one of 1 the first.
func TestTakeCookieWhereWordsComeRound(t *testing.T) {
	last, first := asker{3560820164, client.a, client.b}, asker{2917823186, client.a, client.b}
	for _, seq := range []uint32{0, 1, round - 1} {
		for _, room := range startRooms {
			c := last.takes(t, "the last cookie", 31, segOf(ack, seq, 0, 44, ""), room, 6)
			if c.Iss != round-1 || c.Una != 0 || c.In.Next != seq || c.WndSeq != seq-1 {
				t.Errorf("the last cookie: %s", shownConn(c))
			}
			last.takes(t, "the last cookie", 32, segOf(ack, seq, 0, 44, ""), room, 6)
			c = first.takes(t, "the first cookie", 0, segOf(ack, seq, 1, 44, ""), room, 6)
			if c.Iss != 0 || c.Una != 1 {
				t.Errorf("the first cookie: %s", shownConn(c))
			}
			first.takes(t, "the first cookie", 1, segOf(ack, seq, 1, 44, ""), room, 6)
			last.takesNot(t, "the first cookie of the last", 31, segOf(ack, seq, 1, 44, ""), room, 6)
			first.takesNot(t, "the last cookie of the first", 0, segOf(ack, seq, 0, 44, ""), room, 6)
		}
	}
}

func TestTakeCookieByFlags(t *testing.T) {
	for _, x := range []asker{client, {}} {
		for _, epoch := range []int{0, 9, topTick} {
			s := x.goingOn(epoch, 4, 1001)
			for flags := -40; flags < 70; flags++ {
				s.Flags = flags
				if slices.Contains([]int{ack, ack + fin, ack + push, ack + fin + push}, flags) {
					x.takes(t, "flags", epoch, s, 300, 6)
				} else {
					x.takesNot(t, "flags", epoch, s, 300, 6)
				}
			}
			for _, flags := range append([]int{round + ack, ack - round, 256 + ack, math.MinInt + ack}, farNumbers...) {
				s.Flags = flags
				x.takesNot(t, "far flags", epoch, s, 300, 6)
			}
		}
	}
}

func TestTakeCookieAtItsLimits(t *testing.T) {
	for _, x := range []asker{client, {}} {
		for _, epoch := range []int{0, 9, topTick} {
			s := x.goingOn(epoch, 4, 1001)
			for _, room := range startRooms {
				for _, now := range startTicks {
					x.takes(t, "room and now", epoch, s, room, now)
				}
			}
			for _, room := range badRooms {
				x.takesNot(t, "room", epoch, s, room, 6)
			}
			for _, now := range badTicks {
				x.takesNot(t, "now", epoch, s, 300, now)
			}
			for _, win := range []int{0, 1, 44, topWin - 1, topWin} {
				s.Win = win
				x.takes(t, "Win", epoch, s, 300, 6)
			}
			for _, win := range append([]int{topWin + 1, topWin + 2}, farNumbers...) {
				s.Win = win
				x.takesNot(t, "Win", epoch, s, 300, 6)
			}
		}
	}
}

// What s says of ports and Mss is not looked at, and its bytes are for ConnCame to take; nothing of it is kept.
func TestTakeCookieLooksAtNothingElse(t *testing.T) {
	plain := client.goingOn(9, 4, 1001)
	for _, data := range []string{"", "x", "some bytes that came", bytesFrom(1, topSeg), bytesFrom(1, topSeg+1), bytesFrom(1, 70000)} {
		for _, n := range append([]int{0, 80, 100, 1460, 65536}, farNumbers...) {
			s := plain
			s.From, s.To, s.Mss, s.Data = n, -n, n, heap(data)
			c := client.takes(t, "of other things", 9, s, 300, 6)
			for _, mine := range allTexts(c) {
				if sharesText(mine, s.Data) {
					t.Errorf("shares %s", short(data))
				}
			}
		}
	}
}

// Two ends of one answer are two: what is done to the lists of one is not seen in the other.
func TestTakenEndsAreNewMemory(t *testing.T) {
	s := client.goingOn(9, 4, 1001)
	a, _ := client.take(9, s, 300, 6)
	b, _ := client.take(9, s, 300, 6)
	a.In.Parts = append(a.In.Parts[:0], part(1003, "mine"))
	b.In.Parts = append(b.In.Parts[:0], part(1005, "yours"))
	if a.In.Parts[0] != part(1003, "mine") {
		t.Error("one list in two answers")
	}
	client.takes(t, "again", 9, s, 300, 6)
}

// A written byte goes out from an end that was taken, with the place of the answer behind it.
func TestTakenEndsSend(t *testing.T) {
	for _, x := range someAskers() {
		for _, epoch := range []int{0, 9, 31, topTick} {
			s := x.goingOn(epoch, 2, x.secret)
			c := x.takes(t, "taken", epoch, s, 300, 6)
			if _, sent := impl.ConnSend(c, 6); len(sent) != 0 {
				t.Errorf("sends of itself: %s", shownSegs(sent))
			}
			c, n := impl.ConnWrite(c, "hello")
			c, sent := impl.ConnSend(c, 7)
			want := segOf(ack+push, s.Ack, s.Seq, 300, "hello")
			if n != 5 || len(sent) != 1 || sent[0] != want {
				t.Errorf("wrote %d; %s, not %s", n, shownSegs(sent), shownSeg(want))
			}
			if c.Again != 17 || !c.Timing || c.TimeSeq != s.Ack || c.TimeAt != 7 {
				t.Errorf("waits so: %s", shownConn(c))
			}
			okIs(t, "sent", c, true)
		}
	}
}

// askedAndAnswered is an end of the client's that stands by an answer of which nothing was kept, and what it sends.
func (x asker) askedAndAnswered(t *testing.T, iss uint32, room, epoch, now int, early string) (impl.Conn, []impl.Seg) {
	t.Helper()
	c, asks, ok := impl.ConnAsk(iss, room, now)
	reply, heard := x.hear(epoch, asks)
	if !ok || !heard || reply.Flags != syn+ack || reply.Ack != iss+1 {
		t.Fatalf("the answer to %s is %s, %v", shownSeg(asks), shownSeg(reply), heard)
	}
	c, _ = impl.ConnWrite(c, early)
	c, atOnce := impl.ConnCame(c, reply, now+1)
	if c.State != impl.ConnOpen || len(atOnce) != 0 {
		t.Fatalf("not open: %s; %s", shownConn(c), shownSegs(atOnce))
	}
	return impl.ConnSend(c, now+1)
}

// P15 from the asking on: the end that is taken and the client's are a line, over which both read what the other wrote.
func TestALineWithoutAnythingKept(t *testing.T) {
	for i, x := range someAskers() {
		for _, epoch := range []int{0, 1, 31, 32, topTick - 1} {
			for _, later := range []int{0, 1} {
				for _, early := range []string{"", "asked early", bytesFrom(1, 290)} {
					iss, now := startWords[(i+epoch)%len(startWords)], 5*i
					c, sent := x.askedAndAnswered(t, iss, 300, epoch, now, early)
					if len(sent) == 0 {
						t.Fatalf("the client doesn't answer: %s", shownConn(c))
					}
					for _, s := range sent {
						x.takesNot(t, "too late", epoch+2, s, 300, now+2)
					}
					end := x.takes(t, "answered", epoch+later, sent[0], 300, now+2)
					p := impl.Pair{A: c, B: end, Heard: true, Room: 300, ToB: sent, Now: now + 2, WroteA: early}
					p = impl.PairRun(p, []impl.PairOp{writes(impl.PairWriteA, "question"), writes(impl.PairWriteB, "answer")})
					p = impl.PairCalm(p, 100)
					if p.GotB != p.WroteA || p.GotA != "answer" || len(p.WroteA) < len(early) || !impl.PairOver(p) {
						t.Fatalf("not through: %s", shownPair(p))
					}
					p = impl.PairCalm(impl.PairRun(p, []impl.PairOp{op(impl.PairCloseA, 0), op(impl.PairCloseB, 0)}), 100)
					if p.A.State != impl.ConnGone || p.B.State != impl.ConnGone || p.A.End != impl.EndNone || p.B.End != impl.EndNone {
						t.Fatalf("not parted: %s", shownPair(p))
					}
				}
			}
		}
	}
}

// The answer is known by each segment of the client's that still confirms no more than it, a FIN beside it or not.
func TestALineThatIsTakenByBytesOrAFin(t *testing.T) {
	c, sent := client.askedAndAnswered(t, 1000, 300, 9, 5, bytesFrom(1, 150))
	if len(sent) != 2 || len(sent[0].Data) != 100 || len(sent[1].Data) != 50 {
		t.Fatalf("sent %s", shownSegs(sent))
	}
	end := client.takes(t, "by the first bytes", 9, sent[0], 300, 7)
	end, _ = impl.ConnCame(end, sent[0], 7)
	if end.In.Ready != bytesFrom(1, 150)[:100] || !end.Owe {
		t.Errorf("the first bytes: %s", shownConn(end))
	}
	// Who hears only the later bytes takes these for the first ones: nothing was kept that could tell.
	late := client.takes(t, "by the later bytes", 9, sent[1], 300, 7)
	if late.In.Next != 1101 {
		t.Errorf("the later bytes: %s", shownConn(late))
	}
	c, sent = client.askedAndAnswered(t, 1000, 300, 9, 5, "")
	c, sent = impl.ConnSend(impl.ConnClose(c), 7)
	if len(sent) != 1 || sent[0].Flags != ack+fin {
		t.Fatalf("sent %s", shownSegs(sent))
	}
	end = client.takes(t, "by a FIN", 10, sent[0], 300, 7)
	end, _ = impl.ConnCame(end, sent[0], 7)
	if end.State != impl.ConnHalf || !end.GotFin {
		t.Errorf("a FIN: %s", shownConn(end))
	}
	okIs(t, "the client", c, true)
}

// Nothing is kept between calls: the same is answered once more, whatever came between.
func TestCookiesKeepNothing(t *testing.T) {
	for _, x := range someAskers() {
		s := impl.Seg{Seq: 1000, Flags: syn, Win: 300, Mss: 400}
		first, _ := x.hear(9, s)
		for _, y := range someAskers() {
			y.hear(9, impl.Seg{Seq: 7, Flags: syn, Win: 1})
			y.take(9, y.goingOn(9, 1, 5), 300, 6)
			y.check(10, y.cookie(9, 2))
		}
		again, ok := x.hear(9, s)
		if !ok || first != again {
			t.Errorf("%s, then %s", shownSeg(first), shownSeg(again))
		}
		x.takes(t, "taken", 9, x.goingOn(9, 3, 1001), 300, 6)
		x.takes(t, "taken twice", 9, x.goingOn(9, 3, 1001), 300, 6)
	}
}
