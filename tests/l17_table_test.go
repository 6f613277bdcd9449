package tests

import (
	"fmt"
	"math"
	"reflect"
	"slices"
	"strings"
	"testing"

	"loop.example/g00107/impl"
)

const (
	topLines     = 12
	topTableStep = 1000
)

// The tables of the tests are at port 80 of this one, and the asker of the cookies is at the other.
var (
	server  = client.b
	visitor = client.a
)

var (
	wrongPorts = append([]int{0}, badPorts...)
	rightPorts = []int{1, 2, 80, 32768, topHalf - 1, topHalf}
	noPlaces   = []int{-1, -2, -topLines, topLines, topLines + 1, 100, -round, -round + 1, round, round + 1, math.MinInt, math.MinInt + 1, math.MaxInt - 1, math.MaxInt}
	badStrides = []int{-1, -2, topTableStep + 1, topTableStep + 2, -topTableStep, topTick, -round, round, round + 1, math.MinInt, math.MinInt + 1, math.MaxInt - 1, math.MaxInt}
)

func lineOf(here, there impl.Addr, c impl.Conn) impl.Line {
	return impl.Line{Here: here, There: there, Conn: c}
}

func tableWith(lines ...impl.Line) impl.Table {
	return impl.Table{Port: 80, Room: ownRoom, Secret: client.secret, Epoch: 9, Now: nowTick, Lines: lines}
}

// crowd are as many lines as there may be, many of which have one address the same, in all states.
func crowd() []impl.Line {
	a, a2, b := addr(hostThere, 80), addr(hostThere, 81), addr(hostThere+1, 80)
	x, x2, y := addr(hostHere, 5000), addr(hostHere, 5001), addr(hostHere+1, 5000)
	out := []impl.Line{}
	for k, both := range [][2]impl.Addr{
		{a, x}, {a, x2}, {a, y}, {a2, x}, {b, x}, {x, a}, {x2, a}, {a2, x2}, {y, b}, {a, a}, {addr(0, 1), addr(round-1, topHalf)}, {addr(round-1, topHalf), addr(0, 1)},
	} {
		out = append(out, lineOf(both[0], both[1], endIn(1+k%9)))
	}
	return out
}

func fullTable() impl.Table { return tableWith(crowd()...) }

func shownTable(x impl.Table) string {
	text := fmt.Sprintf("{Port %d, Room %d, Secret %d, Epoch %d, Now %d, %d lines", x.Port, x.Room, x.Secret, x.Epoch, x.Now, len(x.Lines))
	for k, l := range x.Lines {
		text += fmt.Sprintf("\n  %d: %v to %v, %s", k, l.Here, l.There, shownConn(l.Conn))
	}
	return text + "}"
}

func shownGrams(list []string) string {
	text := fmt.Sprintf("%d datagrams", len(list))
	for _, s := range list {
		src, dst, g, ok := impl.GetDatagram(s)
		text += fmt.Sprintf("; %v to %v, %s, %v", src, dst, shownSeg(g), ok)
	}
	return text
}

func equalLines(a, b impl.Line) bool {
	return a.Here == b.Here && a.There == b.There && equalConns(a.Conn, b.Conn)
}

// equalTables tells by the lines, and then by whatever else there is.
func equalTables(a, b impl.Table) bool {
	if !slices.EqualFunc(a.Lines, b.Lines, equalLines) {
		return false
	}
	a.Lines, b.Lines = nil, nil
	return reflect.DeepEqual(a, b)
}

// amended is a table of its own with these changes.
func amended(x impl.Table, changes ...func(*impl.Table)) impl.Table {
	x.Lines = slices.Clone(x.Lines)
	for k := range x.Lines {
		x.Lines[k].Conn = with(x.Lines[k].Conn)
	}
	for _, change := range changes {
		change(&x)
	}
	return x
}

func sameTable(t *testing.T, what string, got, want impl.Table) {
	t.Helper()
	if !equalTables(got, want) {
		t.Fatalf("%s\n is  %s\n not %s", what, shownTable(got), shownTable(want))
	}
}

func sameGrams(t *testing.T, what string, got, want []string) {
	t.Helper()
	if !slices.Equal(got, want) {
		t.Fatalf("%s\n sends %s\n not   %s", what, shownGrams(got), shownGrams(want))
	}
}

// gram is the datagram of a segment, byte by byte.
func gram(src, dst impl.Addr, s impl.Seg) string { return datagramBytes(src, dst, 0, 64, 6, s) }

func grams(src, dst impl.Addr, list ...impl.Seg) []string {
	out := []string{}
	for _, s := range list {
		out = append(out, gram(src, dst, s))
	}
	return out
}

// isAPort and the two below tell whether a table is right, condition by condition.
func isAPort(n int) bool { return n > 0 && n < 65536 }

func lineRightBy(l impl.Line) bool {
	return isAPort(l.Here.Port) && isAPort(l.There.Port) && impl.ConnOk(l.Conn) && l.Conn.State != 0
}

func tableRightBy(x impl.Table) bool {
	if !isAPort(x.Port) || x.Room < 1 || x.Room > topBuf || x.Epoch < 0 || x.Epoch > topTick || x.Now < 0 || x.Now > topTick || len(x.Lines) > topLines {
		return false
	}
	for k, l := range x.Lines {
		if !lineRightBy(l) || placeOfLine(x.Lines, l.Here, l.There) != k {
			return false
		}
	}
	return true
}

// placeOfLine goes through all lines, to the first that has these.
func placeOfLine(lines []impl.Line, here, there impl.Addr) int {
	for k, l := range lines {
		if l.Here.Host == here.Host && l.Here.Port == here.Port && l.There.Host == there.Host && l.There.Port == there.Port {
			return k
		}
	}
	return -1
}

func withoutGone(lines []impl.Line) []impl.Line {
	out := []impl.Line{}
	for _, l := range lines {
		if l.Conn.State != 0 {
			out = append(out, l)
		}
	}
	return out
}

// onLine puts an end in the place of a line's, and tells what was sent for it and what goes out behind that.
func onLine(x *impl.Table, k int, c impl.Conn, sent []impl.Seg) []string {
	c, more := impl.ConnSend(c, x.Now)
	l := x.Lines[k]
	x.Lines[k].Conn = c
	return grams(l.Here, l.There, append(slices.Clone(sent), more...)...)
}

// cameBySteps goes through the points of TableCame.
func cameBySteps(x impl.Table, s string, iss uint32) (impl.Table, []string) {
	there, here, g, isOne := impl.GetDatagram(s)
	x = amended(x)
	if !tableRightBy(x) || !isOne {
		return x, nil
	}
	k, may, room := placeOfLine(x.Lines, here, there), here.Port == x.Port, len(x.Lines) < topLines
	if k < 0 && may && g.Flags == syn && g.Data == "" {
		if !room {
			answer, _ := impl.HearCookie(x.Secret, there, here, x.Epoch, g)
			return x, grams(here, there, answer)
		}
		c, answer, _ := impl.ConnHear(g, iss, x.Room, x.Now)
		x.Lines = append(x.Lines, lineOf(here, there, c))
		return x, grams(here, there, answer)
	}
	if c, known := impl.TakeCookie(x.Secret, there, here, x.Epoch, g, x.Room, x.Now); k < 0 && may && room && known {
		k = len(x.Lines)
		x.Lines = append(x.Lines, lineOf(here, there, c))
	}
	if k >= 0 {
		c, sent := impl.ConnCame(x.Lines[k].Conn, g, x.Now)
		all := onLine(&x, k, c, sent)
		x.Lines = withoutGone(x.Lines)
		return x, all
	}
	switch {
	case g.Flags&rst != 0:
		return x, nil
	case g.Flags&ack != 0:
		return x, grams(here, there, impl.Seg{Seq: g.Ack, Flags: rst})
	}
	return x, grams(here, there, impl.Seg{Ack: g.Seq + uint32(len(g.Data)+g.Flags/2%2+g.Flags%2), Flags: rst + ack})
}

func tickedBySteps(x impl.Table, n int) (impl.Table, []string) {
	x = amended(x)
	if !tableRightBy(x) || n < 0 || n > topTableStep {
		return x, nil
	}
	x.Now += n
	if x.Now > topTick {
		x.Now = topTick
	}
	all := []string{}
	for k, l := range x.Lines {
		c, sent := impl.ConnTick(l.Conn, x.Now)
		all = append(all, onLine(&x, k, c, sent)...)
	}
	x.Lines = withoutGone(x.Lines)
	return x, all
}

// comes asks that a datagram makes of a table what the steps say, and that nothing is written into it.
func comes(t *testing.T, what string, x impl.Table, s string, iss uint32) (impl.Table, []string) {
	t.Helper()
	arg := amended(x)
	got, sent := impl.TableCame(arg, s, iss)
	want, wantSent := cameBySteps(x, s, iss)
	if !equalTables(got, want) || !slices.Equal(sent, wantSent) || !equalTables(arg, x) {
		t.Fatalf("%s: TableCame(%s; %s; %d)\n is  %s; %s\n not %s; %s\n of what is then %s", what, shownTable(x), shownGrams([]string{s}), iss, shownTable(got), shownGrams(sent), shownTable(want), shownGrams(wantSent), shownTable(arg))
	}
	return got, sent
}

func passes(t *testing.T, what string, x impl.Table, n int) (impl.Table, []string) {
	t.Helper()
	arg := amended(x)
	got, sent := impl.TableTick(arg, n)
	want, wantSent := tickedBySteps(x, n)
	if !equalTables(got, want) || !slices.Equal(sent, wantSent) || !equalTables(arg, x) {
		t.Fatalf("%s: TableTick(%s; %d)\n is  %s; %s\n not %s; %s\n of what is then %s", what, shownTable(x), n, shownTable(got), shownGrams(sent), shownTable(want), shownGrams(wantSent), shownTable(arg))
	}
	return got, sent
}

// onTable is what one of TableWrite, TableRead and TableClose answers: the numbers and texts that the others have not are zero.
type onTable struct {
	x    impl.Table
	n    int
	text string
	sent []string
}

type lineAct func(x impl.Table, k int) onTable

func writeAct(text string) lineAct {
	return func(x impl.Table, k int) (a onTable) {
		a.x, a.n, a.sent = impl.TableWrite(x, k, text)
		return a
	}
}

func readAct(n int) lineAct {
	return func(x impl.Table, k int) (a onTable) {
		a.x, a.text, a.sent = impl.TableRead(x, k, n)
		return a
	}
}

func closeAct(x impl.Table, k int) (a onTable) {
	a.x, a.sent = impl.TableClose(x, k)
	return a
}

// actsOnLine asks that an act on a line does what the same act does to its end, and then ConnSend; and nothing where there is no line.
func actsOnLine(t *testing.T, what string, x impl.Table, k int, does lineAct, plain func(c impl.Conn) (impl.Conn, int, string)) onTable {
	t.Helper()
	arg := amended(x)
	got := does(arg, k)
	want := onTable{x: amended(x)}
	if tableRightBy(x) && k >= 0 && k < len(x.Lines) {
		c, n, text := plain(x.Lines[k].Conn)
		want.n, want.text, want.sent = n, text, onLine(&want.x, k, c, nil)
	}
	if !equalTables(got.x, want.x) || !slices.Equal(got.sent, want.sent) || got.n != want.n || got.text != want.text || !equalTables(arg, x) {
		t.Fatalf("%s: line %d of %s\n is  %s; %d, %s; %s\n not %s; %d, %s; %s\n of what is then %s", what, k, shownTable(x),
			shownTable(got.x), got.n, short(got.text), shownGrams(got.sent), shownTable(want.x), want.n, short(want.text), shownGrams(want.sent), shownTable(arg))
	}
	return got
}

func writesOn(t *testing.T, x impl.Table, k int, text string) onTable {
	t.Helper()
	return actsOnLine(t, "TableWrite", x, k, writeAct(text), func(c impl.Conn) (impl.Conn, int, string) {
		c, n := impl.ConnWrite(c, text)
		return c, n, ""
	})
}

func readsOn(t *testing.T, x impl.Table, k, n int) onTable {
	t.Helper()
	return actsOnLine(t, fmt.Sprint("TableRead of ", n), x, k, readAct(n), func(c impl.Conn) (impl.Conn, int, string) {
		c, text := impl.ConnRead(c, n)
		return c, 0, text
	})
}

func closesOn(t *testing.T, x impl.Table, k int) onTable {
	t.Helper()
	return actsOnLine(t, "TableClose", x, k, closeAct, func(c impl.Conn) (impl.Conn, int, string) {
		return impl.ConnClose(c), 0, ""
	})
}

// wrongTables are none, each for another reason; their lines could all do something otherwise.
func wrongTables() map[string]impl.Table {
	change := func(f func(*impl.Table)) impl.Table { return amended(tableWith(crowd()[:6]...), f) }
	return map[string]impl.Table{
		"no port": change(func(x *impl.Table) { x.Port = 0 }), "too great a port": change(func(x *impl.Table) { x.Port = topHalf + 1 }),
		"no room": change(func(x *impl.Table) { x.Room = 0 }), "too much room": change(func(x *impl.Table) { x.Room = topBuf + 1 }),
		"an epoch below 0": change(func(x *impl.Table) { x.Epoch = -1 }), "too late an epoch": change(func(x *impl.Table) { x.Epoch = topTick + 1 }),
		"a tick below 0": change(func(x *impl.Table) { x.Now = -1 }), "too late a tick": change(func(x *impl.Table) { x.Now = topTick + 1 }),
		"too many lines":      change(func(x *impl.Table) { x.Lines = append(crowd(), lineOf(addr(5, 5), addr(6, 6), openEnd())) }),
		"a line that is gone": change(func(x *impl.Table) { x.Lines[5].Conn.State = impl.ConnGone }), "a line that is not right": change(func(x *impl.Table) { x.Lines[5].Conn.Tries = -1 }),
		"a port of a line": change(func(x *impl.Table) { x.Lines[5].There.Port = 0 }), "the same line twice": change(func(x *impl.Table) { x.Lines[5].Here, x.Lines[5].There = x.Lines[0].Here, x.Lines[0].There }),
		"the zero value": {},
	}
}

func rightIs(t *testing.T, what string, x impl.Table, want bool) {
	t.Helper()
	arg := amended(x)
	if got := impl.TableOk(arg); got != want || tableRightBy(x) != want {
		t.Errorf("%s: TableOk(%s) is %v, by its conditions %v", what, shownTable(x), got, tableRightBy(x))
	}
	if !equalTables(arg, x) {
		t.Errorf("%s: TableOk writes into %s", what, shownTable(x))
	}
}

func TestTableConstants(t *testing.T) {
	if impl.MaxLines != topLines || len(crowd()) != topLines {
		t.Errorf("MaxLines %d, and %d lines of the tests", impl.MaxLines, len(crowd()))
	}
}

func TestTableOkOfNumbers(t *testing.T) {
	for _, many := range []int{0, 1, topLines} {
		of := func(what string, at func(*impl.Table) *int, good, bad []int) {
			t.Helper()
			for _, n := range good {
				rightIs(t, fmt.Sprint(what, " ", n), amended(tableWith(crowd()[:many]...), func(x *impl.Table) { *at(x) = n }), true)
			}
			for _, n := range bad {
				rightIs(t, fmt.Sprint(what, " ", n), amended(tableWith(crowd()[:many]...), func(x *impl.Table) { *at(x) = n }), false)
			}
		}
		of("Port", func(x *impl.Table) *int { return &x.Port }, rightPorts, wrongPorts)
		of("Room", func(x *impl.Table) *int { return &x.Room }, startRooms, badRooms)
		of("Epoch", func(x *impl.Table) *int { return &x.Epoch }, startTicks, badTicks)
		of("Now", func(x *impl.Table) *int { return &x.Now }, startTicks, badTicks)
		for _, secret := range edgeWords {
			x := tableWith(crowd()[:many]...)
			x.Secret = secret
			rightIs(t, "Secret", x, true)
		}
	}
	rightIs(t, "the zero value", impl.Table{}, false)
	for what, x := range wrongTables() {
		rightIs(t, what, x, false)
	}
}

func TestTableOkOfManyLines(t *testing.T) {
	for many := range 2 * topLines {
		lines := []impl.Line{}
		for k := range many {
			lines = append(lines, lineOf(server, addr(hostHere, 6000+k), endIn(1+k%9)))
		}
		rightIs(t, fmt.Sprint(many, " lines"), tableWith(lines...), many <= topLines)
	}
	rightIs(t, "one too many", tableWith(append(crowd(), lineOf(server, visitor, openEnd()))...), false)
	rightIs(t, "very many", tableWith(make([]impl.Line, 1000)...), false)
}

func TestTableOkOfItsLines(t *testing.T) {
	full := fullTable()
	rightIs(t, "full", full, true)
	for k := range full.Lines {
		line := func(what string, want bool, change func(l *impl.Line)) {
			t.Helper()
			rightIs(t, fmt.Sprintf("%s of line %d", what, k), amended(full, func(x *impl.Table) { change(&x.Lines[k]) }), want)
			alone := full.Lines[k]
			change(&alone)
			rightIs(t, what+" of a line alone", tableWith(alone), want)
		}
		for _, state := range everyState {
			line(fmt.Sprint("state ", state), state != impl.ConnGone, func(l *impl.Line) { l.Conn = endIn(state) })
			for _, bad := range badEnds(state)[:20+k] {
				line("an end that is not right", false, func(l *impl.Line) { l.Conn = bad })
			}
		}
		line("the zero end", false, func(l *impl.Line) { l.Conn = impl.Conn{} })
		line("an end that is gone and was reset", false, func(l *impl.Line) { l.Conn = with(openEnd(), endsFor(impl.EndReset)) })
		line("another room", true, func(l *impl.Line) { l.Conn.In.Room, l.Conn.Out.Room = topBuf, topBuf-1 })
		for _, host := range edgeWords {
			line("Here's host", true, func(l *impl.Line) { l.Here = addr(host, 7) })
			line("There's host", true, func(l *impl.Line) { l.There = addr(host, 7) })
		}
		for _, port := range wrongPorts {
			line("Here's port", false, func(l *impl.Line) { l.Here.Port = port })
			line("There's port", false, func(l *impl.Line) { l.There.Port = port })
		}
		for _, port := range rightPorts {
			line("Here's port", true, func(l *impl.Line) { l.Here = addr(99, port) })
			line("There's port", true, func(l *impl.Line) { l.There = addr(99, port) })
		}
	}
}

// Which line is meant hangs on both addresses, each as a whole.
func TestTableOkOfTheSameAddresses(t *testing.T) {
	full := fullTable()
	for i := range full.Lines {
		for j := range i {
			a, b := full.Lines[j], addr(777, 77)
			line := func(what string, want bool, here, there impl.Addr) {
				t.Helper()
				x := amended(full, func(x *impl.Table) { x.Lines[i].Here, x.Lines[i].There = here, there })
				rightIs(t, fmt.Sprintf("%s of lines %d and %d", what, j, i), x, want)
				x.Lines[i], x.Lines[j] = x.Lines[j], x.Lines[i]
				rightIs(t, fmt.Sprintf("%s of lines %d and %d", what, i, j), x, want)
			}
			line("the same Here", true, a.Here, b)
			line("the same There", true, b, a.There)
			line("both the same", false, a.Here, a.There)
			line("another host here", true, addr(a.Here.Host+700, a.Here.Port), a.There)
			line("another port here", true, addr(a.Here.Host, 700), a.There)
			line("another host there", true, a.Here, addr(a.There.Host-700, a.There.Port))
			line("another port there", true, a.Here, addr(a.There.Host, 700))
		}
	}
	// What is the same but for one bit, or but for which number stands where, is not the same.
	near := []impl.Addr{addr(5, 6), addr(6, 5), addr(5, 7), addr(7, 6), addr(5, 6+32768), addr(5+halfWay, 6), addr(5, 6+256)}
	for _, here := range near {
		for _, there := range near {
			x := tableWith(lineOf(near[0], near[0], openEnd()), lineOf(here, there, openEnd()))
			rightIs(t, "near", x, here != near[0] || there != near[0])
		}
	}
	rightIs(t, "turned around", tableWith(lineOf(server, visitor, openEnd()), lineOf(visitor, server, openEnd())), true)
	rightIs(t, "to itself", tableWith(lineOf(server, server, openEnd())), true)
	rightIs(t, "of the same kind", tableWith(lineOf(server, visitor, openEnd()), lineOf(server, visitor, heardEnd())), false)
}

func standsAt(t *testing.T, what string, x impl.Table, here, there impl.Addr, want int) {
	t.Helper()
	arg := amended(x)
	if got := impl.LineAt(arg, here, there); got != want {
		t.Errorf("%s: LineAt(%s; %v, %v) is %d, not %d", what, shownTable(x), here, there, got, want)
	}
	if !equalTables(arg, x) {
		t.Errorf("%s: LineAt writes into %s", what, shownTable(x))
	}
}

func TestLineAt(t *testing.T) {
	full := fullTable()
	for k, l := range full.Lines {
		standsAt(t, "a line", full, l.Here, l.There, k)
		standsAt(t, "the other way round", full, l.There, l.Here, placeOfLine(full.Lines, l.There, l.Here))
		for many := range topLines {
			want := k
			if k >= many {
				want = -1
			}
			standsAt(t, fmt.Sprint("of ", many), tableWith(full.Lines[:many]...), l.Here, l.There, want)
			standsAt(t, "from farther on", tableWith(full.Lines[many:]...), l.Here, l.There, max(k-many, -1))
		}
		for off := 1; off < 300; off += 7 {
			standsAt(t, "another host here", full, addr(l.Here.Host+uint32(100*off), l.Here.Port), l.There, -1)
			standsAt(t, "another host there", full, l.Here, addr(l.There.Host-uint32(100*off), l.There.Port), -1)
			standsAt(t, "another port here", full, addr(l.Here.Host, l.Here.Port/2+off*50+20000), l.There, -1)
			standsAt(t, "another port there", full, l.Here, addr(l.There.Host, l.There.Port/2+off*50+20000), -1)
		}
		for bit := range 32 {
			here, there := addr(l.Here.Host^1<<bit, l.Here.Port), addr(l.There.Host^1<<bit, l.There.Port)
			standsAt(t, "a bit of the host here", full, here, l.There, placeOfLine(full.Lines, here, l.There))
			standsAt(t, "a bit of the host there", full, l.Here, there, placeOfLine(full.Lines, l.Here, there))
		}
		// Ports that are none have the low bits of one.
		for _, far := range []int{65536, -65536, round, -round, math.MinInt} {
			standsAt(t, "a far port here", full, addr(l.Here.Host, l.Here.Port+far), l.There, -1)
			standsAt(t, "a far port there", full, l.Here, addr(l.There.Host, l.There.Port+far), -1)
		}
	}
	for what, x := range wrongTables() {
		for _, l := range append(x.Lines, lineOf(impl.Addr{}, impl.Addr{}, impl.Conn{})) {
			standsAt(t, what, x, l.Here, l.There, -1)
		}
	}
	standsAt(t, "no line", tableWith(), server, visitor, -1)
	standsAt(t, "no line", tableWith(), impl.Addr{}, impl.Addr{}, -1)
}

// asksFor asks that a table asks for one more line.
func asksFor(t *testing.T, what string, x impl.Table, here, there impl.Addr, iss uint32) impl.Table {
	t.Helper()
	arg := amended(x)
	got, sent, ok := impl.TableAsk(arg, here, there, iss)
	want := amended(x, func(x *impl.Table) { x.Lines = append(x.Lines, lineOf(here, there, startedBy(iss, x.Room, x.Now))) })
	what = fmt.Sprintf("%s: TableAsk(%s; %v, %v, %d)", what, shownTable(x), here, there, iss)
	sameTable(t, what, got, want)
	sameGrams(t, what, sent, grams(here, there, impl.Seg{Seq: iss, Flags: syn, Win: x.Room, Mss: 100}))
	sameTable(t, what+" writes into it, which", arg, x)
	if !ok {
		t.Fatalf("%s is false", what)
	}
	rightIs(t, what, got, true)
	standsAt(t, what, got, here, there, len(x.Lines))
	return got
}

func asksNot(t *testing.T, what string, x impl.Table, here, there impl.Addr) {
	t.Helper()
	arg := amended(x)
	got, sent, ok := impl.TableAsk(arg, here, there, 5)
	what = fmt.Sprintf("%s: TableAsk(%s; %v, %v)", what, shownTable(x), here, there)
	sameTable(t, what, got, x)
	sameGrams(t, what, sent, nil)
	sameTable(t, what+" writes into it, which", arg, x)
	if ok {
		t.Fatalf("%s is true", what)
	}
}

func TestTableAskByHand(t *testing.T) {
	x := impl.Table{Port: 9, Room: 200, Now: 50}
	got, sent, ok := impl.TableAsk(x, addr(1, 1000), addr(2, 80), 5)
	want := impl.Conn{
		State: 1, Iss: 5, Una: 5, Nxt: 6, Max: 6, Out: impl.OutBuf{First: 6, Room: 200}, In: impl.InBuf{Room: 200},
		Cong: impl.Cong{Wnd: 200, Thresh: 8000}, Timing: true, TimeSeq: 5, TimeAt: 50, Again: 60,
	}
	if !ok || got.Port != 9 || got.Room != 200 || got.Now != 50 || len(got.Lines) != 1 || !equalLines(got.Lines[0], lineOf(addr(1, 1000), addr(2, 80), want)) {
		t.Errorf("asked: %s, %v", shownTable(got), ok)
	}
	bytes := "E\x00\x00\x2c\x00\x00\x40\x00\x40\x06\x7a\xc8\x00\x00\x00\x01\x00\x00\x00\x02" +
		"\x03\xe8\x00\x50\x00\x00\x00\x05\x00\x00\x00\x00\x60\x02\x00\xc8\x00\x00\x00\x00\x02\x04\x00\x64"
	bytes = withSum(bytes[:20] + withSegSum(1, 2, bytes[20:]))
	if len(sent) != 1 || sent[0] != bytes {
		t.Errorf("sent %q, not %q", sent, bytes)
	}
}

func TestTableAsk(t *testing.T) {
	for _, iss := range startWords {
		for _, room := range startRooms {
			for _, now := range startTicks {
				x := amended(tableWith(crowd()[:3]...), func(x *impl.Table) { x.Room, x.Now = room, now })
				asksFor(t, "ask", x, server, visitor, iss)
			}
		}
	}
	for _, port := range rightPorts {
		asksFor(t, "here's port", tableWith(), addr(3, port), visitor, 5)
		asksFor(t, "there's port", tableWith(), server, addr(3, port), 5)
	}
	asksFor(t, "of itself", tableWith(), server, server, 5)
	// One after the other, up to the last line that is free.
	x, lines := tableWith(), crowd()
	for k, l := range lines {
		x = asksFor(t, "one more", x, l.Here, l.There, uint32(k))
		for _, other := range lines[:k+1] {
			asksNot(t, "such a line", x, other.Here, other.There)
		}
	}
	asksNot(t, "a full table", x, server, visitor)
	for k, l := range lines {
		asksFor(t, "the last free line", tableWith(append(crowd()[:k], lines[k+1:]...)...), l.Here, l.There, 7)
		asksFor(t, "the last free line", tableWith(append(crowd()[:k], lines[k+1:]...)...), server, visitor, 7)
	}
}

// Each reason why nothing is asked, alone and with others.
func TestTableAsksNot(t *testing.T) {
	for what, x := range wrongTables() {
		asksNot(t, what, x, server, visitor)
		asksNot(t, what+", a port", x, addr(hostHere, 0), visitor)
	}
	full, few := fullTable(), tableWith(crowd()[:topLines-1]...)
	for _, port := range wrongPorts {
		for _, x := range []impl.Table{tableWith(), few, full} {
			asksNot(t, "here's port", x, addr(hostHere, port), visitor)
			asksNot(t, "there's port", x, server, addr(hostThere, port))
			asksNot(t, "both ports", x, addr(hostHere, port), addr(hostThere, port))
		}
	}
	for k, l := range few.Lines {
		asksNot(t, "such a line", few, l.Here, l.There)
		asksNot(t, "such a line of a full table", full, l.Here, l.There)
		alone := tableWith(few.Lines[k])
		asksNot(t, "the only line", alone, l.Here, l.There)
		if placeOfLine(few.Lines, l.There, l.Here) < 0 {
			asksFor(t, "turned around", few, l.There, l.Here, 5)
		}
		asksFor(t, "another port there", few, l.Here, addr(l.There.Host, 700), 5)
		asksFor(t, "another port here", few, addr(l.Here.Host, 700), l.There, 5)
		asksFor(t, "another host there", few, l.Here, addr(700, l.There.Port), 5)
		asksFor(t, "another host here", few, addr(700, l.Here.Port), l.There, 5)
	}
	asksNot(t, "a full table", full, server, visitor)
}

// staysSo asks that a datagram makes nothing of a table, and that nothing is sent for it.
func staysSo(t *testing.T, what string, x impl.Table, s string) {
	t.Helper()
	got, sent := comes(t, what, x, s, 70)
	sameTable(t, what, got, x)
	sameGrams(t, what, sent, nil)
}

// answersOnly asks that a table stays as it is, and answers just this.
func answersOnly(t *testing.T, what string, x impl.Table, here, there impl.Addr, g, want impl.Seg) {
	t.Helper()
	got, sent := comes(t, what, x, gram(there, here, g), 70)
	sameTable(t, what, got, x)
	sameGrams(t, what, sent, grams(here, there, want))
}

func TestTableCameToNoTable(t *testing.T) {
	for what, x := range wrongTables() {
		for _, l := range append(slices.Clone(x.Lines), lineOf(server, visitor, openEnd())) {
			for _, flags := range []int{syn, ack, 0, rst, syn + ack, fin + ack} {
				staysSo(t, what, x, gram(l.There, l.Here, segOf(flags, l.Conn.In.Next, l.Conn.Max, 7, "")))
			}
		}
		staysSo(t, what, x, "no datagram")
	}
}

func TestTableCameOfNoDatagram(t *testing.T) {
	asks := gram(visitor, server, impl.Seg{Seq: 1000, Flags: syn, Win: 300, Mss: 100})
	full := fullTable()
	more := gram(full.Lines[0].There, full.Lines[0].Here, segOf(ack, full.Lines[0].Conn.In.Next, full.Lines[0].Conn.Max, 7, "data"))
	for _, x := range []impl.Table{tableWith(), full, tableWith(crowd()[:5]...)} {
		for _, s := range []string{
			"", "x", "no datagram", bytesFrom(1, headLen), bytesFrom(2, 60), bytesFrom(3, topDatagram), bytesFrom(4, topDatagram+1), strings.Repeat("\x00", 44),
			asks[:len(asks)-1], asks + "x", asks[1:], asks[headLen:], asks + asks, asks[:headLen], more[:len(more)-1], more + "\x00", more[headLen:],
			impl.PutPacket(impl.Packet{Src: hostHere, Dst: hostThere, Ttl: 64, Proto: 17, Data: asks[headLen:]}), impl.PutPacket(impl.Packet{Src: hostHere, Dst: hostThere, Ttl: 64, Proto: 6, Data: "no segment"}),
		} {
			staysSo(t, "no datagram", x, s)
		}
		for _, s := range []string{asks, more} {
			for k := range len(s) / 2 {
				for _, turn := range edgeTurns {
					if spoilt := impl.Turned(s, k, turn); !isRead(spoilt) {
						staysSo(t, "a spoilt one", x, spoilt)
					} else if impl.TurnShows(s[:headLen], k, turn) {
						t.Errorf("half %d turned by %d is read", k, turn)
					}
				}
			}
		}
	}
	// Of a datagram neither the Id nor the Ttl matters.
	one, _ := comes(t, "plain", tableWith(), asks, 70)
	other, _ := comes(t, "another Id and Ttl", tableWith(), datagramBytes(visitor, server, 65535, 1, 6, impl.Seg{Seq: 1000, Flags: syn, Win: 300, Mss: 100}), 70)
	sameTable(t, "another Id and Ttl", other, one)
}

func isRead(s string) bool {
	_, _, _, ok := impl.GetDatagram(s)
	return ok
}

func lackingLine(lines []impl.Line, k int) []impl.Line {
	return append(slices.Clone(lines[:k]), lines[k+1:]...)
}

// onlyLine asks that no line of a table is another than it was, but for one (or for a new one behind the others, where there was none: below 0).
func onlyLine(t *testing.T, what string, was, x impl.Table, k int) {
	t.Helper()
	before, rest := was.Lines, x.Lines
	if k >= 0 {
		before = lackingLine(before, k)
	}
	if len(rest) > len(before) {
		if k < 0 {
			k = len(before)
		}
		rest = lackingLine(rest, k)
	}
	if !slices.EqualFunc(rest, before, equalLines) {
		t.Fatalf("%s: another line than %d is changed: %s\n was %s", what, k, shownTable(x), shownTable(was))
	}
	x.Lines, was.Lines = nil, nil
	sameTable(t, what+", but for the lines", x, was)
}

// Point 1, at every line of a full table, with segments of all kinds: the line that is meant changes, and no other.
func TestTableCameToALine(t *testing.T) {
	full, gone := fullTable(), 0
	for k, l := range full.Lines {
		for i, s := range segsFor(l.Conn) {
			s.Win = max(s.Win, 0)
			if s.Flags&syn != 0 {
				// What a segment tells of its Mss does not matter to a line.
				s.Mss = []int{0, 64, 100, 1460}[i%4]
			}
			got, sent := comes(t, "a line", full, gram(l.There, l.Here, s), 70)
			onlyLine(t, "a line", full, got, k)
			plain := s
			plain.Mss, plain.From, plain.To = 0, 9, -9
			c, came := impl.ConnCame(l.Conn, plain, nowTick)
			c, more := impl.ConnSend(c, nowTick)
			sameGrams(t, "a line", sent, grams(l.Here, l.There, append(came, more...)...))
			switch {
			case c.State == impl.ConnGone:
				gone++
				standsAt(t, "gone", got, l.Here, l.There, -1)
			case !equalConns(got.Lines[k].Conn, c):
				t.Fatalf("line %d is %s, not %s", k, shownConn(got.Lines[k].Conn), shownConn(c))
			}
			if impl.ConnOk(c) || c.State == impl.ConnGone {
				rightIs(t, "a line", got, true)
			}
		}
	}
	if gone < 100 {
		t.Errorf("%d lines went", gone)
	}
}

// Both what a segment makes an end send at once and what ConnSend sends go out, in this order.
func TestTableCameSendsBoth(t *testing.T) {
	asked := lineOf(visitor, server, startedBy(1000, 300, 95))
	waiting := with(openEnd(), func(c *impl.Conn) { c.Nxt, c.Max, c.Una, c.Out, c.Wnd = 1001, 1001, 1001, outAt(1001, "hello", 300), 0 })
	x := amended(tableWith(asked, lineOf(visitor, addr(9, 80), waiting)), func(x *impl.Table) { x.Now = 97 })
	got, sent := comes(t, "the answer", x, gram(server, visitor, impl.Seg{Seq: 5000, Ack: 1001, Flags: syn + ack, Win: 300, Mss: 100}), 70)
	sameGrams(t, "the answer", sent, grams(visitor, server, segOf(ack, 1001, 5001, 300, "")))
	if got.Lines[0].Conn.State != impl.ConnOpen {
		t.Errorf("not open: %s", shownTable(got))
	}
	_, sent = comes(t, "another one's answer", x, gram(server, visitor, segOf(syn+ack, 5000, 1002, 300, "")), 70)
	sameGrams(t, "another one's answer", sent, grams(visitor, server, segOf(rst, 1002, 0, 0, "")))
	_, sent = comes(t, "who asks at once", x, gram(server, visitor, impl.Seg{Seq: 5000, Flags: syn, Win: 300}), 70)
	sameGrams(t, "who asks at once", sent, grams(visitor, server, impl.Seg{Seq: 1000, Ack: 5001, Flags: syn + ack, Win: 300, Mss: 100}))
	_, sent = comes(t, "a window", x, gram(addr(9, 80), visitor, segOf(ack, 5001, 1001, 3, "and bytes")), 70)
	sameGrams(t, "a window", sent, grams(visitor, addr(9, 80), segOf(ack, 1001, 5010, 291, "hel")))
	opened := amended(x, func(x *impl.Table) { x.Lines[0].Conn, _ = impl.ConnWrite(x.Lines[0].Conn, bytesFrom(1, 150)) })
	_, sent = comes(t, "the answer, with bytes to send", opened, gram(server, visitor, segOf(syn+ack, 5000, 1001, 300, "")), 70)
	sameGrams(t, "the answer, with bytes to send", sent, grams(visitor, server, segOf(ack, 1001, 5001, 300, bytesFrom(1, 150)[:100]), segOf(ack+push, 1101, 5001, 300, bytesFrom(1, 150)[100:])))
}

// One address that is the same, or both the other way round, are no line.
func TestTableCameToItsNeighbours(t *testing.T) {
	l := lineOf(server, visitor, openEnd())
	bytes := segOf(ack, 5001, 1201, 44, "bytes")
	for _, row := range []struct {
		here, there impl.Addr
	}{
		{server, addr(hostHere, 4001)}, {server, addr(hostHere+1, 4000)}, {addr(hostThere, 81), visitor}, {addr(hostThere+1, 80), visitor}, {visitor, server}, {server, server}, {visitor, visitor},
		{addr(hostThere, 4000), addr(hostHere, 80)}, {addr(hostHere, 80), addr(hostThere, 4000)}, {server, addr(hostHere^halfWay, 4000)}, {server, addr(hostHere, 4000+32768)},
	} {
		other := lineOf(row.here, row.there, with(openEnd(), func(c *impl.Conn) { c.Wnd = 77 }))
		for k, x := range []impl.Table{tableWith(l, other), tableWith(other, l)} {
			got, _ := comes(t, "the line", x, gram(visitor, server, bytes), 70)
			onlyLine(t, "the line", x, got, k)
			got, _ = comes(t, "its neighbour", x, gram(row.there, row.here, bytes), 70)
			onlyLine(t, "its neighbour", x, got, 1-k)
			if got.Lines[1-k].Conn.In.Ready != "bytes" || got.Lines[k].Conn.In.Ready != "" {
				t.Errorf("bytes came to the other one: %s", shownTable(got))
			}
		}
		answersOnly(t, "only the line", tableWith(l), row.here, row.there, bytes, segOf(rst, 1201, 0, 0, ""))
		answersOnly(t, "only its neighbour", tableWith(other), server, visitor, bytes, segOf(rst, 1201, 0, 0, ""))
	}
}

// A line that is gone goes, wherever it stands, and those behind it move up.
func TestLinesGo(t *testing.T) {
	lines := []impl.Line{}
	for k := range topLines {
		lines = append(lines, lineOf(server, addr(hostHere, 6000+k), with(openEnd(), func(c *impl.Conn) { c.Wnd = 300 + k })))
	}
	for k, l := range lines {
		for _, many := range []int{k + 1, topLines - 1, topLines} {
			if k >= many {
				continue
			}
			x := tableWith(lines[:many]...)
			got, sent := comes(t, "a reset", x, gram(l.There, server, segOf(rst, 5001, 0, 0, "")), 70)
			sameTable(t, "a reset", got, tableWith(lackingLine(lines[:many], k)...))
			sameGrams(t, "a reset", sent, nil)
			got, _ = comes(t, "a reset that is only near", x, gram(l.There, server, segOf(rst, 5002, 0, 0, "")), 70)
			if len(got.Lines) != many {
				t.Errorf("line %d of %d went", k, many)
			}
			last := amended(x, func(x *impl.Table) { x.Lines[k].Conn = endIn(impl.ConnLast) })
			got, sent = comes(t, "the last confirmation", last, gram(l.There, server, segOf(ack, 5002, 1252, 400, "")), 70)
			sameTable(t, "the last confirmation", got, tableWith(lackingLine(lines[:many], k)...))
			sameGrams(t, "the last confirmation", sent, nil)
			asked := amended(x, func(x *impl.Table) { x.Lines[k].Conn = askedEnd() })
			got, sent = comes(t, "refused", asked, gram(l.There, server, segOf(rst+ack, 0, 1001, 0, "")), 70)
			sameTable(t, "refused", got, tableWith(lackingLine(lines[:many], k)...))
			sameGrams(t, "refused", sent, nil)
			// Now it is a stranger's, and asking again it gets a line behind the others.
			answersOnly(t, "gone", got, server, l.There, segOf(ack, 5001, 1201, 44, ""), segOf(rst, 1201, 0, 0, ""))
			got, _ = comes(t, "once more", got, gram(l.There, server, segOf(syn, 50, 0, 300, "")), 70)
			standsAt(t, "once more", got, server, l.There, many-1)
		}
	}
}

// Point 2, where there is room.
func TestTableIsAsked(t *testing.T) {
	got, sent := comes(t, "by hand", tableWith(), gram(visitor, server, impl.Seg{Seq: 1000, Flags: 2, Win: 44, Mss: 100}), 70)
	want := impl.Conn{
		State: 2, Iss: 70, Una: 70, Nxt: 71, Max: 71, Wnd: 44, WndSeq: 1000, Out: impl.OutBuf{First: 71, Room: 300}, In: impl.InBuf{Next: 1001, Room: 300},
		Cong: impl.Cong{Wnd: 200, Thresh: 8000}, Timing: true, TimeSeq: 70, TimeAt: 100, Again: 110,
	}
	sameTable(t, "by hand", got, tableWith(lineOf(server, visitor, want)))
	sameGrams(t, "by hand", sent, grams(server, visitor, impl.Seg{Seq: 70, Ack: 1001, Flags: 18, Win: 300, Mss: 100}))
	for _, iss := range startWords {
		for _, room := range startRooms {
			for _, now := range startTicks {
				for _, win := range []int{0, 1, 300, topWin} {
					for many := range topLines {
						asks := impl.Seg{Seq: 77 - iss, Ack: iss, Flags: syn, Win: win, Mss: []int{0, 64, 1460}[many%3]}
						x := amended(tableWith(crowd()[:many]...), func(x *impl.Table) { x.Room, x.Now, x.Port = room, now, 80 })
						got, sent := comes(t, "asked", x, gram(visitor, server, asks), iss)
						c := heardBy(asks, iss, room, now)
						sameTable(t, "asked", got, amended(x, func(x *impl.Table) { x.Lines = append(x.Lines, lineOf(server, visitor, c)) }))
						sameGrams(t, "asked", sent, grams(server, visitor, impl.Seg{Seq: iss, Ack: 78 - iss, Flags: syn + ack, Win: room, Mss: 100}))
					}
				}
			}
		}
	}
}

// Any host may be asked at the port, and at no other port.
func TestWhereATableIsAsked(t *testing.T) {
	asks := impl.Seg{Seq: 1000, Flags: syn, Win: 300, Mss: 100}
	for _, port := range append(rightPorts, 79, 81, 4000) {
		for _, asked := range append(rightPorts, 79, 81, 4000) {
			for _, host := range []uint32{0, 1, hostHere, hostThere, round - 1} {
				for _, x := range []impl.Table{tableWith(), fullTable()} {
					x.Port = port
					here := addr(host, asked)
					if asked != port {
						answersOnly(t, "another port", x, here, visitor, asks, impl.Seg{Ack: 1001, Flags: rst + ack})
						continue
					}
					got, sent := comes(t, "the port", x, gram(visitor, here, asks), 70)
					if _, _, g, ok := impl.GetDatagram(sent[0]); !ok || g.Flags != syn+ack || g.Ack != 1001 || len(sent) != 1 || len(got.Lines) != min(len(x.Lines)+1, topLines) {
						t.Errorf("port %d: %s; %s", port, shownTable(got), shownGrams(sent))
					}
				}
			}
		}
	}
	// A line of another port than the table's is none the less a line.
	x := tableWith(lineOf(addr(hostThere, 81), visitor, openEnd()))
	got, _ := comes(t, "a line of another port", x, gram(visitor, addr(hostThere, 81), segOf(ack, 5001, 1201, 44, "bytes")), 70)
	if got.Lines[0].Conn.In.Ready != "bytes" {
		t.Errorf("no bytes: %s", shownTable(got))
	}
}

// What has anything beside the SYN does not ask; it is a stranger's.
func TestTableIsNotAsked(t *testing.T) {
	few, full := tableWith(crowd()[:topLines-1]...), fullTable()
	for _, x := range []impl.Table{tableWith(), few, full} {
		for flags := range 32 {
			for _, data := range []string{"", "x", bytesFrom(1, 100), bytesFrom(2, topSeg)} {
				g := segOf(flags, 1000, 5000, 300, data)
				span := uint32(len(data) + flags/2%2 + flags%2)
				switch {
				case flags == syn && data == "":
				case flags&rst != 0:
					staysSo(t, "a reset", x, gram(visitor, server, g))
				case flags&ack != 0:
					answersOnly(t, "with an Ack", x, server, visitor, g, segOf(rst, 5000, 0, 0, ""))
				default:
					answersOnly(t, "without an Ack", x, server, visitor, g, segOf(rst+ack, 0, 1000+span, 0, ""))
				}
			}
		}
	}
}

// Point 4: what a stranger says is answered by a reset that fits it.
func TestStrangersAreReset(t *testing.T) {
	x := amended(fullTable(), func(x *impl.Table) { x.Lines = x.Lines[:7] })
	for _, here := range []impl.Addr{server, addr(hostThere, 79), visitor, addr(0, topHalf)} {
		for _, there := range []impl.Addr{visitor, addr(hostHere, 1), addr(round-1, topHalf)} {
			for _, seq := range edgeWords {
				for _, flags := range []int{0, fin, push, syn + fin, fin + push, syn + push, syn + fin + push} {
					for _, data := range []string{"", "x", bytesFrom(1, topSeg)} {
						span := len(data) + flags/2%2 + flags%2
						want := impl.Seg{Ack: uint32((int(seq) + span) % round), Flags: rst + ack}
						answersOnly(t, "without an Ack", x, here, there, segOf(flags, seq, 99, 300, data), want)
					}
				}
				for _, flags := range []int{ack, ack + fin, ack + syn, ack + push, ack + syn + fin + push} {
					for _, data := range []string{"", "some bytes"} {
						answersOnly(t, "with an Ack", x, here, there, segOf(flags, 77, seq, 300, data), impl.Seg{Seq: seq, Flags: rst})
					}
				}
				for flags := range 32 {
					staysSo(t, "a reset", x, gram(there, here, segOf(flags|rst, seq, seq, 300, "some bytes")))
				}
			}
		}
	}
}

// hasRoom is a full table of which so many lines are gone again.
func hasRoom(many int) impl.Table { return tableWith(crowd()[many:]...) }

// cookieOfAll are the places at which full tables answer the visitor, by hand: its Mss, and the cookie in epoch 9.
var cookieOfAll = map[int]uint32{0: 1208591838, 64: 1208591838, 100: 1208591838, 128: 1228864256, 536: 1277847903, 1459: 1320943327, 1460: 1341306047}

// Point 2, where there is no room: nothing is kept, and the answer knows of it.
func TestAFullTableAnswers(t *testing.T) {
	full := fullTable()
	for mss, cookie := range cookieOfAll {
		for _, seq := range edgeWords {
			for _, win := range []int{0, 1, 300, topWin} {
				want := impl.Seg{Seq: cookie, Ack: seq + 1, Flags: syn + ack, Win: 65535, Mss: 100}
				answersOnly(t, "a full table", full, server, visitor, impl.Seg{Seq: seq, Flags: syn, Win: win, Mss: mss}, want)
			}
		}
	}
	for _, x := range someAskers() {
		if !isAPort(x.a.Port) || !isAPort(x.b.Port) || placeOfLine(full.Lines, x.b, x.a) >= 0 {
			continue
		}
		for _, epoch := range goodEpochs {
			for k, mss := range stepSizes {
				there := amended(full, func(y *impl.Table) { y.Secret, y.Epoch, y.Port = x.secret, epoch, x.b.Port })
				want := impl.Seg{Seq: x.cookieBy(epoch, k), Ack: 1001, Flags: syn + ack, Win: 65535, Mss: 100}
				answersOnly(t, "a full table", there, x.b, x.a, impl.Seg{Seq: 1000, Flags: syn, Win: 300, Mss: mss}, want)
			}
		}
	}
	// With one line less it is kept.
	got, _ := comes(t, "the last free line", hasRoom(1), gram(visitor, server, impl.Seg{Seq: 1000, Flags: syn, Win: 300}), 70)
	if len(got.Lines) != topLines || !equalConns(got.Lines[11].Conn, heardBy(segOf(syn, 1000, 0, 300, ""), 70, ownRoom, nowTick)) {
		t.Errorf("not kept: %s", shownTable(got))
	}
	rightIs(t, "the last free line", got, true)
}

// comesBack asks that who was answered by a cookie has a line, the last one, and that it took what came.
func comesBack(t *testing.T, what string, x impl.Table, here, there impl.Addr, g impl.Seg) impl.Table {
	t.Helper()
	got, sent := comes(t, what, x, gram(there, here, g), 70)
	c := takeBy(g, x.Room, x.Now)
	c, came := impl.ConnCame(c, g, x.Now)
	c, more := impl.ConnSend(c, x.Now)
	sameTable(t, what, got, amended(x, func(x *impl.Table) { x.Lines = append(x.Lines, lineOf(here, there, c)) }))
	sameGrams(t, what, sent, grams(here, there, append(came, more...)...))
	rightIs(t, what, got, true)
	return got
}

// isStranger asks that nothing is known of one who comes with an Ack.
func isStranger(t *testing.T, what string, x impl.Table, here, there impl.Addr, g impl.Seg) {
	t.Helper()
	answersOnly(t, what, x, here, there, g, impl.Seg{Seq: g.Ack, Flags: rst})
}

// Point 3, from the asking of a full table on.
func TestWhoComesBackToATable(t *testing.T) {
	full := fullTable()
	asks := impl.Seg{Seq: 1000, Flags: syn, Win: 300, Mss: 536}
	_, sent := comes(t, "asked", full, gram(visitor, server, asks), 70)
	_, _, answer, _ := impl.GetDatagram(sent[0])
	g := segOf(ack, 1001, answer.Seq+1, 44, "")
	if answer.Seq != 1277847903 || answer.Ack != 1001 {
		t.Fatalf("answered by %s", shownSeg(answer))
	}
	later := func(epochs, free int) impl.Table {
		return amended(hasRoom(free), func(x *impl.Table) { x.Epoch += epochs })
	}
	for free := 1; free <= topLines; free++ {
		for _, epochs := range []int{0, 1} {
			x := later(epochs, free)
			comesBack(t, "in its epoch or the next", x, server, visitor, g)
			for _, flags := range []int{ack, ack + push, ack + fin, ack + fin + push} {
				comesBack(t, "with bytes", x, server, visitor, segOf(flags, 1001, g.Ack, 44, "some bytes"))
				comesBack(t, "without", x, server, visitor, segOf(flags, 1001, g.Ack, 0, ""))
			}
			for _, off := range []uint32{1, 2, round - 1, round - 2, halfWay} {
				isStranger(t, "a number that is off", x, server, visitor, segOf(ack, 1001, g.Ack+off, 44, "bytes"))
			}
			for bit := range 32 {
				isStranger(t, "a bit that is off", x, server, visitor, segOf(ack, 1001, (answer.Seq^1<<bit)+1, 44, ""))
			}
			for what, other := range othersThan(client) {
				if other.b.Port == server.Port {
					isStranger(t, what, amended(x, func(x *impl.Table) { x.Secret = other.secret }), other.b, other.a, g)
				}
			}
			for flags := range 32 {
				off := segOf(flags, 1001, g.Ack, 44, "bytes")
				switch {
				case flags&rst != 0:
					staysSo(t, "a reset", x, gram(visitor, server, off))
				case flags&ack == 0 && flags&syn == 0:
					answersOnly(t, "without an Ack", x, server, visitor, off, impl.Seg{Ack: 1006 + uint32(flags&fin), Flags: rst + ack})
				case flags&ack != 0 && flags&syn != 0:
					isStranger(t, "with a SYN", x, server, visitor, off)
				}
			}
			at81 := amended(x, func(x *impl.Table) { x.Port = 81 })
			isStranger(t, "another port is asked", at81, server, visitor, g)
		}
		for _, epochs := range []int{-9, -2, -1, 2, 3, 31, 32, 33, 64} {
			isStranger(t, "in another epoch", later(epochs, free), server, visitor, g)
		}
	}
	for _, epochs := range []int{0, 1, 2} {
		isStranger(t, "while it is still full", later(epochs, 0), server, visitor, g)
	}
}

// Who has a line is on it, whatever its number would be a cookie for.
func TestWhoHasALineComesToIt(t *testing.T) {
	cookie := client.cookieBy(9, 0)
	g := segOf(ack, 5001, cookie+1, 44, "bytes")
	for _, c := range []impl.Conn{openEnd(), heardEnd(), endIn(impl.ConnFin1)} {
		x := tableWith(lineOf(server, visitor, c))
		got, _ := comes(t, "on its line", x, gram(visitor, server, g), 70)
		if len(got.Lines) != 1 || got.Lines[0].Conn.Iss != c.Iss {
			t.Errorf("another line: %s", shownTable(got))
		}
		got, _ = comes(t, "asks once more", x, gram(visitor, server, segOf(syn, 5001, 0, 300, "")), 70)
		if len(got.Lines) != 1 || got.Lines[0].Conn.Iss != c.Iss {
			t.Errorf("another line: %s", shownTable(got))
		}
	}
	// Come back twice, it is on the line that it has by then.
	x := comesBack(t, "once", tableWith(), server, visitor, segOf(ack, 1001, cookie+1, 44, "some "))
	x, _ = comes(t, "twice", x, gram(visitor, server, segOf(ack, 1006, cookie+1, 44, "bytes")), 70)
	x, _ = comes(t, "the first once more", x, gram(visitor, server, segOf(ack, 1001, cookie+1, 44, "some ")), 70)
	if len(x.Lines) != 1 || x.Lines[0].Conn.In.Ready != "some bytes" {
		t.Errorf("not one line: %s", shownTable(x))
	}
}

// dueLine is a line on which something is due at a tick: bytes that go out again.
func dueLine(k, at int) impl.Line {
	return lineOf(server, addr(hostHere, 6000+k), with(openEnd(), func(c *impl.Conn) { c.Again, c.Tries, c.Iss, c.Nxt, c.Max = at, 0, uint32(k), 1251, 1251 }))
}

func TestTableTickByHand(t *testing.T) {
	x := tableWith(lineOf(server, visitor, endIn(impl.ConnRest)), dueLine(1, 105), lineOf(visitor, server, startedBy(7, 300, 95)))
	got, sent := passes(t, "nothing is due", x, 4)
	if got.Now != 104 || len(got.Lines) != 3 || len(sent) != 0 || !slices.EqualFunc(got.Lines, x.Lines, equalLines) {
		t.Errorf("104: %s; %s", shownTable(got), shownGrams(sent))
	}
	got, sent = passes(t, "two are due", x, 5)
	want := append(grams(server, addr(hostHere, 6001), segOf(ack, 1001, 5001, 300, bytesFrom(1, 250)[:100])), gram(visitor, server, impl.Seg{Seq: 7, Flags: syn, Win: 300, Mss: 100}))
	sameGrams(t, "two are due", sent, want)
	if got.Now != 105 || len(got.Lines) != 3 || got.Lines[1].Conn.Tries != 1 || got.Lines[2].Conn.Tries != 1 {
		t.Errorf("105: %s", shownTable(got))
	}
	got, sent = passes(t, "one goes", x, 30)
	if got.Now != 130 || len(got.Lines) != 2 || len(sent) != 2 {
		t.Errorf("130: %s; %s", shownTable(got), shownGrams(sent))
	}
	standsAt(t, "one goes", got, server, visitor, -1)
	standsAt(t, "one goes", got, visitor, server, 1)
}

func TestTableTickAtItsLimits(t *testing.T) {
	full := fullTable()
	for _, x := range []impl.Table{tableWith(), full} {
		for _, now := range startTicks {
			at := amended(x, func(x *impl.Table) { x.Now = now })
			for _, n := range []int{0, 1, 2, 5, 500, topTableStep - 1, topTableStep} {
				got, _ := passes(t, "ticks", at, n)
				if got.Now != min(now+n, topTick) {
					t.Errorf("%d ticks behind %d: %d", n, now, got.Now)
				}
				rightIs(t, "ticks", got, true)
			}
			for _, n := range badStrides {
				got, sent := passes(t, "no ticks", at, n)
				sameTable(t, "no ticks", got, at)
				sameGrams(t, "no ticks", sent, nil)
			}
		}
	}
	for what, x := range wrongTables() {
		for _, n := range []int{0, 1, 30, topTableStep} {
			got, sent := passes(t, what, x, n)
			sameTable(t, what, got, x)
			sameGrams(t, what, sent, nil)
		}
	}
	// At the last tick of all time stands still, and what is due by then is done all the same.
	last := amended(tableWith(dueLine(0, topTick)), func(x *impl.Table) { x.Now = topTick - 3 })
	for n, want := range map[int]int{0: 0, 2: 0, 3: 1, 4: 1, topTableStep: 1} {
		if got, sent := passes(t, "the last tick", last, n); len(sent) != want || got.Now != min(topTick-3+n, topTick) {
			t.Errorf("%d ticks: %s; %s", n, shownTable(got), shownGrams(sent))
		}
	}
}

// No ticks at all still let every line send what it may.
func TestTableTickSendsWhatMayGo(t *testing.T) {
	lines := []impl.Line{}
	for k := range topLines {
		c := with(openEnd(), owes, func(c *impl.Conn) { c.Nxt, c.Again, c.In.Next = 1251, 0, uint32(5000+k) })
		c.Max = c.Nxt
		lines = append(lines, lineOf(server, addr(hostHere, 6000+k), c))
	}
	got, sent := passes(t, "what is owed", tableWith(lines...), 0)
	want := []string{}
	for k, l := range lines {
		want = append(want, gram(server, l.There, segOf(ack, 1251, uint32(5000+k), 300, "")))
	}
	sameGrams(t, "what is owed", sent, want)
	if got.Now != nowTick {
		t.Errorf("now %d", got.Now)
	}
}

// All lines send in their order, each all of its own ahead of the next one's; and each alone does what it does among others.
func TestTableTickInOrder(t *testing.T) {
	for _, n := range []int{0, 1, 5, 40, 73, 400, topTableStep} {
		lines, want, left := []impl.Line{}, []string{}, []impl.Line{}
		for k := range topLines {
			l := dueLine(k, 100+k%3*40)
			if k%4 == 3 {
				l.Conn = with(endIn(impl.ConnRest), func(c *impl.Conn) { c.Rest, c.Owe = 100+k*10, true })
			}
			if k%5 == 2 {
				l.Conn.Tries = topTries
			}
			lines = append(lines, l)
			one, sent := passes(t, "alone", tableWith(l), n)
			want, left = append(want, sent...), append(left, one.Lines...)
		}
		got, sent := passes(t, "in order", tableWith(lines...), n)
		sameGrams(t, "in order", sent, want)
		sameTable(t, "in order", got, amended(tableWith(left...), func(x *impl.Table) { x.Now += n }))
	}
}

// Lines that are gone go, at the beginning, in the middle and at the end, and all at once.
func TestLinesGoByTicks(t *testing.T) {
	for set := range 1 << topLines {
		if set%37 != 0 && set%1024 > 2 {
			continue
		}
		lines, left := []impl.Line{}, []impl.Line{}
		for k := range topLines {
			l := lineOf(server, addr(hostHere, 6000+k), endIn(impl.ConnFin2))
			if set>>k%2 == 1 {
				l.Conn = with(endIn(impl.ConnRest), func(c *impl.Conn) { c.Rest = 101 })
			} else {
				left = append(left, l)
			}
			lines = append(lines, l)
		}
		got, sent := passes(t, "go", tableWith(lines...), 1)
		sameTable(t, "go", got, amended(tableWith(left...), func(x *impl.Table) { x.Now++ }))
		sameGrams(t, "go", sent, nil)
		for k, l := range left {
			standsAt(t, "go", got, l.Here, l.There, k)
		}
	}
	tired := lineOf(server, visitor, with(openEnd(), func(c *impl.Conn) { c.Again, c.Tries = 101, topTries }))
	got, sent := passes(t, "tired", tableWith(tired), 1)
	sameTable(t, "tired", got, amended(tableWith(), func(x *impl.Table) { x.Now++ }))
	sameGrams(t, "tired", sent, nil)
}

func TestActsOnLinesByHand(t *testing.T) {
	ready := with(openEnd(), func(c *impl.Conn) {
		c.Nxt, c.Max, c.Una, c.Out, c.In.Ready, c.Timing = 1001, 1001, 1001, outAt(1001, "", 9), "read me", false
	})
	x := tableWith(lineOf(server, addr(1, 1), openEnd()), lineOf(server, visitor, ready), lineOf(server, addr(2, 2), openEnd()))
	a := writesOn(t, x, 1, "more than 9 bytes")
	sameGrams(t, "written", a.sent, grams(server, visitor, segOf(ack+push, 1001, 5001, 293, "more than")))
	if a.n != 9 {
		t.Errorf("%d bytes taken", a.n)
	}
	onlyLine(t, "written", x, a.x, 1)
	a = readsOn(t, x, 1, 4)
	sameGrams(t, "read", a.sent, nil)
	if a.text != "read" || a.x.Lines[1].Conn.In.Ready != " me" {
		t.Errorf("read %q", a.text)
	}
	onlyLine(t, "read", x, a.x, 1)
	full := amended(x, func(x *impl.Table) { x.Lines[1].Conn.In.Ready = bytesFrom(1, 300) })
	a = readsOn(t, full, 1, 200)
	sameGrams(t, "read of a full one", a.sent, grams(server, visitor, segOf(ack, 1001, 5001, 200, "")))
	a = closesOn(t, x, 1)
	sameGrams(t, "closed", a.sent, grams(server, visitor, segOf(ack+fin, 1001, 5001, 293, "")))
	if a.x.Lines[1].Conn.State != impl.ConnFin1 {
		t.Errorf("closed: %s", shownTable(a.x))
	}
	onlyLine(t, "closed", x, a.x, 1)
	a = writesOn(t, a.x, 1, "too late")
	if a.n != 0 || len(a.sent) != 0 {
		t.Errorf("written too late: %d; %s", a.n, shownGrams(a.sent))
	}
}

// Every line of a full table, at texts and numbers that tell something.
func TestActsOnEveryLine(t *testing.T) {
	full := fullTable()
	for i := range full.Lines {
		full.Lines[i].Conn.In.Ready = bytesFrom(i, []int{0, 5, 250, 300}[i%4])
		full.Lines[i].Conn.Owe = i%3 == 0
	}
	for k, l := range full.Lines {
		for _, x := range []impl.Table{full, tableWith(full.Lines[:k+1]...)} {
			acts := []onTable{closesOn(t, x, k)}
			for _, text := range []string{"", "x", "hello", bytesFrom(1, 49), bytesFrom(2, 50), bytesFrom(3, 51), bytesFrom(4, 300), bytesFrom(5, 9000)} {
				acts = append(acts, writesOn(t, x, k, text))
			}
			for _, n := range append([]int{0, 1, 4, 5, 6, 300, topBuf - 1, topBuf}, badAmounts...) {
				acts = append(acts, readsOn(t, x, k, n))
			}
			for _, a := range acts {
				onlyLine(t, "an act", x, a.x, k)
				rightIs(t, "an act", a.x, true)
				standsAt(t, "an act", a.x, l.Here, l.There, k)
			}
		}
	}
}

// doesNothing asks that no act does anything on a line that is none.
func doesNothing(t *testing.T, what string, x impl.Table, k int) {
	t.Helper()
	for _, a := range []onTable{writesOn(t, x, k, ""), writesOn(t, x, k, "hello"), readsOn(t, x, k, 0), readsOn(t, x, k, 5), readsOn(t, x, k, -1), closesOn(t, x, k)} {
		sameTable(t, what, a.x, x)
		sameGrams(t, what, a.sent, nil)
		if a.n != 0 || a.text != "" {
			t.Errorf("%s: line %d: %d, %q", what, k, a.n, a.text)
		}
	}
}

func TestActsOnNoLine(t *testing.T) {
	for many := range topLines + 1 {
		x := amended(tableWith(crowd()[:many]...), func(x *impl.Table) {
			for k := range x.Lines {
				x.Lines[k].Conn.Owe, x.Lines[k].Conn.In.Ready = true, "read me"
			}
		})
		doesNothing(t, "the place behind the last", x, many)
		for _, k := range noPlaces {
			if k < 0 || k >= many {
				doesNothing(t, "no place", x, k)
			}
		}
	}
	for what, x := range wrongTables() {
		for k := range topLines + 2 {
			doesNothing(t, what, x, k)
		}
	}
}

// life is what became of a line from one host of a town to another: of the side that asked (0) and of the one that was asked (1).
type life struct {
	iss   uint32
	peer  uint32
	wrote [2]string
	got   [2]string
	// The asked side may have had ends after each other; only the first one writes. Who came back with a cookie may begin farther on.
	ends int
	skip int
}

// town is a host that many ask and a few others, with ways between them that lose, double, turn around and spoil.
type town struct {
	t      *testing.T
	tables []impl.Table
	hosts  []uint32
	way    []string
	lives  map[[2]impl.Addr]*life
	seen   map[string]int
}

const (
	townPort  = 80
	townHosts = 5
	townWay   = 90
)

func newTown(t *testing.T, seed int) *town {
	w := &town{t: t, lives: map[[2]impl.Addr]*life{}, seen: map[string]int{}}
	for i := range townHosts {
		room := []int{300, 1000, 150, topBuf, 60}[(seed+i)%5]
		w.tables = append(w.tables, impl.Table{Port: townPort, Room: room, Secret: uint32(seed * 77), Epoch: 30 + i, Now: 100 * seed})
		w.hosts = append(w.hosts, hostHere+uint32(i))
	}
	return w
}

func (w *town) lifeOf(here, there impl.Addr) (*life, int) {
	if l := w.lives[[2]impl.Addr{here, there}]; l != nil {
		return l, 0
	}
	return w.lives[[2]impl.Addr{there, here}], 1
}

// becomes takes what a step made of a host: only this line may be another than it was, and what is sent goes out.
func (w *town) becomes(what string, i, k int, x impl.Table, sent []string) {
	w.t.Helper()
	onlyLine(w.t, what, w.tables[i], x, k)
	w.sends(what, i, x, sent)
}

func (w *town) sends(what string, i int, x impl.Table, sent []string) {
	w.t.Helper()
	w.tables[i] = x
	if !tableRightBy(x) || !impl.TableOk(x) {
		w.t.Fatalf("%s: not right: %s", what, shownTable(x))
	}
	w.way = append(w.way, sent...)
	for len(w.way) > townWay {
		w.way = w.way[1:]
	}
}

func (w *town) asks(i, j, port int, iss uint32) {
	w.t.Helper()
	here, there := addr(w.hosts[i], port), addr(w.hosts[j], townPort)
	if i == j || len(w.tables[i].Lines) >= topLines || w.lives[[2]impl.Addr{here, there}] != nil {
		return
	}
	x := asksFor(w.t, "asks", w.tables[i], here, there, iss)
	_, sent, _ := impl.TableAsk(w.tables[i], here, there, iss)
	w.lives[[2]impl.Addr{here, there}] = &life{iss: iss}
	w.becomes("asks", i, -1, x, sent)
	w.seen["asked"]++
}

// gives lets the datagram at a place of the way come to where it goes; what goes elsewhere is lost.
func (w *town) gives(place int, iss uint32) {
	w.t.Helper()
	s := w.way[place]
	w.way = slices.Delete(slices.Clone(w.way), place, place+1)
	there, here, g, ok := impl.GetDatagram(s)
	i := slices.Index(w.hosts, here.Host)
	if !ok || i < 0 {
		if i = place % townHosts; ok {
			return
		}
	}
	was := w.tables[i]
	k := placeOfLine(was.Lines, here, there)
	x, sent := comes(w.t, "comes", was, s, iss)
	for _, one := range sent {
		if src, dst, _, ok := impl.GetDatagram(one); !ok || src != here || dst != there {
			w.t.Fatalf("from %v to %v goes %s", here, there, shownGrams(sent))
		}
	}
	w.marks(was, x, k, here, there, g, sent)
	w.becomes("comes", i, k, x, sent)
}

// marks keeps in mind what came of a datagram.
func (w *town) marks(was, x impl.Table, k int, here, there impl.Addr, g impl.Seg, sent []string) {
	l, side := w.lifeOf(here, there)
	switch {
	case k < 0 && len(x.Lines) > len(was.Lines):
		w.seen["heard"]++
		next := g.Seq
		if g.Flags&syn != 0 {
			next++
		} else {
			w.seen["came back"]++
		}
		if l != nil {
			l.ends, l.skip, l.got[1] = l.ends+1, forward(l.iss+1, next), ""
		}
	case k < 0 && g.Flags == syn && len(sent) > 0 && len(was.Lines) == topLines:
		w.seen["answered by a cookie"]++
	case k < 0 && len(sent) > 0:
		w.seen["a stranger is reset"]++
	case k >= 0 && len(x.Lines) < len(was.Lines):
		w.seen["a line went"]++
	case k >= 0 && l != nil && side == 0 && was.Lines[k].Conn.State == impl.ConnAsked && stands(x.Lines[k].Conn):
		l.peer = g.Seq
		w.seen["opened"]++
	}
}

func (w *town) writes(i, k int, text string) {
	w.t.Helper()
	here := w.tables[i].Lines[k]
	l, side := w.lifeOf(here.Here, here.There)
	if l == nil || side == 1 && l.ends > 1 {
		return
	}
	a := writesOn(w.t, w.tables[i], k, text)
	l.wrote[side] += text[:a.n]
	w.seen["bytes"] += a.n
	w.becomes("writes", i, k, a.x, a.sent)
}

// reads asks that what is read on a line is what the other side of that very line wrote.
func (w *town) reads(i, k, n int) {
	w.t.Helper()
	a := readsOn(w.t, w.tables[i], k, n)
	here := w.tables[i].Lines[k]
	if l, side := w.lifeOf(here.Here, here.There); l != nil {
		l.got[side] += a.text
		other := l.wrote[1-side]
		if side == 1 {
			other = other[min(l.skip, len(other)):]
		}
		if !isBeginning(l.got[side]+a.x.Lines[k].Conn.In.Ready, other) {
			w.t.Fatalf("%v reads of %v %s, which is not what was written: %s", here.Here, here.There, short(a.text), short(other))
		}
		w.seen["bytes read"] += len(a.text)
	}
	w.becomes("reads", i, k, a.x, a.sent)
}

func (w *town) closes(i, k int) {
	w.t.Helper()
	a := closesOn(w.t, w.tables[i], k)
	w.becomes("closes", i, k, a.x, a.sent)
}

func (w *town) ticks(n int) {
	w.t.Helper()
	for i := range w.tables {
		x, sent := passes(w.t, "ticks", w.tables[i], n)
		w.seen["a line went in time"] += len(w.tables[i].Lines) - len(x.Lines)
		w.sends("ticks", i, x, sent)
	}
}

// step is one of all that may happen, drawn by these words; bad says how often something befalls a datagram.
func (w *town) step(bad int, r []uint32) {
	w.t.Helper()
	i, n := int(r[1]>>8)%townHosts, int(r[2]>>8)
	if r[1]%2 == 0 {
		i = 0
	}
	many := len(w.tables[i].Lines)
	place := func() int { return int(r[3]>>8) % len(w.way) }
	switch roll := int(r[0]>>8) % 100; {
	case roll < 8:
		w.asks([]int{1 + n%4, 1 + n%4, 1 + n%4, n % townHosts}[r[2]%4], []int{0, 0, 0, n / 8 % townHosts}[r[2]%4], 4000+n%3000, r[3]|[]uint32{0, round - 256}[r[2]>>2%2])
	case roll < 20 && many > 0:
		k := n % many
		w.writes(i, k, bytesFrom(n%97+k, int(r[3]>>8)%200))
	case roll < 30 && many > 0:
		w.reads(i, n%many, int(r[3]>>8)%400)
	case roll < 32 && many > 0:
		w.closes(i, n%many)
	case roll < 40:
		w.ticks([]int{1, 1, 2, 3, 5, 9, 20, 40, 70, 300}[n%10])
	case roll < 41:
		w.tables[i].Epoch++
	case roll < 43:
		src, dst := addr(900+r[2]>>8%5, 1+n%60000), addr(w.hosts[i], []int{townPort, townPort, 79, 4000 + n%3000}[r[3]%4])
		w.way = append(w.way, gram(src, dst, segOf([]int{syn, syn, int(r[3]>>8) % 32}[r[3]>>2%3], r[0], r[1], n%topWin, "")))
	case len(w.way) == 0:
	case roll < 43+bad:
		w.befalls(n%4, place(), r[3])
	default:
		w.gives([]int{0, 0, place()}[r[2]%3], r[0])
	}
}

// befalls loses, doubles, turns around or spoils a datagram under way.
func (w *town) befalls(kind, place int, x uint32) {
	s := w.way[place]
	switch spoilt := impl.Turned(s, int(x>>8)%(len(s)/2), 1+int(x>>4)%topHalf); {
	case kind == 0:
		w.way = append(w.way, s)
	case kind == 1 && !isRead(spoilt):
		w.way[place] = spoilt
		w.seen["spoilt"]++
	case kind == 2:
		w.way = append(slices.Delete(slices.Clone(w.way), place, place+1), s)
	default:
		w.way = slices.Delete(slices.Clone(w.way), place, place+1)
		w.seen["lost"]++
	}
}

// calm loses nothing: what is under way comes, all is read, and time passes up to where the next thing is due, for so many turns at most.
// (Two ends that take each other for strangers may answer without an end.)
func (w *town) calm(turns int) {
	w.t.Helper()
	for range turns {
		for given := 0; given < 200 && len(w.way) > 0; given++ {
			w.gives(0, uint32(given))
		}
		for i := range w.tables {
			for k, l := range w.tables[i].Lines {
				if l.Conn.In.Ready != "" {
					w.reads(i, k, topBuf)
				}
			}
		}
		wait := w.nextDue()
		if wait == 0 && len(w.way) == 0 {
			return
		}
		w.ticks(max(wait, 1))
	}
}

// nextDue is in how many ticks something is due on any line; 0 where nothing is.
func (w *town) nextDue() int {
	wait := 0
	for _, x := range w.tables {
		for _, l := range x.Lines {
			if at := impl.ConnDue(l.Conn); at != 0 && (wait == 0 || at-x.Now < wait) {
				wait = max(at-x.Now, 1)
			}
		}
	}
	return wait
}

// joined are the lines both of whose ends stand and know each other, each with the places of both.
func (w *town) joined(visit func(l *life, i, k, j, m int)) {
	for both, l := range w.lives {
		i, j := slices.Index(w.hosts, both[0].Host), slices.Index(w.hosts, both[1].Host)
		k, m := placeOfLine(w.tables[i].Lines, both[0], both[1]), placeOfLine(w.tables[j].Lines, both[1], both[0])
		if k < 0 || m < 0 || l.ends != 1 || l.skip != 0 {
			continue
		}
		if a, b := w.tables[i].Lines[k].Conn, w.tables[j].Lines[m].Conn; stands(a) && stands(b) && b.Iss == l.peer {
			visit(l, i, k, j, m)
		}
	}
}

// P17, over drawn runs of one host with others: a table stays right, no line but the one that is meant changes, and lines stay apart.
func TestLinesStayApart(t *testing.T) {
	seen := map[string]int{}
	for seed := range 15 {
		words := spread(seed*53 + 4*1500 + 4)[seed*53:]
		w := newTown(t, seed)
		for i := range 1500 {
			w.step([]int{0, 3, 8, 15, 25}[seed%5], words[4*i:])
		}
		w.calm(300)
		came := map[*life]bool{}
		w.joined(func(l *life, i, k, j, m int) {
			if l.got[1] != l.wrote[0] || l.got[0] != l.wrote[1] {
				t.Fatalf("seed %d: not everything came from %v to %v: %d of %d, %d of %d bytes", seed, w.tables[i].Lines[k].Here, w.tables[i].Lines[k].There, len(l.got[1]), len(l.wrote[0]), len(l.got[0]), len(l.wrote[1]))
			}
			came[l] = true
			w.closes(i, k)
			w.closes(j, m)
		})
		w.calm(300)
		w.joined(func(l *life, i, k, j, m int) {
			if came[l] {
				t.Fatalf("seed %d: not gone: %s\n%s", seed, shownTable(w.tables[i]), shownTable(w.tables[j]))
			}
		})
		w.seen["everything came"] = len(came)
		for what, n := range w.seen {
			seen[what] += n
		}
	}
	for what, least := range map[string]int{
		"asked": 500, "heard": 200, "opened": 500, "answered by a cookie": 500, "came back": 10, "a stranger is reset": 500, "a line went": 300, "a line went in time": 150,
		"lost": 200, "spoilt": 200, "bytes": 60000, "bytes read": 40000, "everything came": 120,
	} {
		if seen[what] < least {
			t.Errorf("%s: %d times", what, seen[what])
		}
	}
}
