package tests

import (
	"fmt"
	"go/ast"
	"go/parser"
	"go/token"
	"math"
	"os"
	"path/filepath"
	"reflect"
	"slices"
	"strings"
	"sync"
	"testing"
	"time"
	"unsafe"

	"loop.example/g00107/impl"
)

// face is an exported function of the program, with arguments at which it has something to do.
type face struct {
	name  string
	does  any
	usual []any
}

func faceOf(name string, does any, usual ...any) face { return face{name, does, usual} }

// facesOfNumbers and the others below are the functions of the chapters, in their order.
func facesOfNumbers() []face {
	word := func(n uint32) uint32 { return n }
	return []face{
		faceOf("SeqLess", impl.SeqLess, word(5), word(9)), faceOf("SeqLessEq", impl.SeqLessEq, word(5), word(9)), faceOf("SeqMax", impl.SeqMax, word(5), word(9)), faceOf("SeqDist", impl.SeqDist, word(5), word(9)),
		faceOf("InWindow", impl.InWindow, word(5), word(3), 9), faceOf("Overlaps", impl.Overlaps, word(1), 5, word(3), 9), faceOf("Unwrap", impl.Unwrap, 70000, word(5)),
		faceOf("Word", impl.Word, 70000), faceOf("PutWord", impl.PutWord, word(70000)), faceOf("GetWord", impl.GetWord, "some bytes", 3),
		faceOf("OnesSum", impl.OnesSum, "some bytes"), faceOf("Checksum", impl.Checksum, "some bytes"), faceOf("SumUpdate", impl.SumUpdate, 3579, 1, 2), faceOf("Turned", impl.Turned, "some bytes", 2, 300), faceOf("TurnShows", impl.TurnShows, "some bytes", 2, 300),
		faceOf("MixWords", impl.MixWords, word(7), []uint32{1, 2, 3}), faceOf("MssOf", impl.MssOf, 4), faceOf("MssStep", impl.MssStep, 536),
	}
}

func facesOfDatagrams() []face {
	p := impl.Packet{Src: hostHere, Dst: hostThere, Id: 5, Ttl: 9, Proto: 6, Data: "some bytes"}
	g := impl.Seg{From: 80, To: 4000, Seq: 7, Ack: 9, Flags: syn + ack, Win: 300, Mss: 536, Data: "more bytes"}
	here, there := uint32(hostHere), uint32(hostThere)
	n := netOf(5)
	return []face{
		faceOf("PacketOk", impl.PacketOk, p), faceOf("PutPacket", impl.PutPacket, p), faceOf("GetPacket", impl.GetPacket, packetBytes(p)), faceOf("Hop", impl.Hop, packetBytes(p)), faceOf("PseudoSum", impl.PseudoSum, here, there, 6, 30),
		faceOf("SegOk", impl.SegOk, g), faceOf("PutSeg", impl.PutSeg, here, there, g), faceOf("GetSeg", impl.GetSeg, here, there, segBytes(here, there, g)), faceOf("SegSpan", impl.SegSpan, g), faceOf("SegText", impl.SegText, g),
		faceOf("PutDatagram", impl.PutDatagram, visitor, server, 5, g), faceOf("GetDatagram", impl.GetDatagram, gram(visitor, server, g)),
		faceOf("NetOk", impl.NetOk, n), faceOf("NetSend", impl.NetSend, n, "one more"), faceOf("NetDo", impl.NetDo, n, impl.NetOp{Kind: impl.NetGive, At: 2}), faceOf("NetRun", impl.NetRun, n, someOps(3, 30)), faceOf("NetLoad", impl.NetLoad, n),
	}
}

func facesOfBuffers() []face {
	c, out, in := clockOf(7, 9), outAt(round-3, "some bytes", 20), inAt(100, "a", 14, part(102, "CDE"), part(107, "H"))
	ops := []impl.ClockOp{{Id: 3, Wait: 5}, {Id: 4, Wait: 6}, {Kind: impl.ClockOpStop, Id: 3}, {Kind: impl.ClockOpGo, Wait: 9}}
	w := impl.Cong{Wnd: 500, Thresh: 600, Dups: 2}
	return []face{
		faceOf("ClockOk", impl.ClockOk, c), faceOf("ClockSet", impl.ClockSet, c, 3, 5), faceOf("ClockStop", impl.ClockStop, c, 1004), faceOf("ClockGo", impl.ClockGo, c, 2), faceOf("ClockNext", impl.ClockNext, c), faceOf("ClockRun", impl.ClockRun, ops),
		faceOf("OutOk", impl.OutOk, out), faceOf("OutPut", impl.OutPut, out, "more bytes than there is room for"), faceOf("OutTake", impl.OutTake, out, uint32(1), 4), faceOf("OutDone", impl.OutDone, out, uint32(1)),
		faceOf("InOk", impl.InOk, in), faceOf("InRoom", impl.InRoom, in), faceOf("InPut", impl.InPut, in, uint32(99), "0123456789"), faceOf("InRead", impl.InRead, in, 5), faceOf("InHeld", impl.InHeld, in),
		faceOf("RttOk", impl.RttOk, known(40, 10, 2)), faceOf("RttSample", impl.RttSample, known(40, 10, 2), 9), faceOf("RttBack", impl.RttBack, known(40, 10, 2)), faceOf("RttWait", impl.RttWait, known(40, 10, 2)), faceOf("RttRun", impl.RttRun, []int{5, -1, 9}),
		faceOf("CongStart", impl.CongStart, 900), faceOf("CongOk", impl.CongOk, w), faceOf("CongAck", impl.CongAck, w, 90, uint32(5)), faceOf("CongDup", impl.CongDup, w, 900, uint32(5)), faceOf("CongLost", impl.CongLost, w, 900),
	}
}

func facesOfEnds() []face {
	c, tired := busyEnds(impl.ConnOpen, impl.ConnHalf)
	c.In.Parts = []impl.Part{part(c.In.Next+20, "ahead"), part(c.In.Next+40, "farther on")}
	came := segOf(ack, c.In.Next, 1101, 300, "some bytes")
	asks := impl.Seg{Seq: 1000, Flags: syn, Win: 300, Mss: 536}
	cookie := client.cookieBy(9, 4)
	p := impl.Pipe{Room: 40, Data: "held", Passed: 9}
	return []face{
		faceOf("ConnOk", impl.ConnOk, c), faceOf("ConnAsk", impl.ConnAsk, uint32(7), 300, 5), faceOf("ConnHear", impl.ConnHear, asks, uint32(7), 300, 5), faceOf("ConnCame", impl.ConnCame, c, came, nowTick),
		faceOf("ConnWrite", impl.ConnWrite, c, "more"), faceOf("ConnRead", impl.ConnRead, c, 5), faceOf("ConnClose", impl.ConnClose, c), faceOf("ConnAbort", impl.ConnAbort, c), faceOf("ConnSend", impl.ConnSend, readyEnd(impl.ConnOpen, 250), nowTick), faceOf("ConnTick", impl.ConnTick, dueEnd(impl.ConnOpen), nowTick), faceOf("ConnDue", impl.ConnDue, c),
		faceOf("PipeOk", impl.PipeOk, p), faceOf("RelayStart", impl.RelayStart, 50), faceOf("PipeMove", impl.PipeMove, p, c, tired), faceOf("RelayMove", impl.RelayMove, busyRelay(), c, tired), faceOf("RelayHeld", impl.RelayHeld, busyRelay()),
		faceOf("Cookie", impl.Cookie, client.secret, visitor, server, 9, 4), faceOf("CookieCheck", impl.CookieCheck, client.secret, visitor, server, 10, cookie), faceOf("HearCookie", impl.HearCookie, client.secret, visitor, server, 9, asks),
		faceOf("TakeCookie", impl.TakeCookie, client.secret, visitor, server, 10, segOf(ack, 1001, cookie+1, 44, ""), 300, 6),
	}
}

func facesOfWorlds() []face {
	p, w := pairIn(impl.ConnOpen, impl.ConnFin1), worldIn(3, 3, 3, 3)
	p.A.In.Parts = []impl.Part{part(p.A.In.Next+20, "ahead")}
	w.Left.B.In.Parts = []impl.Part{part(w.Left.B.In.Next+40, "ahead")}
	iss := [4]uint32{1, 2, 3, 4}
	// What is to become calm comes about as it should: ends that take each other for strangers talk for as long as they may.
	line, _ := impl.PairStart(5, 9, 300)
	whole, _ := impl.WorldStart(iss, 300, 50)
	line, whole = impl.PairRun(line, pairOps(3, 60)), impl.WorldRun(whole, worldOps(3, 60))
	script := stand + "left write 6869\nright write 6a6b6c\nleft drop 0\n"
	return []face{
		faceOf("PairStart", impl.PairStart, uint32(5), uint32(9), 300), faceOf("PairDo", impl.PairDo, p, impl.PairOp{Kind: impl.PairWriteA, Data: "text"}), faceOf("PairRun", impl.PairRun, p, pairOps(3, 30)), faceOf("PairCalm", impl.PairCalm, line, 3), faceOf("PairOver", impl.PairOver, p),
		faceOf("WorldStart", impl.WorldStart, iss, 300, 50), faceOf("WorldDo", impl.WorldDo, w, onLeft(op(impl.PairGiveB, 0))), faceOf("WorldRun", impl.WorldRun, w, worldOps(3, 30)), faceOf("WorldCalm", impl.WorldCalm, whole, 3), faceOf("WorldText", impl.WorldText, w),
		faceOf("ReadOp", impl.ReadOp, "left write 6869"), faceOf("ShowOp", impl.ShowOp, onLeft(writes(impl.PairWriteA, "hi"))), faceOf("ReadScript", impl.ReadScript, script), faceOf("Desk", impl.Desk, iss, 300, 50, script, 20),
	}
}

func facesOfTables() []face {
	x := tableWith(crowd()[:4]...)
	x.Lines[1].Conn.In.Ready = "to be read"
	x.Lines[2].Conn.In.Parts = []impl.Part{part(x.Lines[2].Conn.In.Next+20, "ahead")}
	l := x.Lines[2]
	return []face{
		faceOf("TableOk", impl.TableOk, x), faceOf("LineAt", impl.LineAt, x, l.Here, l.There), faceOf("TableAsk", impl.TableAsk, x, visitor, server, uint32(5)),
		faceOf("TableCame", impl.TableCame, x, gram(l.There, l.Here, segOf(ack, l.Conn.In.Next, l.Conn.Max, 300, "some bytes")), uint32(70)), faceOf("TableTick", impl.TableTick, x, 90),
		faceOf("TableWrite", impl.TableWrite, x, 2, "some bytes"), faceOf("TableRead", impl.TableRead, x, 1, 5), faceOf("TableClose", impl.TableClose, x, 2),
	}
}

func everyFace() []face {
	return slices.Concat(facesOfNumbers(), facesOfDatagrams(), facesOfBuffers(), facesOfEnds(), facesOfWorlds(), facesOfTables())
}

// The list above has all functions that the program's files show, and no other.
func TestEveryFunctionIsListed(t *testing.T) {
	files, err := filepath.Glob("../impl/*.go")
	if err != nil || len(files) < 17 {
		t.Fatalf("%d files, %v", len(files), err)
	}
	shown, listed := []string{}, []string{}
	for _, path := range files {
		text, err := os.ReadFile(path)
		if err != nil {
			t.Fatal(err)
		}
		f, err := parser.ParseFile(token.NewFileSet(), path, text, parser.SkipObjectResolution)
		if err != nil {
			t.Fatal(err)
		}
		for _, d := range f.Decls {
			if x, ok := d.(*ast.FuncDecl); ok && x.Recv == nil && x.Name.IsExported() {
				shown = append(shown, x.Name.Name)
			}
		}
	}
	for _, f := range everyFace() {
		listed = append(listed, f.name)
	}
	slices.Sort(shown)
	slices.Sort(listed)
	if !slices.Equal(shown, listed) {
		t.Errorf("the files show %v\n listed are %v", shown, listed)
	}
}

var (
	farInts = []int{
		math.MinInt, math.MinInt + 1, -round - 1, -round, -halfWay, -topTick - 1, -65536, -100, -3, -2, -1, 0, 1, 2, 3, 4, 5, 7, 8, 9, 11, 12, 13, 15, 16, 31, 32, 33, 64, 99, 100, 101, 200, 255, 256, 300, 536, 537,
		1000, 1001, 1460, 1461, 1999, 2000, 2001, 2048, 2049, 3000, 3001, 4096, 4097, 4098, 5000, 5001, 8000, 8001, 9999, 10000, 20000, 65535, 65536, 100000, 100001, topTick - 1, topTick, topTick + 1, 2 * topTick, 2*topTick + 1, halfWay - 1, halfWay, round - 1, round, round + 1, topBase, topBase + 1, math.MaxInt - 1, math.MaxInt,
	}
	// fieldInts and fieldWords are what each field of a struct is set to, one field at a time.
	fieldInts  = []int{math.MinInt, -1, 0, 1, 2, 65536, topTick + 1, math.MaxInt}
	fieldWords = []uint32{0, 1, 1001, halfWay - 1, halfWay, round - 1}
)

// farTexts are of all kinds that a function may read, whole and spoilt, and much too long ones.
func farTexts() []string {
	out := []string{"", "\x00", "x", "ab", "\xff\xff", "left tick 1", "left tick 01", "right write 00ff", "left write ", "what", "\n", "left tick 1\nwhat\n", stand, strings.Repeat(shortLine, topPairOps), strings.Repeat(shortLine, topPairOps+1)}
	for _, f := range slices.Concat(facesOfDatagrams(), facesOfWorlds(), facesOfTables()) {
		for _, a := range f.usual {
			if s, ok := a.(string); ok && len(s) > 1 {
				out = append(out, s, s[:len(s)/2], s[1:], s+s, changed(s, len(s)/2, s[len(s)/2]^255))
			}
		}
	}
	for _, n := range []int{topSeg, topSeg + 1, topData, topData + 1, topDatagram, topDatagram + 1, topBuf, topBuf + 1, topTotal + 1, topScript + 1} {
		out = append(out, bytesFrom(n, n))
	}
	return append(out, strings.Repeat("\n", topScript), strings.Repeat("68", topOpBytes+1), strings.Repeat("x", 200000))
}

// listsOf are no list, an empty one, and ones at a limit of so many and beyond it.
func listsOf[T any](usual []T, most int) []any {
	long := []T{}
	for len(long) <= most {
		long = append(long, usual[len(long)%len(usual)])
	}
	return []any{[]T(nil), []T{}, usual, usual[:1], long[:most], long, append(long, long...), make([]T, most+1), make([]T, 30)}
}

// farValues are arguments of all types, within and far outside of what the chapters want.
func farValues() []any {
	out := []any{false, true, [4]uint32{}, [4]uint32{round - 1, 0, halfWay, 7}}
	for _, n := range farInts {
		out = append(out, n)
	}
	for _, n := range edgeWords {
		out = append(out, n)
	}
	for _, s := range farTexts() {
		out = append(out, s)
	}
	for _, state := range everyState {
		out = append(out, endIn(state), otherEnd(state), readyEnd(state, 250), pairIn(state, 9-state), loneIn(state), worldIn(3, state, 9-state, 3), aloneIn(3, state), silentIn(state), partedWorld(worldIn(3, state, 9-state, 3)))
	}
	for _, b := range goodIns() {
		out = append(out, b)
	}
	for _, b := range badIns()[:20] {
		out = append(out, b)
	}
	for _, n := range append(badNets(), netOf(0), netOf(topFlights)) {
		out = append(out, n)
	}
	for _, c := range append(badClocks(), clockOf(0, 0), clockOf(5, topTimers)) {
		out = append(out, c)
	}
	for _, s := range append(append(someSegs(), strange()...), wayTo(openEnd())...) {
		out = append(out, s)
	}
	for _, x := range wrongTables() {
		out = append(out, x)
	}
	out = append(out, fullTable(), tableWith(), busyRelay(), impl.Relay{}, impl.Pipe{}, mending(700, 300, 9), impl.Addr{}, visitor, server, addr(round-1, math.MinInt), addr(0, math.MaxInt))
	return slices.Concat(out, listsOf(someOps(3, 30), topNetOps), listsOf([]impl.ClockOp{{Id: 3, Wait: 5}, {Kind: 2, Wait: 3}, {Kind: 1, Id: 3}}, 1000),
		listsOf(pairOps(3, 30), topPairOps), listsOf(worldOps(3, 30), topPairOps), listsOf([]int{5, -1, 9}, 1000), listsOf([]uint32{1, 2, 3}, 3000))
}

// turnedValues are all values that v may be made by setting one thing in it: each field, a list, or what stands first in a list.
func turnedValues(v reflect.Value) []reflect.Value {
	out := []reflect.Value{}
	set := func(change func(w reflect.Value)) {
		w := reflect.New(v.Type()).Elem()
		w.Set(v)
		change(w)
		out = append(out, w)
	}
	switch v.Kind() {
	case reflect.Int:
		for _, n := range fieldInts {
			out = append(out, reflect.ValueOf(n))
		}
	case reflect.Uint32:
		for _, n := range fieldWords {
			out = append(out, reflect.ValueOf(n))
		}
	case reflect.Bool:
		set(func(w reflect.Value) { w.SetBool(!v.Bool()) })
	case reflect.String:
		for _, s := range []string{"", "x", strings.Repeat("y", topTotal+1)} {
			out = append(out, reflect.ValueOf(s))
		}
	case reflect.Struct:
		for i := range v.NumField() {
			for _, f := range turnedValues(v.Field(i)) {
				set(func(w reflect.Value) { w.Field(i).Set(f) })
			}
		}
	case reflect.Array:
		for i := range v.Len() {
			for _, f := range turnedValues(v.Index(i)) {
				set(func(w reflect.Value) { w.Index(i).Set(f) })
			}
		}
	case reflect.Slice:
		set(func(w reflect.Value) { w.SetZero() })
		set(func(w reflect.Value) { w.Set(reflect.MakeSlice(v.Type(), 0, 0)) })
		set(func(w reflect.Value) { w.Set(reflect.MakeSlice(v.Type(), 3000, 3000)) })
		if v.Len() == 0 {
			break
		}
		set(func(w reflect.Value) { w.Set(reflect.AppendSlice(v.Slice3(0, v.Len(), v.Len()), v)) })
		for _, f := range turnedValues(v.Index(0)) {
			set(func(w reflect.Value) {
				w.Set(reflect.AppendSlice(reflect.MakeSlice(v.Type(), 0, v.Len()), v))
				w.Index(0).Set(f)
			})
		}
	}
	return out
}

// filled is a value of a type in which nothing is zero.
func filled(of reflect.Type) reflect.Value {
	v := reflect.New(of).Elem()
	switch of.Kind() {
	case reflect.Int:
		v.SetInt(77)
	case reflect.Uint32:
		v.SetUint(77)
	case reflect.Bool:
		v.SetBool(true)
	case reflect.String:
		v.SetString("spare")
	case reflect.Struct:
		for i := range v.NumField() {
			v.Field(i).Set(filled(v.Field(i).Type()))
		}
	case reflect.Slice:
		v.Set(reflect.Append(v, filled(of.Elem())))
	}
	return v
}

// roomyValue is v in memory of its own, with spare room behind each list, which is filled with what must stay.
func roomyValue(v reflect.Value) reflect.Value {
	const spare = 3
	w := reflect.New(v.Type()).Elem()
	w.Set(v)
	switch v.Kind() {
	case reflect.String:
		w.SetString(heap(v.String()))
	case reflect.Struct:
		for i := range v.NumField() {
			w.Field(i).Set(roomyValue(v.Field(i)))
		}
	case reflect.Slice:
		if v.IsNil() {
			return w
		}
		w.Set(reflect.MakeSlice(v.Type(), v.Len()+spare, v.Len()+spare))
		for i := range v.Len() {
			w.Index(i).Set(roomyValue(v.Index(i)))
		}
		for i := range spare {
			w.Index(v.Len() + i).Set(filled(v.Type().Elem()))
		}
		w.Set(w.Slice(0, v.Len()))
	}
	return w
}

// sameWhole tells whether two values are the same, the room behind their lists with them.
func sameWhole(a, b reflect.Value) bool {
	switch a.Kind() {
	case reflect.Struct:
		for i := range a.NumField() {
			if !sameWhole(a.Field(i), b.Field(i)) {
				return false
			}
		}
		return true
	case reflect.Slice:
		if a.Len() != b.Len() || a.Cap() != b.Cap() || a.IsNil() != b.IsNil() {
			return false
		}
		a, b = a.Slice(0, a.Cap()), b.Slice(0, b.Cap())
		for i := range a.Len() {
			if !sameWhole(a.Index(i), b.Index(i)) {
				return false
			}
		}
		return true
	}
	return a.Equal(b)
}

// overwrite fills all lists of a value, and the room behind them.
func overwrite(v reflect.Value) {
	switch v.Kind() {
	case reflect.Struct:
		for i := range v.NumField() {
			overwrite(v.Field(i))
		}
	case reflect.Slice:
		v = v.Slice(0, v.Cap())
		for i := range v.Len() {
			overwrite(v.Index(i))
			v.Index(i).Set(filled(v.Type().Elem()))
		}
	}
}

// area is where something lies in memory.
type area struct {
	from, to uintptr
	isArg    bool
}

// areasOf are where the lists of a value lie, with the room behind them, and its texts. (Go has each text of one byte just once.)
func areasOf(v reflect.Value, isArg bool, lists, texts []area) ([]area, []area) {
	switch v.Kind() {
	case reflect.String:
		if s := v.String(); len(s) > 1 {
			from := uintptr(unsafe.Pointer(unsafe.StringData(s)))
			texts = append(texts, area{from, from + uintptr(len(s)), isArg})
		}
	case reflect.Struct:
		for i := range v.NumField() {
			lists, texts = areasOf(v.Field(i), isArg, lists, texts)
		}
	case reflect.Slice:
		if v.Cap() > 0 {
			lists = append(lists, area{v.Pointer(), v.Pointer() + uintptr(v.Cap())*v.Type().Elem().Size(), isArg})
		}
		for i := range v.Len() {
			lists, texts = areasOf(v.Index(i), isArg, lists, texts)
		}
	}
	return lists, texts
}

// meets tells whether one of an answer's areas meets one of an argument's.
func meets(areas []area) bool {
	slices.SortFunc(areas, func(a, b area) int { return int(a.from) - int(b.from) })
	ends := map[bool]uintptr{}
	for _, a := range areas {
		if a.from < ends[!a.isArg] {
			return true
		}
		ends[a.isArg] = max(ends[a.isArg], a.to)
	}
	return false
}

// meetThemselves tells whether two of these areas meet.
func meetThemselves(areas []area) bool {
	slices.SortFunc(areas, func(a, b area) int { return int(a.from) - int(b.from) })
	for i := range areas {
		if i > 0 && areas[i].from < areas[i-1].to {
			return true
		}
	}
	return false
}

// call is what a function answers, or why it does not.
func (f face) call(given []reflect.Value) ([]reflect.Value, any) {
	type outcome struct {
		answers []reflect.Value
		why     any
	}
	done := make(chan outcome, 1)
	go func() {
		defer func() {
			if why := recover(); why != nil {
				done <- outcome{why: why}
			}
		}()
		done <- outcome{answers: reflect.ValueOf(f.does).Call(given)}
	}()
	select {
	case got := <-done:
		return got.answers, got.why
	case <-time.After(2 * time.Minute):
		return nil, "it does not come back"
	}
}

func roomyValues(list []reflect.Value) []reflect.Value {
	out := []reflect.Value{}
	for _, v := range list {
		out = append(out, roomyValue(v))
	}
	return out
}

func sameWholes(a, b []reflect.Value) bool {
	for i := range a {
		if !sameWhole(a[i], b[i]) {
			return false
		}
	}
	return len(a) == len(b)
}

func sameAnswers(a, b []reflect.Value) bool {
	for i := range a {
		if !reflect.DeepEqual(a[i].Interface(), b[i].Interface()) {
			return false
		}
	}
	return len(a) == len(b)
}

func shownValues(list []reflect.Value) string {
	text := ""
	for _, v := range list {
		one := fmt.Sprintf("%+v", v.Interface())
		text += fmt.Sprintf("\n  %s", one[:min(len(one), 3000)])
	}
	return text
}

// told is a call with what it answered.
type told struct {
	f     face
	given []reflect.Value
	kept  []reflect.Value
	first []reflect.Value
}

// tries asks of one call all that P18 says, but for calls at the same time.
func (f face) tries(t *testing.T, args []reflect.Value) told {
	t.Helper()
	given, kept := roomyValues(args), roomyValues(args)
	fails := func(what string, more any) {
		t.Helper()
		t.Fatalf("%s: %s: %v; of%s", f.name, what, more, shownValues(args))
	}
	answers, why := f.call(given)
	if why != nil {
		fails("no answer", why)
	}
	if !sameWholes(given, kept) {
		fails("an argument is written into", shownValues(given))
	}
	var lists, texts, mine []area
	for _, v := range answers {
		lists, texts = areasOf(v, false, lists, texts)
	}
	mine = slices.Clone(lists)
	if meetThemselves(mine) {
		fails("two lists of the answer are one", shownValues(answers))
	}
	for _, v := range given {
		lists, texts = areasOf(v, true, lists, texts)
	}
	if meets(append(lists, texts...)) {
		fails("the answer shares memory with an argument", shownValues(answers))
	}
	first := roomyValues(answers)
	again, why := f.call(given)
	if why != nil || !sameAnswers(again, first) {
		fails("another answer the second time", shownValues(again))
	}
	for _, v := range again {
		lists, _ = areasOf(v, false, nil, nil)
		mine = append(mine, lists...)
	}
	if meetThemselves(mine) {
		fails("two answers have one list", shownValues(answers))
	}
	for _, v := range slices.Concat(answers, again) {
		overwrite(v)
	}
	third, why := f.call(given)
	if why != nil || !sameAnswers(third, first) || !sameWholes(given, kept) {
		fails("another answer, where the first one was written into", shownValues(third))
	}
	return told{f, given, kept, first}
}

// pool is all values that the tests have for the arguments, by their types.
type pool map[reflect.Type][]reflect.Value

func newPool() pool {
	p := pool{}
	add := func(v reflect.Value) { p[v.Type()] = append(p[v.Type()], v) }
	for _, a := range farValues() {
		add(reflect.ValueOf(a))
	}
	for _, f := range everyFace() {
		for _, a := range f.usual {
			if v := reflect.ValueOf(a); v.Kind() == reflect.Struct {
				add(v)
				add(reflect.Zero(v.Type()))
			}
		}
	}
	return p
}

func (f face) usualValues() []reflect.Value {
	out := []reflect.Value{}
	for _, a := range f.usual {
		out = append(out, reflect.ValueOf(a))
	}
	return out
}

// argsOf are the arguments at which a function is tried: the usual ones, with each one of them set to all there is for it, and drawn ones.
func (f face) argsOf(p pool, drawn int) [][]reflect.Value {
	usual := f.usualValues()
	out := [][]reflect.Value{usual}
	for i, v := range usual {
		for _, other := range append(slices.Clone(p[v.Type()]), turnedValues(v)...) {
			args := slices.Clone(usual)
			args[i] = other
			out = append(out, args)
		}
	}
	words := spread(len(usual) * (drawn + len(f.name)))[len(usual)*len(f.name):]
	for k := range drawn {
		args := []reflect.Value{}
		for i, v := range usual {
			list := p[v.Type()]
			args = append(args, list[int(words[k*len(usual)+i]>>3)%len(list)])
		}
		out = append(out, args)
	}
	return out
}

// P18: every function of all chapters answers at any arguments, the same one when it is called again, and writes into none; what it answers is its own.
func TestEveryFunctionAnswers(t *testing.T) {
	p := newPool()
	for _, f := range everyFace() {
		t.Run(f.name, func(t *testing.T) {
			drawn := 100
			if strings.HasSuffix(f.name, "Calm") {
				drawn = 6
			}
			for _, args := range f.argsOf(p, drawn) {
				f.tries(t, args)
			}
		})
	}
}

// P18: calls at the same time, with the same arguments in the same memory, answer what each of them answers alone.
func TestEveryFunctionAnswersAtTheSameTime(t *testing.T) {
	const callers = 8
	p, calls := newPool(), []told{}
	for _, f := range everyFace() {
		all := f.argsOf(p, 0)
		for i := 0; i < len(all); i += 1 + len(all)/30 {
			calls = append(calls, f.tries(t, all[i]))
		}
	}
	wrong := make([]string, callers)
	var together sync.WaitGroup
	for k := range callers {
		together.Add(1)
		go func() {
			defer together.Done()
			for i := range calls {
				c := calls[(i+k*len(calls)/callers)%len(calls)]
				if got, why := c.f.call(c.given); why != nil || !sameAnswers(got, c.first) {
					wrong[k] += " " + c.f.name
				}
			}
		}()
	}
	together.Wait()
	for k, names := range wrong {
		if names != "" {
			t.Errorf("caller %d has other answers of%s", k, names)
		}
	}
	for _, c := range calls {
		if !sameWholes(c.given, c.kept) {
			t.Errorf("an argument of %s is written into", c.f.name)
		}
	}
}
