package tests

import (
	"fmt"
	"math"
	"strconv"
	"strings"
	"testing"
	"unsafe"

	"loop.example/g00107/impl"
)

const (
	headLen  = 20
	topByte  = 255
	topData  = topDatagram - headLen
	sumPlace = 10
)

// shown tells a packet without all of its data.
func shown(p impl.Packet) string {
	return fmt.Sprintf("%d > %d, Id %d, Ttl %d, Proto %d, %s", p.Src, p.Dst, p.Id, p.Ttl, p.Proto, short(p.Data))
}

// withSum is s with the right sum in its header, reckoned by the weights of the bytes.
func withSum(s string) string {
	bare := s[:sumPlace] + "\x00\x00" + s[sumPlace+2:headLen]
	return s[:sumPlace] + twoBytes(topHalf-ones(total(bare))) + s[sumPlace+2:]
}

// packetBytes writes a packet byte by byte, whether or not its numbers are within their bounds.
func packetBytes(p impl.Packet) string {
	n := headLen + len(p.Data)
	b := []byte{
		69, 0, byte(n / 256), byte(n % 256),
		byte(p.Id / 256), byte(p.Id % 256), 64, 0,
		byte(p.Ttl), byte(p.Proto), 0, 0,
		byte(p.Src / 16777216), byte(p.Src / 65536), byte(p.Src / 256), byte(p.Src),
		byte(p.Dst / 16777216), byte(p.Dst / 65536), byte(p.Dst / 256), byte(p.Dst),
	}
	return withSum(string(b) + p.Data)
}

// wordAt reads the word at an even place.
func wordAt(s string, at int) uint32 {
	return uint32(halfAt(s, at/2))*65536 + uint32(halfAt(s, at/2+1))
}

// changed is s with another byte at a place.
func changed(s string, at int, c byte) string {
	return s[:at] + string([]byte{c}) + s[at+1:]
}

// edgePackets are packets with each field at its bounds, and some ordinary ones.
func edgePackets() []impl.Packet {
	base := impl.Packet{Src: 167772161, Dst: 167772162, Id: 1, Ttl: 64, Proto: 6, Data: "hello"}
	out := []impl.Packet{base, {}}
	for _, src := range edgeWords {
		for _, dst := range edgeWords {
			p := base
			p.Src, p.Dst = src, dst
			out = append(out, p)
		}
	}
	for _, id := range []int{0, 1, 2, 255, 256, 257, 32767, 32768, 65534, 65535} {
		for _, n := range []int{0, 1, 127, 128, 254, 255} {
			p := base
			p.Id, p.Ttl, p.Proto = id, n, topByte-n
			out = append(out, p)
		}
	}
	for i, n := range []int{0, 1, 2, 3, 235, 236, 237, 536, 1000, 1491, 1492, topData - 1, topData} {
		p := base
		p.Id, p.Data = i*4099, bytesFrom(i, n)
		out = append(out, p)
	}
	words := spread(200)
	for i := 0; i+3 < len(words); i += 4 {
		out = append(out, impl.Packet{
			Src: words[i], Dst: words[i+1], Id: int(words[i+2] % 65536),
			Ttl: int(words[i+3] % 256), Proto: int(words[i+3] / 256 % 256), Data: bytesFrom(i, i%41),
		})
	}
	return out
}

// refused holds that a text is no packet, and that nothing is told of it.
func refused(t *testing.T, why, s string) {
	t.Helper()
	if p, ok := impl.GetPacket(s); ok || p != (impl.Packet{}) {
		t.Errorf("%s: GetPacket(%s) = %s, %v", why, short(s), shown(p), ok)
	}
	if h, ok := impl.Hop(s); ok || h != "" {
		t.Errorf("%s: Hop(%s) = %s, %v", why, short(s), short(h), ok)
	}
}

// taken holds that a text is just this packet.
func taken(t *testing.T, s string, want impl.Packet) {
	t.Helper()
	if p, ok := impl.GetPacket(s); !ok || p != want {
		t.Errorf("GetPacket(%s) = %s, %v, not %s", short(s), shown(p), ok, shown(want))
	}
}

func TestPutPacketByHand(t *testing.T) {
	for _, c := range []struct {
		p    impl.Packet
		want string
	}{
		{impl.Packet{Src: 167772161, Dst: 167772162, Id: 1, Ttl: 64, Proto: 6},
			"\x45\x00\x00\x14\x00\x01\x40\x00\x40\x06\x26\xe1\x0a\x00\x00\x01\x0a\x00\x00\x02"},
		{impl.Packet{Src: 3232235521, Dst: 3232235719, Ttl: 64, Proto: 17, Data: strings.Repeat("z", 95)},
			"\x45\x00\x00\x73\x00\x00\x40\x00\x40\x11\xb8\x61\xc0\xa8\x00\x01\xc0\xa8\x00\xc7" + strings.Repeat("z", 95)},
		{impl.Packet{},
			"\x45\x00\x00\x14\x00\x00\x40\x00\x00\x00\x7a\xeb\x00\x00\x00\x00\x00\x00\x00\x00"},
		{impl.Packet{Data: "hi"},
			"\x45\x00\x00\x16\x00\x00\x40\x00\x00\x00\x7a\xe9\x00\x00\x00\x00\x00\x00\x00\x00hi"},
		{impl.Packet{Id: 258, Ttl: 3, Proto: 4, Data: "a"},
			"\x45\x00\x00\x15\x01\x02\x40\x00\x03\x04\x76\xe4\x00\x00\x00\x00\x00\x00\x00\x00a"},
		{impl.Packet{Src: 4294967295, Dst: 4294967295, Id: 65535, Ttl: 255, Proto: 255},
			"\x45\x00\x00\x14\xff\xff\x40\x00\xff\xff\x7a\xeb\xff\xff\xff\xff\xff\xff\xff\xff"},
		{impl.Packet{Src: 16909060, Dst: 84281096},
			"\x45\x00\x00\x14\x00\x00\x40\x00\x00\x00\x6a\xd7\x01\x02\x03\x04\x05\x06\x07\x08"},
		{impl.Packet{Id: 31467},
			"\x45\x00\x00\x14\x7a\xeb\x40\x00\x00\x00\x00\x00\x00\x00\x00\x00\x00\x00\x00\x00"},
	} {
		if got := impl.PutPacket(c.p); got != c.want {
			t.Errorf("PutPacket(%s) = %s, not %s", shown(c.p), short(got), short(c.want))
		}
		taken(t, c.want, c.p)
	}
	if impl.IpLen != headLen || impl.ProtoTcp != 6 {
		t.Errorf("IpLen = %d, ProtoTcp = %d", impl.IpLen, impl.ProtoTcp)
	}
}

func TestPacketBounds(t *testing.T) {
	numbers := []int{math.MinInt, -round, -65536, -256, -1, 0, 1, 254, 255, 256, 257, 65534, 65535, 65536, 65537, round, round + 1, math.MaxInt}
	check := func(p impl.Packet, want bool) {
		if got := impl.PacketOk(p); got != want {
			t.Errorf("PacketOk(%s) = %v", shown(p), got)
		}
		s := impl.PutPacket(p)
		if !want && s != "" || want && s != packetBytes(p) {
			t.Errorf("PutPacket(%s) = %s", shown(p), short(s))
		}
	}
	for _, n := range numbers {
		check(impl.Packet{Id: n, Ttl: 9, Proto: 6, Data: "x"}, 0 <= n && n <= topHalf)
		check(impl.Packet{Id: 9, Ttl: n, Proto: 6, Data: "x"}, 0 <= n && n <= topByte)
		check(impl.Packet{Id: 9, Ttl: 9, Proto: n, Data: "x"}, 0 <= n && n <= topByte)
	}
	for _, n := range []int{0, 1, 2, topData - 1, topData, topData + 1, topDatagram, topDatagram + 1, 65515, 65516, 65536} {
		for _, fill := range []string{"\x00", "d", "\xff"} {
			check(impl.Packet{Id: 1, Ttl: 2, Proto: 3, Data: strings.Repeat(fill, n)}, n <= topData)
		}
	}
	check(impl.Packet{Id: -1, Ttl: -1, Proto: -1, Data: strings.Repeat("x", topData+1)}, false)
	check(impl.Packet{Id: 65535, Ttl: 255, Proto: 255, Src: 4294967295, Dst: 4294967295, Data: strings.Repeat("\xff", topData)}, true)
}

// P3: packets come back from their bytes.
func TestPacketsComeBack(t *testing.T) {
	for _, p := range edgePackets() {
		s := impl.PutPacket(p)
		if want := packetBytes(p); s != want {
			t.Errorf("PutPacket(%s) = %s, not %s", shown(p), short(s), short(want))
		}
		taken(t, s, p)
		if len(s) != headLen+len(p.Data) || s[headLen:] != p.Data {
			t.Errorf("PutPacket(%s) has %d bytes", shown(p), len(s))
		}
		if got := impl.OnesSum(s[:headLen]); got != topHalf {
			t.Errorf("the header of %s sums to %d", shown(p), got)
		}
	}
}

func TestDataIsNewMemory(t *testing.T) {
	s := packetBytes(impl.Packet{Id: 1, Data: "some data"})
	p, _ := impl.GetPacket(s)
	if p.Data != "some data" || unsafe.StringData(p.Data) == unsafe.StringData(s[headLen:]) {
		t.Errorf("GetPacket(%s) hands out a part of its argument: %s", short(s), shown(p))
	}
}

func TestTextsOfWrongLength(t *testing.T) {
	refused(t, "nothing", "")
	for _, p := range edgePackets() {
		s := packetBytes(p)
		for _, more := range []string{"\x00", "x", "\xff", "\x00\x00", s} {
			refused(t, "more than it tells", s+more)
		}
		refused(t, "one less than it tells", s[:len(s)-1])
		for n := range headLen {
			refused(t, "not a whole header", s[:n])
		}
		refused(t, "the first byte is gone", s[1:])
	}
}

// A length that is told wrongly isn't made right by a sum that fits it.
func TestLengthsToldWrongly(t *testing.T) {
	for _, p := range edgePackets() {
		s := packetBytes(p)
		for _, told := range []int{0, 1, 19, 20, len(s) - 1, len(s) + 1, len(s) ^ 256, 2000, 2001, 65535} {
			if told != len(s) {
				refused(t, "tells "+strconv.Itoa(told), withSum(s[:2]+twoBytes(told)+s[4:]))
			}
		}
	}
}

func TestPacketsBeyondTheLimit(t *testing.T) {
	for _, n := range []int{topData - 1, topData, topData + 1, topData + 2, 2500, 65515} {
		for _, fill := range []string{"\x00", "\xff", "q"} {
			p := impl.Packet{Src: 1, Dst: 2, Id: 3, Ttl: 4, Proto: 5, Data: strings.Repeat(fill, n)}
			if n <= topData {
				taken(t, packetBytes(p), p)
			} else {
				refused(t, "too long", packetBytes(p))
			}
		}
	}
}

func TestEachByteOfTheHeaderChanged(t *testing.T) {
	for i, p := range edgePackets() {
		s := packetBytes(p)
		for at := range headLen {
			for c := 1; c <= topByte; c += 1 + i%7*5 {
				refused(t, "byte "+strconv.Itoa(at), changed(s, at, s[at]^byte(c)))
			}
		}
	}
}

// The header's sum says nothing of the data: other data is another packet.
func TestEachByteOfTheDataChanged(t *testing.T) {
	p := impl.Packet{Src: 5, Dst: 6, Id: 7, Ttl: 8, Proto: 9, Data: bytesFrom(3, 60)}
	s := packetBytes(p)
	for at := headLen; at < len(s); at++ {
		for c := 1; c <= topByte; c++ {
			other := changed(s, at, s[at]^byte(c))
			q := p
			q.Data = other[headLen:]
			taken(t, other, q)
		}
	}
}

func TestFixedBytesWithTheSumMadeRight(t *testing.T) {
	for i, p := range edgePackets() {
		s := packetBytes(p)
		for _, at := range []int{0, 1, 6, 7} {
			for c := 1; c <= topByte; c += 1 + i%5*3 {
				refused(t, "byte "+strconv.Itoa(at)+" with its sum", withSum(changed(s, at, s[at]^byte(c))))
			}
		}
		refused(t, "bytes 0 and 6 swapped", withSum(changed(changed(s, 0, 64), 6, 69)))
		refused(t, "bytes 6 and 7 swapped", withSum(changed(changed(s, 6, 0), 7, 64)))
	}
}

// The other bytes may be anything, if the sum fits them.
func TestFreeBytesWithTheSumMadeRight(t *testing.T) {
	s := packetBytes(impl.Packet{Src: 3232235777, Dst: 2886729729, Id: 4660, Ttl: 86, Proto: 120, Data: "free"})
	for _, at := range []int{4, 5, 8, 9, 12, 13, 14, 15, 16, 17, 18, 19} {
		for c := range topByte + 1 {
			other := withSum(changed(s, at, byte(c)))
			taken(t, other, impl.Packet{
				Src: wordAt(other, 12), Dst: wordAt(other, 16), Id: halfAt(other, 2),
				Ttl: int(other[8]), Proto: int(other[9]), Data: "free",
			})
		}
	}
}

// Where the sum must be 0 the header sums to all ones with 65535 in its place too; that is another text.
func TestSumOfAllOnes(t *testing.T) {
	for _, p := range edgePackets() {
		p.Id = 0
		p.Id = halfAt(packetBytes(p), sumPlace/2)
		s := packetBytes(p)
		if s[sumPlace] != 0 || s[sumPlace+1] != 0 {
			t.Fatalf("the sum of %s is not 0", shown(p))
		}
		taken(t, s, p)
		spoilt := s[:sumPlace] + "\xff\xff" + s[sumPlace+2:]
		if impl.OnesSum(spoilt[:headLen]) != topHalf || impl.TurnShows(s[:headLen], sumPlace/2, topHalf) {
			t.Errorf("%s shows", short(spoilt))
		}
		refused(t, "a sum of 255 255", spoilt)
	}
}

// P3: with a half of the header turned, where that shows, they do not come back.
func TestHalvesOfTheHeaderTurned(t *testing.T) {
	hidden := 0
	for _, p := range edgePackets() {
		s := packetBytes(p)
		for k := range headLen / 2 {
			for _, x := range edgeTurns {
				spoilt := impl.Turned(s, k, x)
				if impl.TurnShows(s[:headLen], k, x) {
					refused(t, "half "+strconv.Itoa(k)+" turned by "+strconv.Itoa(x), spoilt)
				} else {
					hidden++
					hiddenTurn(t, s, spoilt, k)
				}
			}
		}
	}
	if hidden < 50 {
		t.Errorf("only %d turns that don't show", hidden)
	}
}

// hiddenTurn holds what becomes of a header of which a half went from 0 to 65535 or back: it is another packet with the same sum, unless that half is the sum.
func hiddenTurn(t *testing.T, s, spoilt string, k int) {
	t.Helper()
	if k == sumPlace/2 {
		refused(t, "the sum turned and hidden", spoilt)
		return
	}
	taken(t, spoilt, impl.Packet{
		Src: wordAt(spoilt, 12), Dst: wordAt(spoilt, 16), Id: halfAt(spoilt, 2),
		Ttl: int(spoilt[8]), Proto: int(spoilt[9]), Data: s[headLen:],
	})
}

// P3: a hop takes one of the Ttl alone.
func TestHopTakesOneOfTheTtl(t *testing.T) {
	for _, p := range edgePackets() {
		for _, ttl := range []int{0, 1, 2, 3, 64, 127, 128, 129, 254, 255} {
			p.Ttl = ttl
			s := packetBytes(p)
			h, ok := impl.Hop(s)
			if ttl < 2 {
				if ok || h != "" {
					t.Errorf("Hop of %s = %s, %v", shown(p), short(h), ok)
				}
				continue
			}
			q := p
			q.Ttl = ttl - 1
			if !ok || h != packetBytes(q) {
				t.Errorf("Hop of %s = %s, %v", shown(p), short(h), ok)
			}
			taken(t, h, q)
		}
	}
}

func TestHopsToTheEnd(t *testing.T) {
	s := impl.PutPacket(impl.Packet{Src: 4294967295, Dst: 1, Id: 65535, Ttl: 255, Proto: 6, Data: "far"})
	hops := 0
	for h, ok := impl.Hop(s); ok; h, ok = impl.Hop(h) {
		hops++
		if p, fine := impl.GetPacket(h); !fine || p.Ttl != 255-hops || p.Data != "far" {
			t.Fatalf("after %d hops: %s, %v", hops, shown(p), fine)
		}
	}
	if hops != 254 {
		t.Errorf("%d hops from a Ttl of 255", hops)
	}
}

func TestPseudoSumByHand(t *testing.T) {
	for _, c := range []struct {
		src, dst       uint32
		proto, n, want int
	}{
		{0, 0, 0, 0, 0},
		{0, 0, 6, 20, 26},
		{0, 0, 255, 0, 255},
		{0, 0, 0, 65535, 65535},
		{0, 0, 255, 65535, 255},
		{0, 0, 1, 65535, 1},
		{0, 0, 1, 65534, 65535},
		{4294967295, 0, 0, 0, 65535},
		{0, 4294967295, 0, 0, 65535},
		{4294967295, 4294967295, 0, 0, 65535},
		{4294967295, 4294967295, 255, 65535, 255},
		{16909060, 84281096, 0, 0, 4116},
		{167772161, 167772162, 6, 20, 5149},
		{0, 0, 256, 20, -1},
		{0, 0, -1, 20, -1},
		{0, 0, 6, -1, -1},
		{0, 0, 6, 65536, -1},
		{4294967295, 4294967295, 256, 65536, -1},
		{1, 1, -1, -1, -1},
	} {
		if got := impl.PseudoSum(c.src, c.dst, c.proto, c.n); got != c.want {
			t.Errorf("PseudoSum(%d, %d, %d, %d) = %d, not %d", c.src, c.dst, c.proto, c.n, got, c.want)
		}
	}
}

func TestPseudoSumAtItsBounds(t *testing.T) {
	numbers := []int{math.MinInt, -65536, -256, -1, 0, 1, 6, 254, 255, 256, 65534, 65535, 65536, round, round + 6, math.MaxInt}
	for _, src := range edgeWords {
		for _, dst := range edgeWords {
			for _, proto := range numbers {
				for _, n := range numbers {
					want := -1
					if 0 <= proto && proto <= topByte && 0 <= n && n <= topHalf {
						want = ones(int(src/65536) + int(src%65536) + int(dst/65536) + int(dst%65536) + proto + n)
					}
					if got := impl.PseudoSum(src, dst, proto, n); got != want {
						t.Errorf("PseudoSum(%d, %d, %d, %d) = %d, not %d", src, dst, proto, n, got, want)
					}
				}
			}
		}
	}
}
