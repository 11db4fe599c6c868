package tests

import (
	"math"
	"slices"
	"strings"
	"testing"

	"loop.example/g00559/impl"
)

const (
	headKind   = 0x0a0d0d0a
	packetKind = 6
)

var orders = []bool{true, false}

// number writes n by itself, so that the tests of blocks do not lean on the bytes of impl.
func number(n int64, width int, big bool) string {
	b := make([]byte, width)
	for i := range b {
		b[i] = byte(n >> (8 * i))
	}
	if big {
		slices.Reverse(b)
	}
	return string(b)
}

// rawBlock writes a block of any body, right or not.
func rawBlock(kind int64, body string, big bool) string {
	size := number(int64(len(body))+12, 4, big)
	return number(kind, 4, big) + size + body + size
}

func head(big bool) string {
	return rawBlock(headKind, number(0x1a2b3c4d, 4, big)+number(1, 2, big)+number(0, 2, big)+strings.Repeat("\xff", 8), big)
}

// seen is the body of a block of Kind 6 that says of Data what it is told to say.
func seen(high, low, size, whole int64, rest string, big bool) string {
	return number(0, 4, big) + number(high, 4, big) + number(low, 4, big) + number(size, 4, big) + number(whole, 4, big) + rest
}

func packetBlock(p impl.Packet, big bool) string {
	n := int64(len(p.Data))
	fill := noughts((4 - len(p.Data)%4) % 4)
	return rawBlock(packetKind, seen(p.Time/wrap, p.Time%wrap, n, n, p.Data+fill, big), big)
}

func TestBlocksConstants(t *testing.T) {
	if impl.MaxData != 400 || impl.MaxTime != 1000000000000 {
		t.Error("MaxData, MaxTime")
	}
}

func TestBlocksComeBack(t *testing.T) {
	next := steady(6)
	for _, big := range orders {
		for _, kind := range []int64{0, 1, 6, headKind, 0x01020304, wrap/2 - 1, wrap / 2, wrap - 1} {
			for n := 0; n <= 800; n += 4 {
				b := impl.Block{Kind: kind, Body: text(n, next)}
				s := impl.BlockBytes(b, big)
				if s != rawBlock(kind, b.Body, big) {
					t.Fatalf("%v %x with %d bytes: %q", big, kind, n, s)
				}
				for _, behind := range []string{"", "x", s} {
					if x, size, ok := impl.ReadBlock(s+behind, big); !ok || x != b || size != int64(n)+12 {
						t.Fatalf("%v %x with %d bytes: %v %d %v", big, kind, n, x, size, ok)
					}
				}
			}
		}
	}
}

func TestBlockBytesKnown(t *testing.T) {
	b := impl.Block{Kind: 0x01020304, Body: "abcdefgh"}
	if s := impl.BlockBytes(b, true); s != "\x01\x02\x03\x04\x00\x00\x00\x14abcdefgh\x00\x00\x00\x14" {
		t.Errorf("%q", s)
	}
	if s := impl.BlockBytes(b, false); s != "\x04\x03\x02\x01\x14\x00\x00\x00abcdefgh\x14\x00\x00\x00" {
		t.Errorf("%q", s)
	}
	if s := impl.BlockBytes(impl.Block{}, true); s != "\x00\x00\x00\x00\x00\x00\x00\x0c\x00\x00\x00\x0c" {
		t.Errorf("%q", s)
	}
}

func TestBlockBytesRefuses(t *testing.T) {
	for _, big := range orders {
		for _, n := range []int{1, 2, 3, 5, 798, 799, 801, 802, 803, 804, 4000} {
			if s := impl.BlockBytes(impl.Block{Body: noughts(n)}, big); s != "" {
				t.Errorf("%d bytes: %q", n, s)
			}
		}
		for _, kind := range append([]int64{-1, wrap, wrap + 6}, extremes...) {
			if s := impl.BlockBytes(impl.Block{Kind: kind, Body: "abcd"}, big); s != "" {
				t.Errorf("%d: %q", kind, s)
			}
		}
	}
}

func TestReadBlockRefuses(t *testing.T) {
	for _, big := range orders {
		good := rawBlock(5, "abcdefgh", big)
		bad := map[string]string{
			"the other order":           rawBlock(5, "abcdefgh", !big),
			"a body that is too long":   rawBlock(5, noughts(804), big),
			"a body not four times":     rawBlock(5, "abcde", big),
			"less than a block has":     number(5, 4, big) + number(8, 4, big) + number(8, 4, big),
			"no bytes at all":           number(5, 4, big) + number(0, 4, big) + number(0, 4, big),
			"more bytes than there are": number(5, 4, big) + number(24, 4, big) + "abcdefgh" + number(24, 4, big),
			"the size behind is less":   good[:16] + number(16, 4, big),
			"the size behind is more":   good[:16] + number(24, 4, big),
			"a great size":              number(5, 4, big) + number(wrap-4, 4, big) + "abcdefgh" + number(wrap-4, 4, big),
		}
		for i := range len(good) {
			bad["the first "+string(rune('A'+i))] = good[:i]
		}
		for name, s := range bad {
			if b, n, ok := impl.ReadBlock(s, big); ok || n != 0 || b != (impl.Block{}) {
				t.Errorf("%v %s: %v %d %v", big, name, b, n, ok)
			}
		}
		longest := rawBlock(5, noughts(800), big)
		if b, n, ok := impl.ReadBlock(longest, big); !ok || n != 812 || len(b.Body) != 800 {
			t.Errorf("%v longest: %d %v", big, n, ok)
		}
	}
}

// somePackets has times of more than 32 bits, and data of each rest by four.
func somePackets(many int, next func() int64) []impl.Packet {
	edges := []int64{0, 1, wrap - 1, wrap, wrap + 1, 2*wrap - 1, 232 * wrap, maxTime - 1, maxTime}
	l := make([]impl.Packet, many)
	for i := range l {
		time := next() % (maxTime + 1)
		if i < len(edges) {
			time = edges[i]
		}
		l[i] = impl.Packet{Time: time, Data: text(int(next()%401), next)}
	}
	return l
}

// Promise 2: packets come back from their trace, in either order of bytes.
func TestPromise02PacketsComeBack(t *testing.T) {
	next := steady(7)
	for _, big := range orders {
		for many := 0; many <= 60; many++ {
			l := somePackets(many, next)
			x, at := impl.ReadTrace(impl.TraceBytes(l, big))
			if at != -1 || !slices.Equal(x, l) {
				t.Errorf("%v: %d packets: %d at %d", big, many, len(x), at)
			}
		}
		for n := 0; n <= 400; n++ {
			l := []impl.Packet{{Time: wrap + int64(n), Data: text(n, next)}}
			x, at := impl.ReadTrace(impl.TraceBytes(l, big))
			if at != -1 || !slices.Equal(x, l) {
				t.Errorf("%v: %d bytes: %v at %d", big, n, x, at)
			}
		}
	}
}

func TestPromise02TimesComeBack(t *testing.T) {
	for _, big := range orders {
		for high := int64(0); high <= maxTime/wrap; high++ {
			for _, low := range []int64{0, 1, wrap/2 - 1, wrap / 2, wrap - 1} {
				time := min(high*wrap+low, maxTime)
				x, at := impl.ReadTrace(impl.TraceBytes([]impl.Packet{{Time: time}}, big))
				if at != -1 || len(x) != 1 || x[0].Time != time {
					t.Errorf("%v: %d: %v at %d", big, time, x, at)
				}
			}
		}
	}
}

func TestTraceBytesKnown(t *testing.T) {
	l := []impl.Packet{{Time: 0x0102030405, Data: "abcde"}}
	be := "\x0a\x0d\x0d\x0a\x00\x00\x00\x1c\x1a\x2b\x3c\x4d\x00\x01\x00\x00\xff\xff\xff\xff\xff\xff\xff\xff\x00\x00\x00\x1c" +
		"\x00\x00\x00\x01\x00\x00\x00\x14\x00\x01\x00\x00\x00\x00\x01\x90\x00\x00\x00\x14" +
		"\x00\x00\x00\x06\x00\x00\x00\x28\x00\x00\x00\x00\x00\x00\x00\x01\x02\x03\x04\x05\x00\x00\x00\x05\x00\x00\x00\x05abcde\x00\x00\x00\x00\x00\x00\x28"
	le := "\x0a\x0d\x0d\x0a\x1c\x00\x00\x00\x4d\x3c\x2b\x1a\x01\x00\x00\x00\xff\xff\xff\xff\xff\xff\xff\xff\x1c\x00\x00\x00" +
		"\x01\x00\x00\x00\x14\x00\x00\x00\x01\x00\x00\x00\x90\x01\x00\x00\x14\x00\x00\x00" +
		"\x06\x00\x00\x00\x28\x00\x00\x00\x00\x00\x00\x00\x01\x00\x00\x00\x05\x04\x03\x02\x05\x00\x00\x00\x05\x00\x00\x00abcde\x00\x00\x00\x28\x00\x00\x00"
	if s := impl.TraceBytes(l, true); s != be {
		t.Errorf("highest first: %q", s)
	}
	if s := impl.TraceBytes(l, false); s != le {
		t.Errorf("lowest first: %q", s)
	}
	if be, le := impl.TraceBytes(nil, true), impl.TraceBytes([]impl.Packet{}, false); len(be) != 48 || len(le) != 48 {
		t.Errorf("no packets: %q %q", be, le)
	}
}

func TestTraceBytesRefuses(t *testing.T) {
	good := impl.Packet{Time: 5, Data: "ab"}
	for _, big := range orders {
		for _, bad := range []impl.Packet{
			{Time: -1}, {Time: maxTime + 1}, {Time: math.MinInt64}, {Time: math.MaxInt64},
			{Data: noughts(401)}, {Data: noughts(404)}, {Time: maxTime, Data: noughts(1000)},
		} {
			for _, l := range [][]impl.Packet{{bad}, {good, bad}, {bad, good}} {
				if s := impl.TraceBytes(l, big); s != "" {
					t.Errorf("%v: %d and %d bytes: %q", big, bad.Time, len(bad.Data), s)
				}
			}
		}
		if s := impl.TraceBytes(make([]impl.Packet, 60), big); len(s) != 48+60*32 {
			t.Errorf("60 packets: %d", len(s))
		}
		if s := impl.TraceBytes(make([]impl.Packet, 61), big); s != "" {
			t.Errorf("61 packets: %d", len(s))
		}
		if s := impl.TraceBytes([]impl.Packet{{Time: maxTime, Data: noughts(400)}}, big); len(s) != 48+32+400 {
			t.Errorf("the greatest packet: %d", len(s))
		}
	}
}

func traceIs(t *testing.T, name string, s string, want []impl.Packet, place int) {
	t.Helper()
	if l, at := impl.ReadTrace(s); at != int64(place) || !slices.Equal(l, want) {
		t.Errorf("%s: %v at %d, not %v at %d", name, l, at, want, place)
	}
}

func TestReadTraceSize(t *testing.T) {
	for _, big := range orders {
		short := rawBlock(headKind, number(0x1a2b3c4d, 4, big), big)
		empty := rawBlock(7, "", big)
		for n := range 28 {
			traceIs(t, "short", head(big)[:n], nil, 0)
		}
		traceIs(t, "28 bytes", head(big), nil, -1)
		traceIs(t, "27 bytes of two blocks", (short + empty)[:27], nil, 0)
		traceIs(t, "28 bytes of two blocks", short+empty, nil, -1)
		traceIs(t, "29 bytes of two blocks", short+empty+"x", nil, 28)

		full := head(big) + strings.Repeat(rawBlock(7, noughts(788), big), 49)
		full += rawBlock(7, noughts(40000-len(full)-12), big)
		if len(full) != 40000 {
			t.Fatal(len(full))
		}
		traceIs(t, "40000 bytes", full, nil, -1)
		traceIs(t, "40001 bytes", full+"x", nil, 0)
		traceIs(t, "40012 bytes", full+empty, nil, 0)
		traceIs(t, "39999 bytes", full[:39999], nil, 28+49*800)
	}
}

func TestReadTraceFirstBlock(t *testing.T) {
	for _, big := range orders {
		good := impl.Packet{Time: wrap + 7, Data: "abc"}
		rest := packetBlock(good, big)
		traceIs(t, "right", head(big)+rest, []impl.Packet{good}, -1)
		h := head(big)
		for i := 8; i < 12; i++ {
			for bit := range 8 {
				traceIs(t, "mark", h[:i]+string([]byte{h[i] ^ 1<<bit})+h[i+1:]+rest, nil, 0)
			}
		}
		traceIs(t, "mark in the other order", h[:8]+number(0x1a2b3c4d, 4, !big)+h[12:]+rest, nil, 0)
		for _, kind := range []int64{0, 1, packetKind, headKind + 1, wrap - 1} {
			traceIs(t, "first kind", rawBlock(kind, h[8:24], big)+rest, nil, 0)
		}
		traceIs(t, "size behind", h[:24]+number(32, 4, big)+rest, nil, 0)
		traceIs(t, "versions and what is behind the mark are passed over", rawBlock(headKind, h[8:12]+"anything", big)+rest, []impl.Packet{good}, -1)
		traceIs(t, "a first one of the greatest size", rawBlock(headKind, h[8:12]+noughts(796), big)+rest, []impl.Packet{good}, -1)
		traceIs(t, "a first one of more", rawBlock(headKind, h[8:12]+noughts(800), big)+rest, nil, 0)
		traceIs(t, "no block of Kind 1", h+rest+rest, []impl.Packet{good, good}, -1)
	}
}

func TestReadTraceLaterBlocks(t *testing.T) {
	for _, big := range orders {
		good := impl.Packet{Time: 9, Data: "wxyz"}
		ahead := head(big) + packetBlock(good, big)
		place := len(ahead)
		for _, kind := range []int64{0, 1, 2, 5, 7, headKind - 1, headKind + 1, wrap - 1} {
			for _, body := range []string{"", "abcd", noughts(800)} {
				traceIs(t, "other kinds", ahead+rawBlock(kind, body, big)+packetBlock(good, big), []impl.Packet{good, good}, -1)
			}
		}
		traceIs(t, "a second head", ahead+head(big), nil, place)
		traceIs(t, "a second head, short", ahead+rawBlock(headKind, "", big)+packetBlock(good, big), nil, place)
		traceIs(t, "the other order", ahead+packetBlock(good, !big), nil, place)
		traceIs(t, "a body too long", ahead+rawBlock(7, noughts(804), big), nil, place)
		traceIs(t, "two bad ones", ahead+head(big)+rawBlock(packetKind, "", big), nil, place)
		whole := ahead + packetBlock(good, big)
		for n := place + 1; n < len(whole); n++ {
			traceIs(t, "cut", whole[:n], nil, place)
		}
		traceIs(t, "cut between blocks", whole[:place], []impl.Packet{good}, -1)
		for n := 1; n < 12; n++ {
			traceIs(t, "bytes behind", whole+noughts(n), nil, len(whole))
		}
	}
}

func TestReadTraceManyPackets(t *testing.T) {
	for _, big := range orders {
		one := packetBlock(impl.Packet{Time: 3, Data: "ab"}, big)
		sixty := head(big) + strings.Repeat(one, 60)
		want := slices.Repeat([]impl.Packet{{Time: 3, Data: "ab"}}, 60)
		traceIs(t, "60 packets", sixty, want, -1)
		traceIs(t, "60 packets and another block", sixty+rawBlock(7, "abcd", big), want, -1)
		traceIs(t, "61 packets", sixty+one, nil, len(sixty))
		traceIs(t, "62 packets", sixty+one+one, nil, len(sixty))
		traceIs(t, "61 packets with a block between", sixty+rawBlock(7, "", big)+one, nil, len(sixty)+12)
		traceIs(t, "61 packets, what is wrong behind them", sixty+one+"x", nil, len(sixty))
		bad := rawBlock(packetKind, "", big)
		traceIs(t, "61 packets, what is wrong ahead of them", head(big)+bad+strings.Repeat(one, 61), nil, 28)
	}
}

func TestReadTracePacketBody(t *testing.T) {
	for _, big := range orders {
		read := func(name string, body string, want ...impl.Packet) {
			t.Helper()
			if len(want) == 0 {
				traceIs(t, name, head(big)+rawBlock(packetKind, body, big), nil, 28)
			} else {
				traceIs(t, name, head(big)+rawBlock(packetKind, body, big), want, -1)
			}
		}
		for n := 0; n < 20; n += 4 {
			read("a short body", noughts(n))
		}
		read("20 bytes", noughts(20), impl.Packet{})
		read("all that is there", seen(0, 1, 8, 8, "abcdefgh", big), impl.Packet{Time: 1, Data: "abcdefgh"})
		read("one more than is there", seen(0, 1, 9, 9, "abcdefgh", big))
		read("one more than none", seen(0, 1, 1, 1, "", big))
		read("less than is there", seen(0, 1, 2, 2, "abcdefgh", big), impl.Packet{Time: 1, Data: "ab"})
		read("none of what is there", seen(0, 1, 0, 0, "abcdefgh", big), impl.Packet{Time: 1})
		read("as many as the second one", seen(0, 1, 3, 3, "abcd", big), impl.Packet{Time: 1, Data: "abc"})
		read("one more than the second one", seen(0, 1, 3, 2, "abcd", big))
		read("the second one tells nothing else", seen(0, 1, 3, wrap-1, "abcd", big), impl.Packet{Time: 1, Data: "abc"})
		read("400 bytes", seen(0, 1, 400, 500, noughts(500), big), impl.Packet{Time: 1, Data: noughts(400)})
		read("401 bytes", seen(0, 1, 401, 500, noughts(500), big))
		read("a great number of bytes", seen(0, 1, wrap-1, wrap-1, "abcd", big))
		read("what is behind Data is no matter", seen(0, 1, 1, 1, "axyz", big), impl.Packet{Time: 1, Data: "a"})
		first := seen(0, 1, 1, 1, "a\x00\x00\x00", big)
		read("the first four bytes are no matter", "\xff\x01\x02\x03"+first[4:], impl.Packet{Time: 1, Data: "a"})
	}
}

func TestReadTraceTime(t *testing.T) {
	for _, big := range orders {
		for _, c := range []struct {
			high, low int64
			want      int64
		}{
			{0, 0, 0}, {0, wrap - 1, wrap - 1}, {1, 0, wrap}, {1, 1, wrap + 1},
			{maxTime / wrap, maxTime % wrap, maxTime}, {231, wrap - 1, 232*wrap - 1},
			{maxTime / wrap, maxTime%wrap + 1, -1}, {maxTime / wrap, wrap - 1, -1}, {maxTime/wrap + 1, 0, -1},
			{wrap/2 - 1, 0, -1}, {wrap / 2, 0, -1}, {wrap/2 + 1, 7, -1}, {wrap - 1, wrap - 1, -1}, {wrap - 1, 0, -1},
		} {
			s := head(big) + rawBlock(packetKind, seen(c.high, c.low, 0, 0, "", big), big)
			if c.want < 0 {
				traceIs(t, "time", s, nil, 28)
			} else {
				traceIs(t, "time", s, []impl.Packet{{Time: c.want}}, -1)
			}
		}
	}
}
