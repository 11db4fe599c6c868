package tests

import (
	"fmt"
	"math"
	"reflect"
	"slices"
	"testing"

	"loop.example/g00559/impl"
)

func host(n int64) string {
	return "\x02\x00" + number(n, 4, true)
}

// carried is a packet, right or not, with the heads as they are told.
func carried(time int64, f impl.Frame, p impl.Ip, segment string) impl.Packet {
	p.Body = segment
	f.Body = rawIp(p, 20+len(segment))
	return impl.Packet{Time: time, Data: rawFrame(f)}
}

func ownHeads(a, b, seq int64) (impl.Frame, impl.Ip) {
	f := impl.Frame{To: host(b), From: host(a), Vlan: -1, Kind: 0x0800}
	return f, impl.Ip{From: a, To: b, Ttl: 64, Proto: 6, Id: seq % 65536}
}

// rawPacket writes the packet of a segment by itself, so that the tests of flows do not lean on PacketOf.
func rawPacket(time, a, b int64, x impl.Tcp) impl.Packet {
	f, p := ownHeads(a, b, x.Seq)
	return carried(time, f, p, rawTcp(a, b, x, sackOptions(x.Sacks)))
}

func packetIsOf(t *testing.T, time, a, b int64, x impl.Tcp) {
	t.Helper()
	p, ok := impl.PacketOf(time, a, b, x)
	if !ok || p != rawPacket(time, a, b, x) {
		t.Errorf("%d, %d to %d, %+v: %+v %v", time, a, b, x, p, ok)
	}
	ip, y, ok := impl.Dissect(p)
	want := impl.Ip{From: a, To: b, Ttl: 64, Proto: 6, Id: x.Seq % 65536, Body: rawTcp(a, b, x, sackOptions(x.Sacks))}
	if !ok || ip != want || !sameSegment(x, y) {
		t.Errorf("%d, %d to %d, %+v came back as %+v %+v %v", time, a, b, x, ip, y, ok)
	}
}

func TestPacketOfAndTheOtherWayRound(t *testing.T) {
	next := steady(18)
	for range 300 {
		packetIsOf(t, next()%(maxTime+1), next()%wrap, next()%wrap, aTcp(next))
	}
	for _, a := range round {
		for _, b := range round {
			packetIsOf(t, 0, a, b, impl.Tcp{Seq: a, Ack: b})
			packetIsOf(t, maxTime, a, b, impl.Tcp{From: 65535, To: 65535, Seq: b, Ack: a, Flags: 63, Win: 65535, Data: "x"})
		}
	}
	for _, seq := range []int64{0, 1, 65535, 65536, 65537, 0x12345678, wrap - 1} {
		packetIsOf(t, 1, 2, 3, impl.Tcp{Seq: seq})
	}
	longest := impl.Tcp{Sacks: make([]impl.Range, 3), Data: text(200, next)}
	packetIsOf(t, maxTime, wrap-1, wrap-1, longest)
}

func TestPacketOfKnown(t *testing.T) {
	p, ok := impl.PacketOf(5, 0x01020304, 0x0a0b0c0d, impl.Tcp{From: 1000, To: 80, Seq: 0x00018001, Data: "hi"})
	want := "\x02\x00\x0a\x0b\x0c\x0d\x02\x00\x01\x02\x03\x04\x08\x00\x45\x00\x00\x2a\x80\x01\x40\x00\x40\x06"
	if !ok || p.Time != 5 || len(p.Data) != 14+42 || p.Data[:24] != want || p.Data[26:34] != "\x01\x02\x03\x04\x0a\x0b\x0c\x0d" || p.Data[54:] != "hi" {
		t.Errorf("%+v %v", p, ok)
	}
}

func TestPacketOfRefuses(t *testing.T) {
	refused := func(time, a, b int64, x impl.Tcp) {
		t.Helper()
		if p, ok := impl.PacketOf(time, a, b, x); ok || p != (impl.Packet{}) {
			t.Errorf("%d, %d to %d, %+v: %+v %v", time, a, b, x, p, ok)
		}
	}
	good := impl.Tcp{From: 1000, To: 80, Data: "data"}
	for _, time := range append([]int64{-1, maxTime + 1}, extremes...) {
		refused(time, 1, 2, good)
	}
	for _, n := range notRound {
		refused(5, n, 2, good)
		refused(5, 1, n, good)
		refused(5, n, n, good)
	}
	for _, x := range wrongTcps() {
		refused(5, 1, 2, x)
	}
}

func notDissected(t *testing.T, name string, p impl.Packet) {
	t.Helper()
	if ip, x, ok := impl.Dissect(p); ok || ip != (impl.Ip{}) || !reflect.DeepEqual(x, impl.Tcp{}) {
		t.Errorf("%s: %+v is %+v %+v %v", name, p, ip, x, ok)
	}
}

func TestDissectTime(t *testing.T) {
	x := impl.Tcp{From: 1000, To: 80, Data: "data"}
	for _, time := range []int64{0, 1, wrap, maxTime} {
		if _, y, ok := impl.Dissect(rawPacket(time, 1, 2, x)); !ok || !sameSegment(x, y) {
			t.Errorf("%d: %+v %v", time, y, ok)
		}
	}
	for _, time := range append([]int64{-1, maxTime + 1}, extremes...) {
		notDissected(t, "time", rawPacket(time, 1, 2, x))
	}
}

func TestDissectRefuses(t *testing.T) {
	x := impl.Tcp{From: 1000, To: 80, Seq: 7, Data: "data"}
	segment := rawTcp(1, 2, x, "")
	whole := rawPacket(5, 1, 2, x).Data
	for n := range len(whole) {
		notDissected(t, "cut off", impl.Packet{Time: 5, Data: whole[:n]})
	}
	for _, kind := range []int64{0, 46, 0x07ff, 0x0801, 0x0806, 0x8008, 0x8100, 0x86dd} {
		f, p := ownHeads(1, 2, 7)
		f.Kind = kind
		notDissected(t, "Kind", carried(5, f, p, segment))
		f.Vlan = 5
		notDissected(t, "Kind behind a tag", carried(5, f, p, segment))
	}
	for proto := range int64(256) {
		f, p := ownHeads(1, 2, 7)
		p.Proto = proto
		if proto != 6 {
			notDissected(t, "Proto", carried(5, f, p, segment))
		}
	}
	f, p := ownHeads(1, 2, 7)
	notDissected(t, "the sum of another segment", carried(5, f, p, rawTcp(1, 3, x, "")))
	notDissected(t, "a segment without its last byte", carried(5, f, p, segment[:len(segment)-1]))
	notDissected(t, "no segment", carried(5, f, p, ""))
	notDissected(t, "options that are cut off", carried(5, f, p, rawTcp(1, 2, x, "\x02\x05ab")))
	notDissected(t, "flags", carried(5, f, p, rawTcp(1, 2, impl.Tcp{Flags: 64}, "")))
	f.Vlan = 4096
	notDissected(t, "Vlan", carried(5, f, p, segment))
	f.Vlan = -1
	notDissected(t, "a packet of another sum", impl.Packet{Data: whole[:24] + "\x00\x00" + whole[26:]})
	notDissected(t, "a body that is too long", impl.Packet{Data: whole + noughts(383-(len(whole)-14))})
	notDissected(t, "too much Data", impl.Packet{Data: whole + noughts(401-len(whole))})
	notDissected(t, "noughts", impl.Packet{Data: noughts(60)})
	notDissected(t, "nothing", impl.Packet{})
}

// Of a frame its Kind is asked, of a packet its Proto: its ends, its tag, Ttl, Id, and what stands behind it may be others.
func TestDissectOtherHeads(t *testing.T) {
	x := impl.Tcp{From: 1000, To: 80, Seq: 7, Data: "data"}
	dissected := func(name string, f impl.Frame, p impl.Ip, behind string) {
		t.Helper()
		packet := carried(5, f, p, rawTcp(1, 2, x, ""))
		packet.Data += behind
		p.Body = rawTcp(1, 2, x, "")
		if ip, y, ok := impl.Dissect(packet); !ok || ip != p || !sameSegment(x, y) {
			t.Errorf("%s: %+v %+v %v", name, ip, y, ok)
		}
	}
	f, p := ownHeads(1, 2, 7)
	dissected("behind", f, p, "\x00")
	dissected("behind", f, p, noughts(382-44))
	f.To, f.From = otherAddress, ownAddress
	dissected("ends", f, p, "")
	p.Ttl, p.Id = 1, 65535
	dissected("Ttl and Id", f, p, "")
	f.Vlan = 4095
	dissected("Vlan", f, p, noughts(382-44))
}

func TestKeyOf(t *testing.T) {
	for _, n := range append([]int64{0, 1, 65536, wrap}, extremes...) {
		p := impl.Ip{From: n, To: 2, Ttl: 5, Proto: 6, Id: 7, Body: "body"}
		x := impl.Tcp{From: 3, To: n, Seq: 8, Ack: 9, Data: "data"}
		if k := impl.KeyOf(p, x); k != (impl.Key{A: n, APort: 3, B: 2, BPort: n}) {
			t.Errorf("%d: %+v", n, k)
		}
	}
}

// wantFlows tells the flows of packets by going through all of them for each one.
func wantFlows(l []impl.Packet) []impl.Flow {
	var flows []impl.Flow
next:
	for _, p := range l {
		ip, x, ok := impl.Dissect(p)
		if !ok {
			continue
		}
		own := impl.Key{A: ip.From, APort: x.From, B: ip.To, BPort: x.To}
		back := impl.Key{A: ip.To, APort: x.To, B: ip.From, BPort: x.From}
		for i := range flows {
			if flows[i].Key == own || flows[i].Key == back {
				flows[i].Segs = append(flows[i].Segs, impl.Seg{Time: p.Time, Out: flows[i].Key == own, T: x})
				continue next
			}
		}
		flows = append(flows, impl.Flow{Key: own, Segs: []impl.Seg{{Time: p.Time, Out: true, T: x}}})
	}
	return flows
}

func flowsText(l []impl.Flow) string {
	return fmt.Sprintf("%+v", l)
}

func flowsAre(t *testing.T, name string, l []impl.Packet, want []impl.Flow) {
	t.Helper()
	if got := impl.FlowsOf(l); flowsText(got) != flowsText(want) {
		t.Errorf("%s:\n%s, not\n%s", name, flowsText(got), flowsText(want))
	}
}

// somePairs has packets between few ends, so that flows have many segments, and noise among them.
func somePairs(many int, next func() int64) []impl.Packet {
	l := make([]impl.Packet, many)
	for i := range l {
		x := aTcp(next)
		x.From, x.To = 7+next()>>20%2, 7+next()>>20%2
		l[i] = rawPacket(next()%(maxTime+1), 1+next()>>20%3, 1+next()>>20%3, x)
		switch next() >> 20 % 8 {
		case 0:
			l[i].Data = l[i].Data[1:]
		case 1:
			l[i].Time = -1
		}
	}
	return l
}

// Promise 6: each segment is in one flow, that of both its ends.
func TestPromise06EachSegmentIsInOneFlow(t *testing.T) {
	next := steady(19)
	for many := range 61 {
		l := somePairs(many, next)
		flowsAre(t, "some", l, wantFlows(l))
		segments := 0
		for _, p := range l {
			if _, _, ok := impl.Dissect(p); ok {
				segments++
			}
		}
		ends := map[[4]int64]bool{}
		for _, f := range impl.FlowsOf(l) {
			segments -= len(f.Segs)
			k := f.Key
			if ends[[4]int64{k.A, k.APort, k.B, k.BPort}] || ends[[4]int64{k.B, k.BPort, k.A, k.APort}] || !f.Segs[0].Out {
				t.Errorf("%+v: both ends in another flow, or a first segment that does not go Out", k)
			}
			ends[[4]int64{k.A, k.APort, k.B, k.BPort}] = true
			for _, s := range f.Segs {
				if s.Out && (s.T.From != k.APort || s.T.To != k.BPort) || !s.Out && (s.T.From != k.BPort || s.T.To != k.APort) {
					t.Errorf("%+v is in %+v", s, k)
				}
			}
		}
		if segments != 0 {
			t.Errorf("%d packets: %d segments too few", many, segments)
		}
	}
}

func port(from, to int64, data string) impl.Tcp {
	return impl.Tcp{From: from, To: to, Seq: 5, Flags: 16, Data: data}
}

// Promise 6: with one who talks with itself both ends may be the same, or differ by the port alone.
func TestPromise06OneWhoTalksWithItself(t *testing.T) {
	same, there, back := port(7, 7, "same"), port(7, 8, "there"), port(8, 7, "back")
	l := []impl.Packet{rawPacket(1, 3, 3, same), rawPacket(2, 3, 3, there), rawPacket(3, 3, 3, same), rawPacket(4, 3, 3, back), rawPacket(5, 3, 3, there)}
	flowsAre(t, "from the same port and from another one", l, []impl.Flow{
		{Key: impl.Key{A: 3, APort: 7, B: 3, BPort: 7}, Segs: []impl.Seg{{Time: 1, Out: true, T: same}, {Time: 3, Out: true, T: same}}},
		{Key: impl.Key{A: 3, APort: 7, B: 3, BPort: 8}, Segs: []impl.Seg{{Time: 2, Out: true, T: there}, {Time: 4, T: back}, {Time: 5, Out: true, T: there}}},
	})
	flowsAre(t, "the other way first", l[3:], []impl.Flow{
		{Key: impl.Key{A: 3, APort: 8, B: 3, BPort: 7}, Segs: []impl.Seg{{Time: 4, Out: true, T: back}, {Time: 5, T: there}}},
	})
}

// Promise 6: the other way round changes both ends for each other, not the addresses or the ports alone.
func TestPromise06TheOtherWayRound(t *testing.T) {
	key := impl.Key{A: 9, APort: 8, B: 1, BPort: 2}
	there, back := port(8, 2, "there"), port(2, 8, "back")
	l := []impl.Packet{rawPacket(5, 9, 1, there), rawPacket(5, 1, 9, back), rawPacket(4, 1, 9, back), rawPacket(0, 9, 1, there)}
	flowsAre(t, "both ends changed", l, []impl.Flow{
		{Key: key, Segs: []impl.Seg{{Time: 5, Out: true, T: there}, {Time: 5, T: back}, {Time: 4, T: back}, {Time: 0, Out: true, T: there}}},
	})
	l = []impl.Packet{rawPacket(1, 9, 1, there), rawPacket(2, 1, 9, there), rawPacket(3, 9, 1, back), rawPacket(4, 1, 9, back)}
	flowsAre(t, "the addresses or the ports alone", l, []impl.Flow{
		{Key: key, Segs: []impl.Seg{{Time: 1, Out: true, T: there}, {Time: 4, T: back}}},
		{Key: impl.Key{A: 1, APort: 8, B: 9, BPort: 2}, Segs: []impl.Seg{{Time: 2, Out: true, T: there}, {Time: 3, T: back}}},
	})
	var others []impl.Packet
	var want []impl.Flow
	for i, k := range []impl.Key{key, {A: 8, APort: 8, B: 1, BPort: 2}, {A: 9, APort: 9, B: 1, BPort: 2}, {A: 9, APort: 8, B: 2, BPort: 2}, {A: 9, APort: 8, B: 1, BPort: 1}} {
		x := port(k.APort, k.BPort, "")
		others = append(others, rawPacket(int64(i), k.A, k.B, x))
		want = append(want, impl.Flow{Key: k, Segs: []impl.Seg{{Time: int64(i), Out: true, T: x}}})
	}
	flowsAre(t, "one of the four is another", others, want)
}

func TestFlowsInTheOrderOfTheirFirstSegments(t *testing.T) {
	var l []impl.Packet
	var want []impl.Flow
	for i := range int64(30) {
		a := (i*17 + 5) % 31
		x := port(a, 80, "")
		l = append(l, rawPacket(100-i, a, 50, x))
		want = append(want, impl.Flow{Key: impl.Key{A: a, APort: a, B: 50, BPort: 80}, Segs: []impl.Seg{{Time: 100 - i, Out: true, T: x}}})
	}
	for i := range int64(30) {
		k := want[29-i].Key
		x := port(k.BPort, k.APort, "back")
		l = append(l, rawPacket(i, k.B, k.A, x))
		want[29-i].Segs = append(want[29-i].Segs, impl.Seg{Time: i, T: x})
	}
	for range 5 {
		flowsAre(t, "order", l, want)
	}
}

// Packets that can not be taken apart are in no flow, nor do they begin one.
func TestFlowsOfNoise(t *testing.T) {
	x, y := port(7, 8, "x"), port(8, 7, "y")
	good, back := rawPacket(5, 1, 2, x), rawPacket(6, 2, 1, y)
	var noise []impl.Packet
	for _, data := range []string{"", "noise", noughts(400), noughts(500), good.Data[1:], good.Data + noughts(400), good.Data[:len(good.Data)-1]} {
		noise = append(noise, impl.Packet{Time: 5, Data: data})
	}
	noise = append(noise, impl.Packet{Time: -1, Data: back.Data}, impl.Packet{Time: maxTime + 1, Data: back.Data}, impl.Packet{Time: math.MinInt64, Data: back.Data})
	flowsAre(t, "nothing", nil, nil)
	flowsAre(t, "nothing", []impl.Packet{}, nil)
	flowsAre(t, "noise alone", noise, nil)
	want := []impl.Flow{{Key: impl.Key{A: 1, APort: 7, B: 2, BPort: 8}, Segs: []impl.Seg{{Time: 5, Out: true, T: x}, {Time: 6, T: y}}}}
	flowsAre(t, "noise ahead, between and behind", slices.Concat(noise, []impl.Packet{good}, noise, []impl.Packet{back}, noise), want)
}

func TestFlowsOfMany(t *testing.T) {
	x := port(7, 8, "x")
	one := rawPacket(5, 1, 2, x)
	sixty := slices.Repeat([]impl.Packet{one}, 60)
	flowsAre(t, "60", sixty, []impl.Flow{{Key: impl.Key{A: 1, APort: 7, B: 2, BPort: 8}, Segs: slices.Repeat([]impl.Seg{{Time: 5, Out: true, T: x}}, 60)}})
	flowsAre(t, "61", append(sixty, one), nil)
	flowsAre(t, "61 with noise", append(slices.Repeat([]impl.Packet{{Data: "noise"}}, 60), one), nil)
	flowsAre(t, "59 with noise", append(slices.Repeat([]impl.Packet{{Data: "noise"}}, 59), one), []impl.Flow{{Key: impl.Key{A: 1, APort: 7, B: 2, BPort: 8}, Segs: []impl.Seg{{Time: 5, Out: true, T: x}}}})
	flowsAre(t, "1000", slices.Repeat(sixty, 20), nil)
}
