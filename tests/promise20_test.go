package tests

import (
	"math"
	"slices"
	"strings"
	"testing"

	"loop.example/g00559/impl"
)

// Promise 20: nothing is written into an argument, nor into the spare room behind it.
func TestPromise20ArgumentsStay(t *testing.T) {
	spare := impl.Packet{Time: 77, Data: "spare"}
	for _, big := range orders {
		for _, time := range []int64{0, wrap + 5, -1} {
			room := []impl.Packet{{Time: time, Data: "abc"}, {Time: 1, Data: "de"}, spare, spare}
			before := slices.Clone(room)
			impl.TraceBytes(room[:2], big)
			if !slices.Equal(room, before) {
				t.Errorf("%v: %v", big, room)
			}
		}
	}
}

// Promise 20: the ranges of a segment stay, and what is behind them.
func TestPromise20SegmentsStay(t *testing.T) {
	spare := impl.Range{From: 77, To: 78}
	for many := range 5 {
		room := []impl.Range{{From: 9, To: 3}, {From: 1, To: 1}, {From: 4, To: 5}, {From: 6, To: 7}, spare, spare}
		before := slices.Clone(room)
		x := impl.Tcp{From: 1, To: 2, Sacks: room[:many], Data: "abc"}
		impl.TcpOk(x)
		impl.TcpBytes(1, 2, x)
		if !slices.Equal(room, before) {
			t.Errorf("%d: %v", many, room)
		}
	}
}

// Promise 20: the same arguments give the same answers, whatever was done with those given before.
func TestPromise20SameAnswers(t *testing.T) {
	next := steady(8)
	for _, big := range orders {
		l := somePackets(20, next)
		s := impl.TraceBytes(l, big)
		a, _ := impl.ReadTrace(s)
		for i := range a {
			a[i] = impl.Packet{Time: -5, Data: "other"}
		}
		impl.ReadTrace(s[:len(s)-1])
		impl.ReadBlock(s[1:], big)
		if b, at := impl.ReadTrace(s); at != -1 || !slices.Equal(b, l) {
			t.Errorf("%v: %v at %d", big, b, at)
		}
		if x := impl.TraceBytes(l, big); x != s {
			t.Errorf("%v: %q", big, x)
		}
	}
	for _, n := range []int64{0, 1, 258, wrap - 1, wrap, 1<<48 - 1, -1, math.MaxInt64} {
		if impl.PutBe(n, 6) != impl.PutBe(n, 6) || impl.PutLe(n, 6) != impl.PutLe(n, 6) || impl.SeqAdd(n, 5) != impl.SeqAdd(n, 5) || impl.SeqDiff(n, 5) != impl.SeqDiff(n, 5) || impl.Unwrap(n, 5) != impl.Unwrap(n, 5) {
			t.Error(n)
		}
		s := impl.PutBe(n, 6)
		if impl.GetBe(s) != impl.GetBe(s) || impl.GetLe(s) != impl.GetLe(s) || impl.Sum16(s) != impl.Sum16(s) {
			t.Errorf("%q", s)
		}
	}
}

// Promise 20: heads come back the same, though the ranges of an answer are written over.
func TestPromise20SameHeads(t *testing.T) {
	next := steady(16)
	for range 50 {
		x := aTcp(next)
		a, b := next()%wrap, next()%wrap
		s := impl.TcpBytes(a, b, x)
		y, _ := impl.ReadTcp(a, b, s)
		for i := range y.Sacks {
			y.Sacks[i] = impl.Range{From: -1, To: -1}
		}
		impl.ReadTcp(b, a, s[1:])
		if z, ok := impl.ReadTcp(a, b, s); !ok || !sameSegment(x, z) || impl.TcpBytes(a, b, x) != s {
			t.Errorf("%+v %+v", x, z)
		}
		p := anIp(next)
		f := impl.Frame{To: text(6, next), From: text(6, next), Vlan: next()%4097 - 1, Kind: 0x0800, Body: impl.IpBytes(p)}
		head, frame := impl.IpBytes(p), impl.FrameBytes(f)
		impl.ReadIp(head[1:])
		impl.ReadFrame(frame[1:])
		q, _ := impl.ReadIp(head)
		g, _ := impl.ReadFrame(frame)
		if q != p || g != f || impl.IpBytes(p) != head || impl.FrameBytes(f) != frame {
			t.Errorf("%+v %+v", q, g)
		}
	}
}

// Every function answers at every argument and none panics.
func TestNothingPanics(t *testing.T) {
	next := steady(9)
	numbers := append([]int64{-1, 0, 1, 6, 7, wrap - 1, wrap, maxTime, maxTime + 1}, extremes...)
	for _, a := range numbers {
		for _, b := range numbers {
			impl.PutBe(a, b)
			impl.PutLe(a, b)
			impl.SeqAdd(a, b)
			impl.SeqDiff(a, b)
			impl.Unwrap(a, b)
		}
		impl.BlockBytes(impl.Block{Kind: a, Body: "abcd"}, a > 0)
		impl.TraceBytes([]impl.Packet{{Time: a}}, a > 0)
	}
	for _, big := range orders {
		s := impl.TraceBytes(somePackets(3, next), big)
		for range 2000 {
			b := []byte(s)
			for range 1 + next()%4 {
				b[next()%int64(len(b))] = byte(next() >> 40)
			}
			bad := string(b[:next()%int64(len(b)+1)])
			impl.ReadTrace(string(b))
			l, at := impl.ReadTrace(bad)
			if at < -1 || at > int64(len(bad)) || at >= 0 && len(l) != 0 {
				t.Errorf("%d packets at %d", len(l), at)
			}
			impl.ReadBlock(bad, big)
			impl.Sum16(bad)
			impl.GetBe(bad)
			impl.GetLe(bad)
		}
	}
}

// cutAndTurned is s with a few bytes that are others, and often without its end.
func cutAndTurned(s string, next func() int64) string {
	b := []byte(s)
	for range next() % 4 {
		b[next()%int64(len(b))] = byte(next() >> 40)
	}
	if next()%2 == 0 {
		b = b[:next()%int64(len(b)+1)]
	}
	return string(b)
}

// Whatever is read as a head is right; whatever is not is zero.
func TestHeadsOfAnyBytes(t *testing.T) {
	next := steady(17)
	for range 5000 {
		p, x := anIp(next), aTcp(next)
		f := impl.Frame{To: ownAddress, From: otherAddress, Vlan: next()%4097 - 1, Kind: 0x8100 + next()%2, Body: "body"}
		s := cutAndTurned(rawFrame(f), next)
		if f, ok := impl.ReadFrame(s); ok && impl.FrameBytes(f) != s || !ok && f != (impl.Frame{}) {
			t.Errorf("%q: %+v", s, f)
		}
		s = cutAndTurned(rawIp(p, 20+len(p.Body)), next)
		if len(s) >= 20 {
			s = withSum(s[:20]) + s[20:]
		}
		if p, ok := impl.ReadIp(s); ok && (!impl.IpOk(p) || !strings.HasPrefix(s, impl.IpBytes(p))) || !ok && p != (impl.Ip{}) {
			t.Errorf("%q: %+v", s, p)
		}
		s = cutAndTurned(rawTcp(1, 2, x, sackOptions(x.Sacks)), next)
		if len(s) >= 20 {
			s = withSegmentSum(1, 2, s)
		}
		if x, ok := impl.ReadTcp(1, 2, s); ok && !impl.TcpOk(x) || !ok && !sameSegment(x, impl.Tcp{}) {
			t.Errorf("%q: %+v", s, x)
		}
	}
}
