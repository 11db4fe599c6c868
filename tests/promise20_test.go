package tests

import (
	"math"
	"slices"
	"testing"

	"loop.example/g00559/impl"
)

// Promise 20: nothing is written into an argument, nor into the spare room behind it.
func TestPromise20ArgumentsStay(t *testing.T) {
	spare := impl.Packet{Time: 77, Data: "spare"}
	for _, big := range orders {
		for _, time := range []int64{0, wrap + 5, -1} {
			room := []impl.Packet{{Time: time, Data: "abc"}, {Time: 1, Data: "de"}, spare, spare}
			before := slices.Clone(room)
			impl.TraceBytes(room[:2], big)
			if !slices.Equal(room, before) {
				t.Errorf("%v: %v", big, room)
			}
		}
	}
}

// Promise 20: the same arguments give the same answers, whatever was done with those given before.
func TestPromise20SameAnswers(t *testing.T) {
	next := steady(8)
	for _, big := range orders {
		l := somePackets(20, next)
		s := impl.TraceBytes(l, big)
		a, _ := impl.ReadTrace(s)
		for i := range a {
			a[i] = impl.Packet{Time: -5, Data: "other"}
		}
		impl.ReadTrace(s[:len(s)-1])
		impl.ReadBlock(s[1:], big)
		if b, at := impl.ReadTrace(s); at != -1 || !slices.Equal(b, l) {
			t.Errorf("%v: %v at %d", big, b, at)
		}
		if x := impl.TraceBytes(l, big); x != s {
			t.Errorf("%v: %q", big, x)
		}
	}
	for _, n := range []int64{0, 1, 258, wrap - 1, wrap, 1<<48 - 1, -1, math.MaxInt64} {
		if impl.PutBe(n, 6) != impl.PutBe(n, 6) || impl.PutLe(n, 6) != impl.PutLe(n, 6) || impl.SeqAdd(n, 5) != impl.SeqAdd(n, 5) || impl.SeqDiff(n, 5) != impl.SeqDiff(n, 5) || impl.Unwrap(n, 5) != impl.Unwrap(n, 5) {
			t.Error(n)
		}
		s := impl.PutBe(n, 6)
		if impl.GetBe(s) != impl.GetBe(s) || impl.GetLe(s) != impl.GetLe(s) || impl.Sum16(s) != impl.Sum16(s) {
			t.Errorf("%q", s)
		}
	}
}

// Every function answers at every argument and none panics.
func TestNothingPanics(t *testing.T) {
	next := steady(9)
	numbers := append([]int64{-1, 0, 1, 6, 7, wrap - 1, wrap, maxTime, maxTime + 1}, extremes...)
	for _, a := range numbers {
		for _, b := range numbers {
			impl.PutBe(a, b)
			impl.PutLe(a, b)
			impl.SeqAdd(a, b)
			impl.SeqDiff(a, b)
			impl.Unwrap(a, b)
		}
		impl.BlockBytes(impl.Block{Kind: a, Body: "abcd"}, a > 0)
		impl.TraceBytes([]impl.Packet{{Time: a}}, a > 0)
	}
	for _, big := range orders {
		s := impl.TraceBytes(somePackets(3, next), big)
		for range 2000 {
			b := []byte(s)
			for range 1 + next()%4 {
				b[next()%int64(len(b))] = byte(next() >> 40)
			}
			bad := string(b[:next()%int64(len(b)+1)])
			impl.ReadTrace(string(b))
			l, at := impl.ReadTrace(bad)
			if at < -1 || at > int64(len(bad)) || at >= 0 && len(l) != 0 {
				t.Errorf("%d packets at %d", len(l), at)
			}
			impl.ReadBlock(bad, big)
			impl.Sum16(bad)
			impl.GetBe(bad)
			impl.GetLe(bad)
		}
	}
}
