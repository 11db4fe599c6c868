package tests

import (
	"slices"
	"strings"
	"testing"

	"loop.example/g00559/impl"
)

// A stream is what is known of each place, one by one; a nought is none.
type stream [13000]byte

func streamOf(l []impl.Piece) *stream {
	var s stream
	for _, p := range l {
		copy(s[p.From:], p.Data)
	}
	return &s
}

func (s *stream) add(x impl.Piece) {
	for i := range len(x.Data) {
		if at := x.From + int64(i); s[at] == 0 {
			s[at] = x.Data[i]
		}
	}
}

func (s *stream) pieces() []impl.Piece {
	var l []impl.Piece
	for at, b := range s {
		if b == 0 {
			continue
		}
		if at == 0 || s[at-1] == 0 {
			l = append(l, impl.Piece{From: int64(at)})
		}
		l[len(l)-1].Data += string([]byte{b})
	}
	return l
}

func (s *stream) holes(to int64) []impl.Range {
	var l []impl.Range
	for at := range to {
		if at < int64(len(s)) && s[at] != 0 {
			continue
		}
		if len(l) == 0 || l[len(l)-1].To != at {
			l = append(l, impl.Range{From: at, To: at})
		}
		l[len(l)-1].To++
	}
	return l
}

func (s *stream) known() int64 {
	n := int64(0)
	for _, b := range s {
		if b != 0 {
			n++
		}
	}
	return n
}

func letters(n int, next func() int64) string {
	b := make([]byte, n)
	for i := range b {
		b[i] = byte('a' + next()>>20%26)
	}
	return string(b)
}

func bytesOf(n int) string {
	return strings.Repeat("x", n)
}

// Promise 7: what was known stays, what was not is what is added.
func TestPromise07WhatWasKnownStays(t *testing.T) {
	next := steady(20)
	for _, room := range []int64{20, 60, 300, 5001} {
		for range 12 {
			var l []impl.Piece
			for range 60 {
				x := impl.Piece{From: next() >> 20 % room, Data: letters(1+int(next()>>20%min(room/4, 300)), next)}
				want := streamOf(l)
				want.add(x)
				m, ok := impl.Added(l, x)
				if !ok || !slices.Equal(m, want.pieces()) || !impl.PiecesOk(m) {
					t.Fatalf("%+v and %+v: %+v %v", l, x, m, ok)
				}
				l = m
			}
		}
	}
}

// Promise 7: holes are just what is not known.
func TestPromise07HolesAreWhatIsNotKnown(t *testing.T) {
	next := steady(21)
	for range 100 {
		var s stream
		for range next() >> 20 % 20 {
			s.add(impl.Piece{From: next() >> 20 % 200, Data: letters(1+int(next()>>20%15), next)})
		}
		l := s.pieces()
		if n := impl.Known(l); n != s.known() {
			t.Errorf("%+v: %d known", l, n)
		}
		for to := range int64(230) {
			if h := impl.Holes(l, to); !slices.Equal(h, s.holes(to)) {
				t.Fatalf("%+v up to %d: %v", l, to, h)
			}
		}
	}
}

func TestAddedKnown(t *testing.T) {
	l := []impl.Piece{{From: 2, Data: "cd"}, {From: 6, Data: "gh"}, {From: 10, Data: "kl"}}
	for _, c := range []struct {
		name string
		x    impl.Piece
		want []impl.Piece
	}{
		{"touches from ahead", impl.Piece{From: 1, Data: "X"}, []impl.Piece{{From: 1, Data: "Xcd"}, l[1], l[2]}},
		{"touches from behind", impl.Piece{From: 4, Data: "X"}, []impl.Piece{{From: 2, Data: "cdX"}, l[1], l[2]}},
		{"a byte between it and the next one", impl.Piece{From: 0, Data: "X"}, []impl.Piece{{From: 0, Data: "X"}, l[0], l[1], l[2]}},
		{"a byte between it and the last one", impl.Piece{From: 13, Data: "XY"}, []impl.Piece{l[0], l[1], l[2], {From: 13, Data: "XY"}}},
		{"touches the last one", impl.Piece{From: 12, Data: "XY"}, []impl.Piece{l[0], l[1], {From: 10, Data: "klXY"}}},
		{"overlaps from ahead", impl.Piece{From: 1, Data: "XY"}, []impl.Piece{{From: 1, Data: "Xcd"}, l[1], l[2]}},
		{"overlaps from behind", impl.Piece{From: 3, Data: "XY"}, []impl.Piece{{From: 2, Data: "cdY"}, l[1], l[2]}},
		{"lies within, at the beginning", impl.Piece{From: 2, Data: "X"}, l},
		{"lies within, at the end", impl.Piece{From: 7, Data: "X"}, l},
		{"is where one is", impl.Piece{From: 6, Data: "XY"}, l},
		{"has one within", impl.Piece{From: 5, Data: "WXYZ"}, []impl.Piece{l[0], {From: 5, Data: "WghZ"}, l[2]}},
		{"fills a hole between two", impl.Piece{From: 4, Data: "XY"}, []impl.Piece{{From: 2, Data: "cdXYgh"}, l[2]}},
		{"fills a hole and overlaps both", impl.Piece{From: 3, Data: "WXYZ"}, []impl.Piece{{From: 2, Data: "cdXYgh"}, l[2]}},
		{"fills a hole of which a byte stays ahead", impl.Piece{From: 9, Data: "X"}, []impl.Piece{l[0], l[1], {From: 9, Data: "Xkl"}}},
		{"fills a hole of which a byte stays behind", impl.Piece{From: 8, Data: "X"}, []impl.Piece{l[0], {From: 6, Data: "ghX"}, l[2]}},
		{"fills two holes", impl.Piece{From: 4, Data: "STUVWX"}, []impl.Piece{{From: 2, Data: "cdSTghWXkl"}}},
		{"has all within", impl.Piece{From: 0, Data: "MNOPQRSTUVWXYZ"}, []impl.Piece{{From: 0, Data: "MNcdQRghUVklYZ"}}},
	} {
		if m, ok := impl.Added(l, c.x); !ok || !slices.Equal(m, c.want) {
			t.Errorf("%s: %+v %v, not %+v", c.name, m, ok, c.want)
		}
	}
	between := []impl.Piece{{From: 0, Data: "a"}, {From: 4, Data: "e"}}
	if m, ok := impl.Added(between, impl.Piece{From: 2, Data: "X"}); !ok || !slices.Equal(m, []impl.Piece{between[0], {From: 2, Data: "X"}, between[1]}) {
		t.Errorf("touches none of two: %+v %v", m, ok)
	}
	if m, ok := impl.Added(nil, impl.Piece{From: 7, Data: "X"}); !ok || !slices.Equal(m, []impl.Piece{{From: 7, Data: "X"}}) {
		t.Errorf("the first one: %+v %v", m, ok)
	}
	if m, ok := impl.Added([]impl.Piece{{From: 0, Data: "a\x00c"}}, impl.Piece{From: 1, Data: "\x00\xff\xff"}); !ok || !slices.Equal(m, []impl.Piece{{From: 0, Data: "a\x00c\xff"}}) {
		t.Errorf("a byte that is nought is known too: %+v %v", m, ok)
	}
}

func apart(many int) []impl.Piece {
	l := make([]impl.Piece, many)
	for i := range l {
		l[i] = impl.Piece{From: int64(2 * i), Data: "x"}
	}
	return l
}

func rightPieces() [][]impl.Piece {
	return [][]impl.Piece{
		nil,
		{},
		{{From: 0, Data: "x"}},
		{{From: 6000, Data: "x"}},
		{{From: 0, Data: bytesOf(6000)}},
		{{From: 6000, Data: bytesOf(6000)}},
		{{From: 0, Data: bytesOf(5999)}, {From: 6000, Data: bytesOf(6000)}},
		{{From: 0, Data: "ab"}, {From: 3, Data: "c"}},
		apart(60),
	}
}

// wrongPieces: each is a list with one thing that is not right, alone, ahead of what is right, or behind it.
func wrongPieces() [][]impl.Piece {
	l := [][]impl.Piece{
		{{From: 0, Data: "ab"}, {From: 2, Data: "c"}},
		{{From: 0, Data: "ab"}, {From: 1, Data: "c"}},
		{{From: 0, Data: "ab"}, {From: 0, Data: "ab"}},
		{{From: 3, Data: "ab"}, {From: 0, Data: "c"}},
		{{From: 0, Data: "a"}, {From: 9, Data: "c"}, {From: 5, Data: "b"}},
		{{From: 0, Data: bytesOf(6000)}, {From: 6000, Data: "x"}},
		apart(61),
		apart(2000),
	}
	for _, p := range []impl.Piece{{From: 20}, {From: 20, Data: bytesOf(6001)}, {From: 20, Data: bytesOf(70000)}} {
		l = append(l, []impl.Piece{p}, []impl.Piece{{From: 0, Data: "a"}, p}, []impl.Piece{p, {From: 6000, Data: "a"}})
	}
	for _, from := range append([]int64{-1, 6001}, extremes...) {
		l = append(l, []impl.Piece{{From: from, Data: "a"}}, []impl.Piece{{From: 5, Data: "a"}, {From: from, Data: "a"}}, []impl.Piece{{From: from, Data: "a"}, {From: 5, Data: "a"}})
	}
	return l
}

func TestPiecesOk(t *testing.T) {
	for i, l := range rightPieces() {
		s := streamOf(l)
		if !impl.PiecesOk(l) || impl.Known(l) != s.known() || !slices.Equal(impl.Holes(l, 20000), s.holes(20000)) {
			t.Errorf("right %d: %d known", i, impl.Known(l))
		}
		if m, ok := impl.Added(l, impl.Piece{From: 0, Data: "x"}); !ok || len(m) == 0 {
			t.Errorf("right %d: %d %v", i, len(m), ok)
		}
	}
	for i, l := range wrongPieces() {
		if impl.PiecesOk(l) || impl.Prefix(l) != "" || impl.Known(l) != 0 || len(impl.Holes(l, 9)) != 0 {
			t.Errorf("wrong %d: %d pieces", i, len(l))
		}
		for _, x := range []impl.Piece{{From: 4000, Data: "x"}, {From: 0, Data: bytesOf(300)}} {
			if m, ok := impl.Added(l, x); ok || len(m) != 0 {
				t.Errorf("wrong %d: %d %v", i, len(m), ok)
			}
		}
	}
}

func addedIs(t *testing.T, name string, l []impl.Piece, x impl.Piece, pieces int) {
	t.Helper()
	want := streamOf(l)
	want.add(x)
	m, ok := impl.Added(l, x)
	if !ok || len(m) != pieces || !slices.Equal(m, want.pieces()) {
		t.Errorf("%s: %d pieces %v", name, len(m), ok)
	}
}

func notAdded(t *testing.T, name string, l []impl.Piece, x impl.Piece) {
	t.Helper()
	if m, ok := impl.Added(l, x); ok || len(m) != 0 {
		t.Errorf("%s: %d pieces %v", name, len(m), ok)
	}
}

func TestAddedLimits(t *testing.T) {
	for _, l := range [][]impl.Piece{nil, {{From: 5998, Data: "x"}}} {
		addedIs(t, "From 0", l, impl.Piece{From: 0, Data: "x"}, len(l)+1)
		addedIs(t, "From 5000", l, impl.Piece{From: 5000, Data: "x"}, len(l)+1)
		addedIs(t, "300 bytes", l, impl.Piece{From: 0, Data: bytesOf(300)}, len(l)+1)
		addedIs(t, "300 bytes From 5000", l, impl.Piece{From: 5000, Data: bytesOf(300)}, len(l)+1)
		for _, from := range append([]int64{-1, 5001, 6000, 6001}, extremes...) {
			notAdded(t, "From", l, impl.Piece{From: from, Data: "x"})
			notAdded(t, "From", l, impl.Piece{From: from, Data: bytesOf(300)})
		}
		for _, n := range []int{0, 301, 302, 6000, 70000} {
			notAdded(t, "bytes", l, impl.Piece{From: 0, Data: bytesOf(n)})
			notAdded(t, "bytes", l, impl.Piece{From: 5000, Data: bytesOf(n)})
		}
	}
	// What lies within what is known is refused as well.
	known := []impl.Piece{{From: 0, Data: bytesOf(6000)}}
	notAdded(t, "From", known, impl.Piece{From: 5001, Data: "x"})
	notAdded(t, "bytes", known, impl.Piece{From: 0, Data: bytesOf(301)})
	notAdded(t, "bytes", known, impl.Piece{From: 0})
}

func TestAddedManyPieces(t *testing.T) {
	addedIs(t, "the 60th", apart(59), impl.Piece{From: 4000, Data: "x"}, 60)
	notAdded(t, "the 61st", apart(60), impl.Piece{From: 4000, Data: "x"})
	notAdded(t, "the 61st, a byte behind the last one", apart(60), impl.Piece{From: 120, Data: "x"})
	addedIs(t, "60 stay 60 with one that touches", apart(60), impl.Piece{From: 119, Data: "x"}, 60)
	addedIs(t, "60 stay 60 with one within", apart(60), impl.Piece{From: 118, Data: "y"}, 60)
	addedIs(t, "60 with a hole that is filled", apart(60), impl.Piece{From: 1, Data: "y"}, 59)
	addedIs(t, "60 of which one is made", apart(60), impl.Piece{From: 0, Data: strings.Repeat("y", 300)}, 1)
}

func TestAddedLongPieces(t *testing.T) {
	long := []impl.Piece{{From: 0, Data: bytesOf(6000)}}
	addedIs(t, "within 6000 bytes", long, impl.Piece{From: 5000, Data: strings.Repeat("y", 300)}, 1)
	two := []impl.Piece{{From: 0, Data: bytesOf(5000)}, {From: 5200, Data: bytesOf(800)}}
	addedIs(t, "6000 bytes", two, impl.Piece{From: 5000, Data: bytesOf(200)}, 1)
	addedIs(t, "the hole is not filled", two, impl.Piece{From: 5000, Data: bytesOf(199)}, 2)
	two[1].Data = bytesOf(801)
	notAdded(t, "6001 bytes", two, impl.Piece{From: 5000, Data: bytesOf(200)})
	addedIs(t, "the hole is not filled", two, impl.Piece{From: 5000, Data: bytesOf(199)}, 2)
	notAdded(t, "a byte ahead of 6000", []impl.Piece{{From: 1, Data: bytesOf(6000)}}, impl.Piece{From: 0, Data: "x"})
	addedIs(t, "a byte ahead of 5999", []impl.Piece{{From: 1, Data: bytesOf(5999)}}, impl.Piece{From: 0, Data: "x"}, 1)
	far := []impl.Piece{{From: 5001, Data: bytesOf(5999)}}
	addedIs(t, "up to beyond 6000", far, impl.Piece{From: 5000, Data: bytesOf(300)}, 1)
	notAdded(t, "two bytes ahead of 5999", far, impl.Piece{From: 4999, Data: bytesOf(3)})
}

func TestPrefix(t *testing.T) {
	for _, c := range []struct {
		l    []impl.Piece
		want string
	}{
		{nil, ""},
		{[]impl.Piece{{From: 0, Data: "abc"}}, "abc"},
		{[]impl.Piece{{From: 0, Data: "a"}, {From: 2, Data: "c"}}, "a"},
		{[]impl.Piece{{From: 1, Data: "b"}}, ""},
		{[]impl.Piece{{From: 1, Data: "b"}, {From: 3, Data: "d"}}, ""},
		{[]impl.Piece{{From: 0, Data: bytesOf(6000)}, {From: 6000, Data: "x"}}, ""},
		{[]impl.Piece{{From: 0, Data: bytesOf(5999)}, {From: 6000, Data: "x"}}, bytesOf(5999)},
	} {
		if s := impl.Prefix(c.l); s != c.want {
			t.Errorf("%d pieces: %d bytes, not %d", len(c.l), len(s), len(c.want))
		}
	}
}

func TestHolesKnown(t *testing.T) {
	first := []impl.Piece{{From: 0, Data: "ab"}, {From: 5, Data: "f"}}
	later := []impl.Piece{{From: 3, Data: "de"}}
	whole := []impl.Piece{{From: 0, Data: "abcdef"}}
	for _, c := range []struct {
		name string
		l    []impl.Piece
		to   int64
		want []impl.Range
	}{
		{"none known", nil, 5, []impl.Range{{From: 0, To: 5}}},
		{"none known, up to 1", nil, 1, []impl.Range{{From: 0, To: 1}}},
		{"none known, up to 0", nil, 0, nil},
		{"all known", whole, 6, nil},
		{"all known and more", whole, 5, nil},
		{"all but one", whole, 7, []impl.Range{{From: 6, To: 7}}},
		{"a hole at the beginning", later, 5, []impl.Range{{From: 0, To: 3}}},
		{"a hole at the beginning and one at the end", later, 6, []impl.Range{{From: 0, To: 3}, {From: 5, To: 6}}},
		{"a part of the first hole", later, 2, []impl.Range{{From: 0, To: 2}}},
		{"just the first hole", later, 3, []impl.Range{{From: 0, To: 3}}},
		{"up to within a piece", later, 4, []impl.Range{{From: 0, To: 3}}},
		{"a hole between", first, 6, []impl.Range{{From: 2, To: 5}}},
		{"a part of the hole between", first, 4, []impl.Range{{From: 2, To: 4}}},
		{"up to the hole between", first, 2, nil},
		{"up to 0", first, 0, nil},
		{"up to 20000", first, 20000, []impl.Range{{From: 2, To: 5}, {From: 6, To: 20000}}},
		{"none known up to 20000", nil, 20000, []impl.Range{{From: 0, To: 20000}}},
		{"up to 20001", first, 20001, nil},
		{"up to below 0", first, -1, nil},
		{"none known up to 20001", nil, 20001, nil},
	} {
		if h := impl.Holes(c.l, c.to); !slices.Equal(h, c.want) {
			t.Errorf("%s: %v, not %v", c.name, h, c.want)
		}
	}
	for _, to := range extremes {
		if h := impl.Holes(nil, to); len(h) != 0 {
			t.Errorf("%d: %v", to, h)
		}
	}
	farthest := []impl.Piece{{From: 6000, Data: bytesOf(6000)}}
	if h := impl.Holes(farthest, 12001); !slices.Equal(h, []impl.Range{{From: 0, To: 6000}, {From: 12000, To: 12001}}) {
		t.Errorf("%v", h)
	}
}
