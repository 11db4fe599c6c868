package tests

import (
	"fmt"
	"slices"
	"testing"

	"loop.example/g00559/impl"
)

const maxWin = int64(1000000000)

// A tally has each place from base on by itself: whether it is told to be there.
type tally struct {
	base  int64
	una   int64
	next  int64
	there [700]bool
}

func (y *tally) ack(at int64) {
	y.una = at
	for i := y.base; i <= at; i++ {
		y.there[i-y.base] = false
	}
}

func (y *tally) sack(l []impl.Range) {
	for _, r := range l {
		if r.From <= y.una || r.To > y.next {
			continue
		}
		for i := r.From; i < r.To; i++ {
			y.there[i-y.base] = true
		}
	}
}

func (y *tally) board() impl.Board {
	b := impl.Board{Una: y.una, Next: y.next}
	for i, there := range y.there {
		at := y.base + int64(i)
		if !there {
			continue
		}
		if n := len(b.Sacked); n == 0 || b.Sacked[n-1].To != at {
			b.Sacked = append(b.Sacked, impl.Range{From: at, To: at})
		}
		b.Sacked[len(b.Sacked)-1].To++
	}
	return b
}

// beyond is how many places beyond at are told to be there.
func (y *tally) beyond(at int64) int64 {
	n := int64(0)
	for i, there := range y.there {
		if there && y.base+int64(i) > at {
			n++
		}
	}
	return n
}

func (y *tally) lost(at, mss int64) bool {
	return at >= y.una && at < y.next && !y.there[at-y.base] && y.beyond(at) >= mss+mss+mss
}

func sameBoard(a, b impl.Board) bool {
	return a.Una == b.Una && a.Next == b.Next && slices.Equal(a.Sacked, b.Sacked)
}

func boardIs(t *testing.T, name string, b impl.Board, ok bool, want impl.Board) {
	t.Helper()
	if !ok || !sameBoard(b, want) || !impl.BoardOk(b) {
		t.Errorf("%s: %+v %v, not %+v", name, b, ok, want)
	}
}

func noBoard(t *testing.T, name string, b impl.Board, ok bool) {
	t.Helper()
	if ok || b.Una != 0 || b.Next != 0 || len(b.Sacked) != 0 {
		t.Errorf("%s: %+v %v", name, b, ok)
	}
}

// someRanges has such as are right, such as are empty, and such as are beyond the ends of the tally.
func someRanges(y *tally, many int64, next func() int64) []impl.Range {
	var l []impl.Range
	for range many {
		from := y.una - 3 + next()>>20%(y.next-y.una+6)
		l = append(l, impl.Range{From: from, To: from + next()>>20%20 - 2})
	}
	return l
}

func boardWalks(t *testing.T, base int64, next func() int64) {
	y := tally{base: base, una: base, next: base}
	b := impl.Board{Una: base, Next: base}
	for range 60 {
		was := b
		ok := true
		did := ""
		switch next() >> 20 % 8 {
		case 0:
			at := y.una + next()>>20%(min(y.next-y.una, 20)+1)
			did = fmt.Sprintf("ack %d", at)
			y.ack(at)
			b, ok = impl.BoardAck(b, at)
		case 1, 2:
			n := min(1+next()>>20%20, base+int64(len(y.there))-y.next)
			did = fmt.Sprintf("sent %d", n)
			y.next += n
			b, ok = impl.BoardSent(b, n)
		default:
			l := someRanges(&y, next()>>20%4, next)
			did = fmt.Sprintf("sack %v", l)
			y.sack(l)
			b, ok = impl.BoardSack(b, l)
		}
		if want := y.board(); !ok || !sameBoard(b, want) || !impl.BoardOk(b) {
			t.Fatalf("%+v, %s: %+v %v, not %+v", was, did, b, ok, want)
		}
		if n := impl.Flight(b); n != y.next-y.una-y.beyond(y.una) {
			t.Fatalf("%+v: %d on its way", b, n)
		}
		at := y.una - 2 + next()>>20%(y.next-y.una+4)
		for _, mss := range []int64{1, 2, 1 + next()>>20%10, max(y.beyond(at)/3, 1), y.beyond(at)/3 + 1} {
			if lost := impl.LostAt(b, at, mss); lost != y.lost(at, mss) {
				t.Fatalf("%+v, %d with %d: %v", b, at, mss, lost)
			}
		}
	}
}

// Promise 9: what is sent, acked and told to be there, held against each place by itself.
func TestPromise09PlaceByPlace(t *testing.T) {
	next := steady(32)
	for i := range 400 {
		boardWalks(t, []int64{0, 1, 12345, maxWin - 700}[i%4], next)
	}
}

// Promise 9: what is sent is on its way.
func TestPromise09WhatIsSentIsOnItsWay(t *testing.T) {
	next := steady(33)
	for range 2000 {
		b := aBoard(next)
		n := 1 + next()>>20%1000
		s, ok := impl.BoardSent(b, n)
		boardIs(t, "sent", s, ok, impl.Board{Una: b.Una, Next: b.Next + n, Sacked: b.Sacked})
		if impl.Flight(s) != impl.Flight(b)+n {
			t.Errorf("%+v: %d, with %d more %d", b, impl.Flight(b), n, impl.Flight(s))
		}
	}
}

// Promise 9: what is acked is not on its way any more, and all behind it that was is.
func TestPromise09WhatIsAckedIsNotOnItsWay(t *testing.T) {
	next := steady(34)
	for range 300 {
		b := aBoard(next)
		for ack := b.Una; ack <= b.Next; ack++ {
			want := int64(0)
			for at := ack; at < b.Next; at++ {
				if at == ack || !inRanges(b.Sacked, at) {
					want++
				}
			}
			a, ok := impl.BoardAck(b, ack)
			if !ok || a.Una != ack || a.Next != b.Next || !impl.BoardOk(a) || impl.Flight(a) != want {
				t.Fatalf("%+v acked up to %d: %+v %v, not %d on its way", b, ack, a, ok, want)
			}
			for at := ack + 1; at < b.Next; at++ {
				if inRanges(a.Sacked, at) != inRanges(b.Sacked, at) {
					t.Fatalf("%+v acked up to %d: %+v at %d", b, ack, a, at)
				}
			}
		}
	}
}

// Promise 9: what is told to be there is, and what was told stays told.
func TestPromise09WhatIsToldToBeThereIs(t *testing.T) {
	next := steady(35)
	for range 2000 {
		b := aBoard(next)
		from := b.Una + 1 + next()>>20%(b.Next-b.Una-1)
		r := impl.Range{From: from, To: from + 1 + next()>>20%(b.Next-from)}
		a, ok := impl.BoardSack(b, []impl.Range{r})
		if !ok || a.Una != b.Una || a.Next != b.Next || !impl.BoardOk(a) {
			t.Fatalf("%+v with %v: %+v %v", b, r, a, ok)
		}
		told := int64(0)
		for at := b.Una; at < b.Next; at++ {
			there := inRanges(b.Sacked, at) || inRanges([]impl.Range{r}, at)
			if inRanges(a.Sacked, at) != there {
				t.Fatalf("%+v with %v: %+v at %d", b, r, a, at)
			}
			if there {
				told++
			}
		}
		if impl.Flight(a) != b.Next-b.Una-told {
			t.Errorf("%+v with %v: %d on its way", b, r, impl.Flight(a))
		}
		if again, ok := impl.BoardSack(a, []impl.Range{r}); !ok || !sameBoard(again, a) {
			t.Errorf("%+v with %v again: %+v %v", a, r, again, ok)
		}
	}
}

func inRanges(l []impl.Range, at int64) bool {
	for _, r := range l {
		if at >= r.From && at < r.To {
			return true
		}
	}
	return false
}

// aBoard is a right one, with 2 bytes at least between Una and Next.
func aBoard(next func() int64) impl.Board {
	y := tally{una: next() >> 20 % 30}
	y.next = y.una + 2 + next()>>20%60
	y.sack(someRanges(&y, next()>>20%8, next))
	return y.board()
}

// everyOther has so many ranges of a byte, with a byte between any two, up to Next.
func everyOther(many int64) impl.Board {
	b := impl.Board{Next: 2*many + 1}
	for i := range many {
		b.Sacked = append(b.Sacked, impl.Range{From: 2*i + 2, To: 2*i + 3})
	}
	return b
}

func rightBoards() []impl.Board {
	return []impl.Board{
		{},
		{Sacked: []impl.Range{}},
		{Next: 1},
		{Una: 1, Next: 1},
		{Next: maxWin},
		{Una: maxWin, Next: maxWin},
		{Next: 2, Sacked: []impl.Range{{From: 1, To: 2}}},
		{Next: maxWin, Sacked: []impl.Range{{From: 1, To: maxWin}}},
		{Una: maxWin - 2, Next: maxWin, Sacked: []impl.Range{{From: maxWin - 1, To: maxWin}}},
		{Una: 5, Next: 9, Sacked: []impl.Range{{From: 6, To: 7}, {From: 8, To: 9}}},
		everyOther(40),
	}
}

// wrongBoards: each is a board with one thing that is not right.
func wrongBoards() []impl.Board {
	l := []impl.Board{
		{Una: -1},
		{Una: -1, Next: 9},
		{Una: 2, Next: 1},
		{Una: 1},
		{Next: maxWin + 1},
		{Una: maxWin + 1, Next: maxWin + 1},
		{Una: maxWin + 1, Next: maxWin},
		{Sacked: []impl.Range{{From: 0, To: 1}}},
		{Sacked: []impl.Range{{From: 1, To: 2}}},
		everyOther(41),
		everyOther(2000),
	}
	for _, n := range extremes {
		l = append(l, impl.Board{Una: n, Next: n}, impl.Board{Una: n, Next: 9}, impl.Board{Una: 0, Next: n})
	}
	for _, s := range wrongSacked() {
		l = append(l, impl.Board{Una: 10, Next: 30, Sacked: s})
	}
	return l
}

// wrongSacked: not right where Una is 10 and Next is 30.
func wrongSacked() [][]impl.Range {
	first, last := impl.Range{From: 12, To: 14}, impl.Range{From: 25, To: 28}
	var l [][]impl.Range
	for _, r := range []impl.Range{{From: 16, To: 16}, {From: 17, To: 16}, {From: 14, To: 16}, {From: 13, To: 16}, {From: 20, To: 25}, {From: 20, To: 26}, first, last} {
		l = append(l, []impl.Range{first, r, last})
	}
	for _, r := range []impl.Range{{From: 20, To: 20}, {From: 10, To: 12}, {From: 9, To: 12}, {From: 0, To: 5}, {From: 28, To: 31}, {From: 30, To: 31}, {From: 31, To: 32}, {From: 10, To: 10}, {From: 30, To: 30}} {
		l = append(l, []impl.Range{r})
	}
	for _, n := range extremes {
		l = append(l, []impl.Range{{From: n, To: 20}}, []impl.Range{{From: 20, To: n}}, []impl.Range{{From: n, To: n}}, []impl.Range{first, {From: 20, To: n}, last}, []impl.Range{first, {From: n, To: 20}, last})
	}
	return append(l, []impl.Range{last, first}, []impl.Range{first, last, {From: 16, To: 18}}, []impl.Range{{From: 12, To: 28}, {From: 14, To: 16}})
}

func TestBoardOk(t *testing.T) {
	for _, b := range rightBoards() {
		if !impl.BoardOk(b) || impl.Flight(b) < 0 {
			t.Errorf("%+v: %d", b, impl.Flight(b))
		}
		a, ok := impl.BoardAck(b, b.Una)
		boardIs(t, "acked", a, ok, b)
		a, ok = impl.BoardSack(b, nil)
		boardIs(t, "told nothing", a, ok, b)
		if b.Next < maxWin {
			a, ok = impl.BoardSent(b, 1)
			boardIs(t, "sent", a, ok, impl.Board{Una: b.Una, Next: b.Next + 1, Sacked: b.Sacked})
		}
	}
	for _, b := range wrongBoards() {
		if impl.BoardOk(b) || impl.Flight(b) != -1 || impl.LostAt(b, b.Una, 1) || impl.LostAt(b, 11, 1) {
			t.Errorf("%+v: %d", b, impl.Flight(b))
		}
		for _, n := range []int64{b.Una, b.Next, 1, 20} {
			a, ok := impl.BoardAck(b, n)
			noBoard(t, "acked", a, ok)
			a, ok = impl.BoardSent(b, n)
			noBoard(t, "sent", a, ok)
		}
		for _, l := range [][]impl.Range{nil, {{From: 11, To: 30}}, {{From: 11, To: 29}, {From: 14, To: 16}}} {
			a, ok := impl.BoardSack(b, l)
			noBoard(t, "told", a, ok)
		}
	}
}

func TestBoardSentLimits(t *testing.T) {
	for _, b := range []impl.Board{{}, {Una: 5, Next: 20, Sacked: []impl.Range{{From: 7, To: 20}}}, {Next: maxWin - 1}} {
		for _, n := range []int64{1, maxWin - b.Next - 1, maxWin - b.Next} {
			if n > 0 {
				a, ok := impl.BoardSent(b, n)
				boardIs(t, "sent", a, ok, impl.Board{Una: b.Una, Next: b.Next + n, Sacked: b.Sacked})
			}
		}
		for _, n := range append([]int64{-1, 0, maxWin - b.Next + 1, maxWin + 1}, extremes...) {
			a, ok := impl.BoardSent(b, n)
			noBoard(t, "sent", a, ok)
		}
	}
	for _, una := range []int64{0, maxWin} {
		for _, n := range append([]int64{-1, 0, 1}, extremes...) {
			a, ok := impl.BoardSent(impl.Board{Una: una, Next: maxWin}, n)
			noBoard(t, "all is sent", a, ok)
		}
	}
}

func TestBoardAckKnown(t *testing.T) {
	b := impl.Board{Una: 10, Next: 40, Sacked: []impl.Range{{From: 12, To: 15}, {From: 20, To: 21}, {From: 30, To: 40}}}
	for _, c := range []struct {
		name string
		ack  int64
		want []impl.Range
	}{
		{"at Una", 10, b.Sacked},
		{"ahead of where one begins", 11, b.Sacked},
		{"where one begins", 12, []impl.Range{{From: 13, To: 15}, {From: 20, To: 21}, {From: 30, To: 40}}},
		{"within a range", 13, []impl.Range{{From: 14, To: 15}, {From: 20, To: 21}, {From: 30, To: 40}}},
		{"at the last byte of one", 14, b.Sacked[1:]},
		{"where one ends", 15, b.Sacked[1:]},
		{"between two", 17, b.Sacked[1:]},
		{"ahead of where one of a byte begins", 19, b.Sacked[1:]},
		{"where one of a byte begins", 20, b.Sacked[2:]},
		{"where one of a byte ends", 21, b.Sacked[2:]},
		{"where the last one begins", 30, []impl.Range{{From: 31, To: 40}}},
		{"within the last one", 38, []impl.Range{{From: 39, To: 40}}},
		{"at the last byte", 39, nil},
		{"at Next", 40, nil},
	} {
		a, ok := impl.BoardAck(b, c.ack)
		boardIs(t, c.name, a, ok, impl.Board{Una: c.ack, Next: 40, Sacked: c.want})
	}
	for _, ack := range append([]int64{-1, 0, 9, 41, 42, maxWin}, extremes...) {
		a, ok := impl.BoardAck(b, ack)
		noBoard(t, "ack", a, ok)
	}
	a, ok := impl.BoardAck(impl.Board{}, 0)
	boardIs(t, "nothing is sent", a, ok, impl.Board{})
	a, ok = impl.BoardAck(impl.Board{Next: maxWin, Sacked: []impl.Range{{From: 1, To: maxWin}}}, maxWin)
	boardIs(t, "all is acked", a, ok, impl.Board{Una: maxWin, Next: maxWin})
	a, ok = impl.BoardAck(impl.Board{Next: maxWin, Sacked: []impl.Range{{From: 1, To: maxWin}}}, 0)
	boardIs(t, "all but the first is there", a, ok, impl.Board{Next: maxWin, Sacked: []impl.Range{{From: 1, To: maxWin}}})
}

func TestBoardSackKnown(t *testing.T) {
	b := impl.Board{Una: 10, Next: 40, Sacked: []impl.Range{{From: 14, To: 18}, {From: 24, To: 28}}}
	one, two := b.Sacked[0], b.Sacked[1]
	for _, c := range []struct {
		name string
		l    []impl.Range
		want []impl.Range
	}{
		{"nothing", nil, b.Sacked},
		{"begins at Una", []impl.Range{{From: 10, To: 20}}, b.Sacked},
		{"begins ahead of Una", []impl.Range{{From: 9, To: 20}}, b.Sacked},
		{"ends at Una", []impl.Range{{From: 5, To: 10}}, b.Sacked},
		{"begins just beyond Una", []impl.Range{{From: 11, To: 12}}, []impl.Range{{From: 11, To: 12}, one, two}},
		{"ends at Next", []impl.Range{{From: 39, To: 40}}, []impl.Range{one, two, {From: 39, To: 40}}},
		{"ends beyond Next", []impl.Range{{From: 39, To: 41}}, b.Sacked},
		{"begins at Next", []impl.Range{{From: 40, To: 41}}, b.Sacked},
		{"is empty", []impl.Range{{From: 20, To: 20}}, b.Sacked},
		{"is empty, where one begins", []impl.Range{{From: 14, To: 14}}, b.Sacked},
		{"is empty, where one ends", []impl.Range{{From: 18, To: 18}}, b.Sacked},
		{"ends ahead of where it begins", []impl.Range{{From: 29, To: 13}}, b.Sacked},
		{"all that may be", []impl.Range{{From: 11, To: 40}}, []impl.Range{{From: 11, To: 40}}},
		{"touches from ahead", []impl.Range{{From: 12, To: 14}}, []impl.Range{{From: 12, To: 18}, two}},
		{"touches from behind", []impl.Range{{From: 18, To: 20}}, []impl.Range{{From: 14, To: 20}, two}},
		{"a byte between it and the next one", []impl.Range{{From: 12, To: 13}}, []impl.Range{{From: 12, To: 13}, one, two}},
		{"a byte between it and the one ahead", []impl.Range{{From: 19, To: 20}}, []impl.Range{one, {From: 19, To: 20}, two}},
		{"overlaps from ahead", []impl.Range{{From: 12, To: 15}}, []impl.Range{{From: 12, To: 18}, two}},
		{"overlaps from behind", []impl.Range{{From: 17, To: 20}}, []impl.Range{{From: 14, To: 20}, two}},
		{"lies within", []impl.Range{{From: 15, To: 16}}, b.Sacked},
		{"lies within, at the beginning", []impl.Range{{From: 14, To: 16}}, b.Sacked},
		{"lies within, at the end", []impl.Range{{From: 26, To: 28}}, b.Sacked},
		{"is where one is", []impl.Range{{From: 24, To: 28}}, b.Sacked},
		{"has one within", []impl.Range{{From: 22, To: 30}}, []impl.Range{one, {From: 22, To: 30}}},
		{"meets two", []impl.Range{{From: 18, To: 24}}, []impl.Range{{From: 14, To: 28}}},
		{"overlaps two", []impl.Range{{From: 17, To: 25}}, []impl.Range{{From: 14, To: 28}}},
		{"has two within", []impl.Range{{From: 13, To: 29}}, []impl.Range{{From: 13, To: 29}}},
		{"three", []impl.Range{{From: 34, To: 36}, {From: 12, To: 13}, {From: 20, To: 22}}, []impl.Range{{From: 12, To: 13}, one, {From: 20, To: 22}, two, {From: 34, To: 36}}},
		{"three that touch each other", []impl.Range{{From: 30, To: 32}, {From: 34, To: 36}, {From: 32, To: 34}}, []impl.Range{one, two, {From: 30, To: 36}}},
		{"three of which two may not be", []impl.Range{{From: 8, To: 12}, {From: 28, To: 30}, {From: 36, To: 41}}, []impl.Range{one, {From: 24, To: 30}}},
		{"three that may not be", []impl.Range{{From: 8, To: 40}, {From: 28, To: 28}, {From: 11, To: 41}}, b.Sacked},
	} {
		a, ok := impl.BoardSack(b, c.l)
		boardIs(t, c.name, a, ok, impl.Board{Una: 10, Next: 40, Sacked: c.want})
	}
	for _, n := range extremes {
		for _, r := range []impl.Range{{From: n, To: 20}, {From: 20, To: n}, {From: n, To: n}, {From: n, To: n + 1}} {
			a, ok := impl.BoardSack(b, []impl.Range{r})
			boardIs(t, "far away", a, ok, b)
		}
	}
}

func TestBoardSackMany(t *testing.T) {
	b := impl.Board{Next: 40, Sacked: []impl.Range{{From: 3, To: 5}}}
	for _, r := range []impl.Range{{}, {From: 3, To: 4}, {From: 50, To: 60}, {From: 9, To: 10}} {
		a, ok := impl.BoardSack(b, []impl.Range{r, r, r, r})
		noBoard(t, "four", a, ok)
		a, ok = impl.BoardSack(b, slices.Repeat([]impl.Range{r}, 1000))
		noBoard(t, "1000", a, ok)
	}
	a, ok := impl.BoardSack(impl.Board{}, []impl.Range{{From: 0, To: 1}, {From: 1, To: 2}, {From: 0, To: 0}})
	boardIs(t, "nothing is sent", a, ok, impl.Board{})
	a, ok = impl.BoardSack(impl.Board{Next: maxWin}, []impl.Range{{From: maxWin - 1, To: maxWin}, {From: 1, To: 2}})
	boardIs(t, "the greatest board", a, ok, impl.Board{Next: maxWin, Sacked: []impl.Range{{From: 1, To: 2}, {From: maxWin - 1, To: maxWin}}})
}

// What comes of it is asked behind the last one: two may come to one then.
func TestBoardSackUpToTheMost(t *testing.T) {
	full := everyOther(40)
	full.Next = 200
	further := func(at int64) impl.Range { return impl.Range{From: at, To: at + 1} }
	almost := impl.Board{Next: 200, Sacked: full.Sacked[:39]}
	a, ok := impl.BoardSack(almost, []impl.Range{full.Sacked[39]})
	boardIs(t, "40", a, ok, full)
	a, ok = impl.BoardSack(almost, []impl.Range{full.Sacked[39], further(100)})
	noBoard(t, "41", a, ok)
	a, ok = impl.BoardSack(full, []impl.Range{further(100)})
	noBoard(t, "one beyond 40", a, ok)
	a, ok = impl.BoardSack(full, []impl.Range{further(100), further(102), further(104)})
	noBoard(t, "three beyond 40", a, ok)
	a, ok = impl.BoardSack(full, []impl.Range{further(200), {From: 0, To: 9}, full.Sacked[20]})
	boardIs(t, "none that is new", a, ok, full)
	a, ok = impl.BoardSack(full, []impl.Range{{From: 1, To: 199}})
	boardIs(t, "one of all", a, ok, impl.Board{Next: 200, Sacked: []impl.Range{{From: 1, To: 199}}})
	want := slices.Concat([]impl.Range{{From: 2, To: 5}}, full.Sacked[2:], []impl.Range{further(100)})
	a, ok = impl.BoardSack(full, []impl.Range{further(3), further(100)})
	boardIs(t, "two come to one first", a, ok, impl.Board{Next: 200, Sacked: want})
	a, ok = impl.BoardSack(full, []impl.Range{further(100), further(3)})
	boardIs(t, "two come to one last", a, ok, impl.Board{Next: 200, Sacked: want})
}

func TestFlightKnown(t *testing.T) {
	for _, c := range []struct {
		b    impl.Board
		want int64
	}{
		{impl.Board{}, 0},
		{impl.Board{Next: 20}, 20},
		{impl.Board{Una: 20, Next: 20}, 0},
		{impl.Board{Una: 5, Next: 20}, 15},
		{impl.Board{Next: maxWin}, maxWin},
		{impl.Board{Next: maxWin, Sacked: []impl.Range{{From: 1, To: maxWin}}}, 1},
		{impl.Board{Una: 5, Next: 20, Sacked: []impl.Range{{From: 6, To: 8}, {From: 10, To: 15}}}, 8},
		{everyOther(40), 41},
	} {
		if n := impl.Flight(c.b); n != c.want {
			t.Errorf("%+v: %d, not %d", c.b, n, c.want)
		}
	}
}

func TestLostAtKnown(t *testing.T) {
	b := impl.Board{Una: 10, Next: 60, Sacked: []impl.Range{{From: 20, To: 26}, {From: 30, To: 33}, {From: 50, To: 60}}}
	for _, c := range []struct {
		name    string
		at, mss int64
		want    bool
	}{
		{"at Una, a byte more than three times", 10, 6, true},
		{"at Una, too few", 10, 7, false},
		{"ahead of Una", 9, 1, false},
		{"just ahead of a range", 19, 6, true},
		{"where one begins", 20, 1, false},
		{"within a range", 22, 1, false},
		{"at the last byte of one", 25, 1, false},
		{"where one ends", 26, 4, true},
		{"where one ends, what is ahead is not counted", 26, 5, false},
		{"between two", 29, 4, true},
		{"where the one between ends", 33, 3, true},
		{"just ahead of the last one", 49, 3, true},
		{"just ahead of the last one, too few", 49, 4, false},
		{"in the last one", 55, 1, false},
		{"at the last byte", 59, 1, false},
		{"at Next", 60, 1, false},
		{"beyond Next", 61, 1, false},
	} {
		if lost := impl.LostAt(b, c.at, c.mss); lost != c.want {
			t.Errorf("%s: %v", c.name, lost)
		}
	}
	for _, n := range append([]int64{-1, 0, 10001}, extremes...) {
		if impl.LostAt(b, 10, n) || impl.LostAt(impl.Board{Next: maxWin, Sacked: []impl.Range{{From: 1, To: maxWin}}}, 0, n) {
			t.Errorf("mss %d", n)
		}
		if impl.LostAt(b, n, 1) {
			t.Errorf("at %d", n)
		}
	}
}

// Just three times mss behind a place make it lost, one byte less does not.
func TestLostAtThreeTimes(t *testing.T) {
	for _, mss := range []int64{1, 2, 100, 1460, 9999, 10000} {
		for _, una := range []int64{0, 7, maxWin - 40000} {
			b := impl.Board{Una: una, Next: una + 3*mss + 6, Sacked: []impl.Range{{From: una + 1, To: una + 2}, {From: una + 3, To: una + 3*mss + 2}}}
			less := impl.Board{Una: una, Next: b.Next, Sacked: []impl.Range{b.Sacked[0], {From: una + 4, To: una + 3*mss + 2}}}
			if !impl.LostAt(b, una, mss) || impl.LostAt(b, una+2, mss) || impl.LostAt(less, una, mss) {
				t.Errorf("%d from %d: %v %v %v", mss, una, impl.LostAt(b, una, mss), impl.LostAt(b, una+2, mss), impl.LostAt(less, una, mss))
			}
		}
	}
}
