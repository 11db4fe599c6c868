package tests

import (
	"slices"
	"strings"
	"testing"

	"loop.example/g00559/impl"
)

// more is a fragment behind which there are more.
func more(from int64, data string) impl.Frag {
	return impl.Frag{From: from, More: true, Data: data}
}

func last(from int64, data string) impl.Frag {
	return impl.Frag{From: from, Data: data}
}

// farFrom are numbers that are no From, among them those of which eight times is 0, or little, when it wraps.
func farFrom() []int64 {
	return append([]int64{-1, -8, 601, 608, 4800, 4808, 1 << 61, 1<<61 + 1, -1 << 61, 1<<62 + 2}, extremes...)
}

func rightFrags() []impl.Frag {
	var l []impl.Frag
	for _, from := range []int64{0, 1, 2, 3, 7, 8, 9, 15, 16, 299, 300, 301, 599, 600} {
		for _, n := range []int{1, 2, 7, 8, 9, 15, 16, 295, 296, 297, 299, 300} {
			l = append(l, last(from, bytesOf(n)))
		}
		for n := 8; n <= 296; n += 8 {
			l = append(l, more(from, bytesOf(n)))
		}
	}
	return append(l, last(0, "\x00"), more(0, noughts(8)), more(600, "\xff\xfe\xfd\xfc\xfb\xfa\xf9\x00"))
}

// wrongFrags: each is wrong by one thing.
func wrongFrags() []impl.Frag {
	l := []impl.Frag{{}, {More: true}, last(600, ""), more(600, ""), last(0, bytesOf(301)), last(600, bytesOf(301)), last(0, bytesOf(302)), last(0, bytesOf(304)), last(0, bytesOf(70000)), more(0, bytesOf(304)), more(0, bytesOf(800))}
	for n := range 301 {
		if n%8 != 0 {
			l = append(l, more(0, bytesOf(n)))
		}
	}
	for _, from := range farFrom() {
		l = append(l, last(from, "a"), last(from, bytesOf(300)), more(from, bytesOf(8)), more(from, bytesOf(296)))
	}
	return l
}

func TestFragOk(t *testing.T) {
	for _, f := range rightFrags() {
		if !impl.FragOk(f) || !fragRight(f) {
			t.Errorf("%+v", f)
		}
	}
	for _, f := range wrongFrags() {
		if impl.FragOk(f) || fragRight(f) {
			t.Errorf("%d, %v and %d bytes", f.From, f.More, len(f.Data))
		}
	}
}

func fragRight(f impl.Frag) bool {
	if f.From < 0 || f.From >= 601 || f.Data == "" || len(f.Data) >= 301 {
		return false
	}
	return !f.More || len(f.Data)&7 == 0
}

// wantFrags cuts one off as long as there is more than size.
func wantFrags(body string, size int64) ([]impl.Frag, bool) {
	if body == "" || len(body) > 1000 || size < 8 || size > 296 || size&7 != 0 {
		return nil, false
	}
	var l []impl.Frag
	from := int64(0)
	for int64(len(body)) > size {
		l = append(l, more(from, body[:size]))
		body = body[size:]
		from += size / 8
	}
	l = append(l, last(from, body))
	if len(l) > 60 {
		return nil, false
	}
	return l, true
}

// fragsAre asks for the fragments of body, and whether there are any.
func fragsAre(t *testing.T, name string, body string, size int64) []impl.Frag {
	t.Helper()
	want, has := wantFrags(body, size)
	l, ok := impl.FragsOf(body, size)
	if ok != has || !slices.Equal(l, want) {
		t.Errorf("%s: %d bytes by %d: %+v %v, not %+v %v", name, len(body), size, l, ok, want, has)
	}
	for _, f := range l {
		if !impl.FragOk(f) {
			t.Errorf("%s: %d bytes by %d: %+v is not right", name, len(body), size, f)
		}
	}
	return l
}

func noFrags(t *testing.T, name string, body string, size int64) {
	t.Helper()
	if l := fragsAre(t, name, body, size); len(l) != 0 {
		t.Errorf("%s: %d bytes by %d: %d fragments", name, len(body), size, len(l))
	}
}

func manyFrags(t *testing.T, name string, body string, size int64, many int) {
	t.Helper()
	if l := fragsAre(t, name, body, size); len(l) != many {
		t.Errorf("%s: %d bytes by %d: %d fragments, not %d", name, len(body), size, len(l), many)
	}
}

// heard is what is known of each place, one by one.
type heard map[int64]byte

func (h heard) add(f impl.Frag) {
	for i := range len(f.Data) {
		at := 8*f.From + int64(i)
		if _, has := h[at]; !has {
			h[at] = f.Data[i]
		}
	}
}

func (h heard) runs() int {
	many := 0
	for at := range h {
		if _, has := h[at-1]; !has {
			many++
		}
	}
	return many
}

// wantWhole puts fragments together byte by byte.
func wantWhole(l []impl.Frag) (string, bool) {
	if len(l) > 200 || slices.ContainsFunc(l, func(f impl.Frag) bool { return !fragRight(f) }) {
		return "", false
	}
	h := heard{}
	var ends []int64
	for _, f := range l {
		h.add(f)
		if h.runs() > 60 {
			return "", false
		}
		if !f.More {
			ends = append(ends, 8*f.From+int64(len(f.Data)))
		}
	}
	if len(ends) == 0 || slices.Min(ends) != slices.Max(ends) || int64(len(h)) != ends[0] {
		return "", false
	}
	whole := make([]byte, ends[0])
	for at, b := range h {
		if at >= ends[0] {
			return "", false
		}
		whole[at] = b
	}
	return string(whole), true
}

func wholeIs(t *testing.T, name string, want string, l ...impl.Frag) {
	t.Helper()
	if s, ok := impl.Whole(l); !ok || s != want {
		t.Errorf("%s: %q %v, not %q", name, s, ok, want)
	}
	if s, ok := wantWhole(l); !ok || s != want {
		t.Errorf("%s: wanted is %q %v, not %q", name, s, ok, want)
	}
}

func notWhole(t *testing.T, name string, l ...impl.Frag) {
	t.Helper()
	if s, ok := impl.Whole(l); ok || s != "" {
		t.Errorf("%s: %q %v", name, s, ok)
	}
	if s, ok := wantWhole(l); ok {
		t.Errorf("%s: wanted is %q", name, s)
	}
}

func mixed(l []impl.Frag, next func() int64) []impl.Frag {
	l = slices.Clone(l)
	for i := range l {
		j := i + int(next()>>20%int64(len(l)-i))
		l[i], l[j] = l[j], l[i]
	}
	return l
}

func turnedRound(l []impl.Frag) []impl.Frag {
	l = slices.Clone(l)
	slices.Reverse(l)
	return l
}

// comesBackFromFrags asks for the body in some orders, and for nothing without any one of them.
func comesBackFromFrags(t *testing.T, body string, size int64, next func() int64) {
	t.Helper()
	l := fragsAre(t, "cut", body, size)
	if len(l) == 0 {
		t.Errorf("%d bytes by %d: none", len(body), size)
	}
	twice := slices.Concat(l, l)
	for i, x := range [][]impl.Frag{l, turnedRound(l), mixed(l, next), twice, mixed(twice, next), slices.Concat(l, turnedRound(l))} {
		if s, ok := impl.Whole(x); !ok || s != body {
			t.Errorf("%d bytes by %d, order %d: %q %v", len(body), size, i, s, ok)
		}
	}
	for i := range l {
		without := slices.Delete(slices.Clone(l), i, i+1)
		for _, x := range [][]impl.Frag{without, turnedRound(without), mixed(without, next), mixed(slices.Concat(without, without), next)} {
			if s, ok := impl.Whole(x); ok || s != "" {
				t.Errorf("%d bytes by %d, without %d: %q %v", len(body), size, i, s, ok)
			}
		}
	}
}

// Promise 18: what was cut into fragments comes back from them, in whatever order; without one of them nothing does.
func TestPromise18WhatWasCutComesBack(t *testing.T) {
	next := steady(110)
	for size := int64(8); size <= 296; size += 8 {
		most := int(min(1000, 60*size))
		for _, n := range []int{1, 2, 7, 8, 9, int(size) - 1, int(size), int(size) + 1, 2*int(size) - 1, 2 * int(size), 2*int(size) + 1, 480, most - 1, most} {
			comesBackFromFrags(t, text(n, next), size, next)
		}
		for range 8 {
			comesBackFromFrags(t, letters(1+int(next()>>20%int64(most)), next), size, next)
		}
	}
	comesBackFromFrags(t, noughts(480), 8, next)
	comesBackFromFrags(t, bytesOf(1000), 296, next)
}

// Promise 18: each order of a few, each of them once and twice.
func TestPromise18EachOrder(t *testing.T) {
	body := "abcdefghijklmnopqrstuvwxyz0123456789ABCD!"
	l := fragsAre(t, "five and one more", body, 8)
	var orders func(ahead, rest []impl.Frag)
	many := 0
	orders = func(ahead, rest []impl.Frag) {
		if len(rest) == 0 {
			many++
			wholeIs(t, "an order", body, ahead...)
			wholeIs(t, "an order and its first again", body, append(slices.Clip(ahead), ahead[0])...)
			notWhole(t, "all but the last of an order", ahead[:5]...)
			return
		}
		for i := range rest {
			orders(append(slices.Clip(ahead), rest[i]), slices.Concat(rest[:i], rest[i+1:]))
		}
	}
	orders(nil, l)
	if many != 720 {
		t.Errorf("%d orders", many)
	}
}

func TestFragsOfKnown(t *testing.T) {
	for _, c := range []struct {
		body string
		size int64
		want []impl.Frag
	}{
		{"a", 8, []impl.Frag{last(0, "a")}},
		{"a", 296, []impl.Frag{last(0, "a")}},
		{"abcdefg", 8, []impl.Frag{last(0, "abcdefg")}},
		{"abcdefgh", 8, []impl.Frag{last(0, "abcdefgh")}},
		{"abcdefghi", 8, []impl.Frag{more(0, "abcdefgh"), last(1, "i")}},
		{"abcdefghijklmnop", 8, []impl.Frag{more(0, "abcdefgh"), last(1, "ijklmnop")}},
		{"abcdefghijklmnop", 16, []impl.Frag{last(0, "abcdefghijklmnop")}},
		{"abcdefghijklmnopq", 16, []impl.Frag{more(0, "abcdefghijklmnop"), last(2, "q")}},
		{bytesOf(600) + "yz", 296, []impl.Frag{more(0, bytesOf(296)), more(37, bytesOf(296)), last(74, bytesOf(8)+"yz")}},
		{"\x00\xff\x00\xff\x00\xff\x00\xff\x00", 8, []impl.Frag{more(0, "\x00\xff\x00\xff\x00\xff\x00\xff"), last(1, "\x00")}},
	} {
		if l := fragsAre(t, "known", c.body, c.size); !slices.Equal(l, c.want) {
			t.Errorf("%q by %d: %+v, not %+v", c.body, c.size, l, c.want)
		}
	}
}

func TestFragsOfLimits(t *testing.T) {
	for _, size := range []int64{8, 16, 24, 288, 296} {
		noFrags(t, "no byte", "", size)
		manyFrags(t, "a byte", "x", size, 1)
		manyFrags(t, "just once the size", bytesOf(int(size)), size, 1)
		manyFrags(t, "one more", bytesOf(int(size)+1), size, 2)
		manyFrags(t, "just twice the size", bytesOf(2*int(size)), size, 2)
		manyFrags(t, "just three times the size", bytesOf(3*int(size)), size, 3)
		noFrags(t, "1001 bytes", bytesOf(1001), size)
		noFrags(t, "70000 bytes", bytesOf(70000), size)
	}
	manyFrags(t, "1000 bytes", bytesOf(1000), 296, 4)
	manyFrags(t, "1000 bytes, just some times the size", bytesOf(1000), 200, 5)
	manyFrags(t, "1000 bytes, just 25 times the size", bytesOf(1000), 40, 25)
	manyFrags(t, "59 fragments", bytesOf(472), 8, 59)
	manyFrags(t, "60 fragments, the last one a byte", bytesOf(473), 8, 60)
	manyFrags(t, "60 fragments", bytesOf(480), 8, 60)
	noFrags(t, "61 fragments, the last one a byte", bytesOf(481), 8)
	noFrags(t, "61 fragments", bytesOf(488), 8)
	noFrags(t, "125 fragments", bytesOf(1000), 8)
	manyFrags(t, "60 fragments by 16", bytesOf(960), 16, 60)
	noFrags(t, "61 fragments by 16", bytesOf(961), 16)
	noFrags(t, "63 fragments by 16", bytesOf(1000), 16)
	manyFrags(t, "42 fragments by 24", bytesOf(1000), 24, 42)
	for _, body := range []string{"x", bytesOf(8), bytesOf(20), bytesOf(480)} {
		for size := int64(-16); size <= 320; size++ {
			fragsAre(t, "sizes", body, size)
		}
		for _, size := range append([]int64{0, 7, 9, 12, 295, 297, 304, -8, 1000, 1 << 61, -1 << 61}, extremes...) {
			noFrags(t, "size", body, size)
		}
	}
}

func TestWholeOrders(t *testing.T) {
	a, b, c := more(0, "abcdefgh"), more(1, "ijklmnop"), last(2, "qrst")
	body := "abcdefghijklmnopqrst"
	wholeIs(t, "as cut", body, a, b, c)
	wholeIs(t, "the other way round", body, c, b, a)
	wholeIs(t, "each twice", body, a, a, b, b, c, c)
	wholeIs(t, "all of them twice", body, a, b, c, a, b, c)
	wholeIs(t, "one alone", "x", last(0, "x"))
	wholeIs(t, "one alone, twice", "x", last(0, "x"), last(0, "x"))
	wholeIs(t, "one alone of 300 bytes", bytesOf(300), last(0, bytesOf(300)))
	notWhole(t, "none")
	notWhole(t, "none without More", a, b)
	notWhole(t, "one with More", a)
	notWhole(t, "a hole", a, c)
	notWhole(t, "the first is missing", b, c)
	notWhole(t, "the last alone", c)
	notWhole(t, "a hole of one byte", last(0, "abcdefg"), last(1, "ijklmnop"), a)
	notWhole(t, "a hole of eight bytes at the first", more(1, "ijklmnop"), last(2, "q"), last(2, "q"))
}

func TestWholeOverlaps(t *testing.T) {
	a, b, c := more(0, "abcdefgh"), more(1, "ijklmnop"), last(2, "qrst")
	long := more(0, "abcdefghijklmnop")
	body := "abcdefghijklmnopqrst"
	wholeIs(t, "the same bytes", body, long, a, b, c)
	wholeIs(t, "the same bytes behind others", body, a, c, long, b)
	wholeIs(t, "the same bytes, instead of two", body, c, long)
	wholeIs(t, "other bytes, the last", body, a, b, c, more(0, "XXXXXXXX"))
	wholeIs(t, "other bytes, the first", "XXXXXXXXijklmnopqrst", more(0, "XXXXXXXX"), a, b, c)
	wholeIs(t, "other bytes in the midst", body, a, more(0, "XXXXXXXX"), b, c)
	wholeIs(t, "other bytes around those that are known", "XXXXXXXXijklmnopXXXX", b, last(0, strings.Repeat("X", 20)))
	wholeIs(t, "other bytes, half of them known", "abcdefghXXXXXXXXqrst", a, more(0, strings.Repeat("X", 16)), c, b)
	wholeIs(t, "other bytes of the last one", body, a, b, c, last(2, "XXXX"))
	wholeIs(t, "other bytes of the last one, ahead of it", "abcdefghijklmnopXXXX", a, b, last(2, "XXXX"), c)
	wholeIs(t, "one with More that is otherwise alike", "abcdefgh", a, last(0, "abcdefgh"))
	wholeIs(t, "one with More and other bytes ahead of it", "XXXXXXXX", more(0, "XXXXXXXX"), last(0, "abcdefgh"))
	wholeIs(t, "noughts are bytes, too", noughts(8)+"abcd", more(0, noughts(8)), last(0, "XXXXXXXXabcd"))
}

func TestWholeEnds(t *testing.T) {
	a, b, c := more(0, "abcdefgh"), more(1, "ijklmnop"), last(2, "qrst")
	wholeIs(t, "two that end at the same place", "abcdefghijklmnopqrst", a, c, last(1, "ijklmnopqrst"))
	wholeIs(t, "three that end at the same place", "abcdefghijklmnopqrst", last(0, "abcdefghijklmnopqrst"), c, last(1, "XXXXXXXXXXXX"))
	notWhole(t, "ends at different places, the first is less", last(1, "short"), a, b, c)
	notWhole(t, "ends at different places, the last is less", a, b, c, last(1, "short"))
	notWhole(t, "ends at different places, one byte less", a, b, c, last(2, "qrs"))
	notWhole(t, "ends at different places, one byte more", a, b, last(2, "qrstu"), c)
	notWhole(t, "the same bytes at different places", a, b, c, last(3, "qrst"))
	notWhole(t, "two different ends, then the first again", a, b, c, last(2, "qrs"), c)
	notWhole(t, "more that begins at the end", last(0, "abcdefgh"), b)
	notWhole(t, "more that begins ahead of the end, beyond it", a, last(1, "ijk"), b)
	notWhole(t, "more that begins at the first, beyond the end", last(0, "abcdefghi"), more(0, "abcdefghijklmnop"))
	notWhole(t, "more beyond the end, with a hole", a, b, c, more(5, "abcdefgh"))
	notWhole(t, "more beyond the end, told first", more(600, "abcdefgh"), a, b, c)
	notWhole(t, "a hole, and as many bytes beyond the end", a, c, more(3, "ijklmnop"))
	wholeIs(t, "more that ends just at the end", "abcdefghijklmnop", a, b, last(0, "abcdefghijklmnop"))
	wholeIs(t, "more that ends just at the end, ahead of it", "abcdefghijklmnop", b, last(1, "XXXXXXXX"), a)
}

// fullOf are fragments as far apart as may be, and the greatest whole there is.
func fullOf() ([]impl.Frag, string) {
	var l []impl.Frag
	for from := int64(0); from < 600; from += 37 {
		l = append(l, more(from, bytesOf(296)))
	}
	return append(l, last(600, strings.Repeat("y", 300))), bytesOf(5032) + strings.Repeat("y", 68)
}

func TestWholeOfManyBytes(t *testing.T) {
	l, body := fullOf()
	next := steady(111)
	wholeIs(t, "5100 bytes", body, l...)
	wholeIs(t, "5100 bytes, all of the last one first", bytesOf(4800)+strings.Repeat("y", 300), turnedRound(l)...)
	if s, ok := impl.Whole(mixed(l, next)); !ok || len(s) != 5100 {
		t.Errorf("%d bytes %v", len(s), ok)
	}
	for i := range l[:16] {
		notWhole(t, "without one", slices.Delete(slices.Clone(l), i, i+1)...)
	}
	wholeIs(t, "without one that others have", bytesOf(4800)+strings.Repeat("y", 300), slices.Concat(l[:15], []impl.Frag{more(540, bytesOf(296)), more(560, bytesOf(296)), more(567, bytesOf(264)), l[17]})...)
}

func TestWholeManyFrags(t *testing.T) {
	a, c := more(0, "abcdefgh"), last(1, "ij")
	wholeIs(t, "200 fragments", "abcdefghij", append(slices.Repeat([]impl.Frag{a}, 199), c)...)
	notWhole(t, "201 fragments", append(slices.Repeat([]impl.Frag{a}, 200), c)...)
	wholeIs(t, "200 fragments, the last first", "abcdefghij", append([]impl.Frag{c}, slices.Repeat([]impl.Frag{a}, 199)...)...)
	notWhole(t, "201 fragments, the last first", append([]impl.Frag{c}, slices.Repeat([]impl.Frag{a}, 200)...)...)
	notWhole(t, "201 alike", slices.Repeat([]impl.Frag{last(0, "a")}, 201)...)
	wholeIs(t, "200 alike", "a", slices.Repeat([]impl.Frag{last(0, "a")}, 200)...)
	var unlike []impl.Frag
	for i := range int64(200) {
		unlike = append(unlike, more(i, "abcdefgh"))
	}
	body := strings.Repeat("abcdefgh", 199) + "z"
	wholeIs(t, "200 that differ", body, append(slices.Clip(unlike[:199]), last(199, "z"))...)
	notWhole(t, "201 that differ", append(slices.Clip(unlike), last(200, "z"))...)
	notWhole(t, "201, the last of which tells nothing more", append(slices.Clip(unlike[:199]), last(199, "z"), a)...)
}

// everyOtherFrag has a hole of eight bytes behind each.
func everyOtherFrag(many int64) []impl.Frag {
	var l []impl.Frag
	for i := range many {
		l = append(l, more(2*i, "abcdefgh"))
	}
	return l
}

// There are no more than 60 pieces at any time, whatever comes of them.
func TestWholeManyPieces(t *testing.T) {
	var holes []impl.Frag
	for i := range int64(60) {
		holes = append(holes, more(2*i+1, "ijklmnop"))
	}
	body := func(many int) string { return strings.Repeat("abcdefghijklmnop", many) }
	sixty, end := everyOtherFrag(60), last(119, "ijklmnop!")
	wholeIs(t, "60 pieces, then what is between them", body(60)+"!", slices.Concat(sixty, holes[:59], []impl.Frag{end})...)
	wholeIs(t, "60 pieces, each told twice", body(60)+"!", slices.Concat(sixty, sixty, holes[:59], []impl.Frag{end})...)
	wholeIs(t, "60 pieces, then one that touches the last", body(60)+"!", slices.Concat(sixty, []impl.Frag{end}, holes[:59])...)
	far := last(120, "!")
	notWhole(t, "61 pieces, then what is between them", slices.Concat(sixty, []impl.Frag{far}, holes)...)
	notWhole(t, "61 pieces, the other way round", slices.Concat([]impl.Frag{far}, turnedRound(sixty), holes)...)
	wholeIs(t, "60 pieces, a hole that is filled, then one more", body(60)+"!", slices.Concat(sixty, holes[:1], []impl.Frag{far}, holes[1:])...)
	wholeIs(t, "the same in their order", body(60)+"!", slices.Concat(sixty[:30], holes[:30], sixty[30:], holes[30:], []impl.Frag{far})...)
	wholeIs(t, "60 pieces, one that is there again, what is between them", body(60)+"!", slices.Concat(sixty, []impl.Frag{sixty[7], more(0, "XXXXXXXX")}, holes[:59], []impl.Frag{end})...)
}

func TestWholeOfWrongFrags(t *testing.T) {
	a, b, c := more(0, "abcdefgh"), more(1, "ijklmnop"), last(2, "qrst")
	for _, x := range wrongFrags() {
		notWhole(t, "alone", x)
		notWhole(t, "the first", x, a, b, c)
		notWhole(t, "in the midst", a, x, b, c)
		notWhole(t, "the last", a, b, c, x)
	}
	notWhole(t, "with More, and no eights", more(0, "abc"), c)
	notWhole(t, "no bytes at the end", a, b, last(2, ""))
	notWhole(t, "no bytes at the end, beside it", a, b, c, last(2, ""))
}

// Any small fragments are put together as wanted, right or not.
func TestFragsOfAnyNumbers(t *testing.T) {
	next := steady(112)
	whole, not := 0, 0
	far := farFrom()
	for range 20000 {
		var l []impl.Frag
		units := 1 + next()>>20%6
		for range next() >> 20 % 12 {
			from := next() >> 20 % units
			f := more(from, letters(8*int(1+next()>>20%min(units-from, 3)), next))
			if next()>>20%3 == 0 {
				f = last(from, letters(int(8*(units-from)-next()>>20%2*(next()>>20%2)), next))
			}
			if next()>>20%60 == 0 {
				f.From = far[next()>>20%int64(len(far))]
			}
			if next()>>20%60 == 0 {
				f.Data = f.Data[:next()>>20%int64(len(f.Data)+1)]
			}
			l = append(l, f)
			if next()>>20%4 == 0 {
				l = append(l, l[next()>>20%int64(len(l))])
			}
		}
		want, has := wantWhole(l)
		if s, ok := impl.Whole(l); ok != has || s != want {
			t.Fatalf("%+v: %q %v, not %q %v", l, s, ok, want, has)
		}
		for _, f := range l {
			if impl.FragOk(f) != fragRight(f) {
				t.Errorf("%+v", f)
			}
		}
		if has {
			whole++
		} else {
			not++
		}
		fragsAre(t, "any numbers", letters(int(next()>>20%1100), next), next()>>20%330-10)
	}
	if whole < 500 || not < 500 {
		t.Errorf("%d were whole, %d were not", whole, not)
	}
}
