package tests

import (
	"math"
	"testing"

	"loop.example/g00559/impl"
)

func TestBytesConstants(t *testing.T) {
	if impl.Wrap != 4294967296 {
		t.Error("Wrap")
	}
}

// Promise 1: a number comes back from its bytes.
func TestPromise01NumbersComeBack(t *testing.T) {
	next := steady(1)
	for width := int64(1); width <= 6; width++ {
		top := int64(1)<<(8*width) - 1
		numbers := []int64{0, 1, 127, 128, 255, top / 2, top/2 + 1, top - 1, top}
		for range 50 {
			numbers = append(numbers, next()&top)
		}
		for _, n := range numbers {
			be, le := impl.PutBe(n, width), impl.PutLe(n, width)
			if int64(len(be)) != width || int64(len(le)) != width {
				t.Errorf("%d in %d bytes: %q %q", n, width, be, le)
			}
			if b, l := impl.GetBe(be), impl.GetLe(le); b != n || l != n {
				t.Errorf("%d in %d bytes came back as %d and %d", n, width, b, l)
			}
			for i := range be {
				if be[i] != le[len(le)-1-i] || be[i] != byte(n>>(8*(len(be)-1-i))) {
					t.Errorf("%d in %d bytes: %q %q", n, width, be, le)
				}
			}
		}
	}
}

func TestPromise01BytesComeBack(t *testing.T) {
	next := steady(2)
	for n := 1; n <= 6; n++ {
		for range 50 {
			s := text(n, next)
			if x := impl.PutBe(impl.GetBe(s), int64(n)); x != s {
				t.Errorf("highest first: %q %q", s, x)
			}
			if x := impl.PutLe(impl.GetLe(s), int64(n)); x != s {
				t.Errorf("lowest first: %q %q", s, x)
			}
		}
	}
}

func TestPutKnownBytes(t *testing.T) {
	for _, c := range []struct {
		n, width int64
		be, le   string
	}{
		{0, 1, "\x00", "\x00"},
		{0, 6, "\x00\x00\x00\x00\x00\x00", "\x00\x00\x00\x00\x00\x00"},
		{0x0102, 2, "\x01\x02", "\x02\x01"},
		{0x0102, 4, "\x00\x00\x01\x02", "\x02\x01\x00\x00"},
		{0xfe, 1, "\xfe", "\xfe"},
		{0x010203040506, 6, "\x01\x02\x03\x04\x05\x06", "\x06\x05\x04\x03\x02\x01"},
		{0xfffefdfcfbfa, 6, "\xff\xfe\xfd\xfc\xfb\xfa", "\xfa\xfb\xfc\xfd\xfe\xff"},
	} {
		if be, le := impl.PutBe(c.n, c.width), impl.PutLe(c.n, c.width); be != c.be || le != c.le {
			t.Errorf("%d in %d bytes: %q %q", c.n, c.width, be, le)
		}
	}
}

func TestPutRefuses(t *testing.T) {
	refused := func(n int64, width int64) {
		t.Helper()
		if be, le := impl.PutBe(n, width), impl.PutLe(n, width); be != "" || le != "" {
			t.Errorf("%d in %d bytes: %q %q", n, width, be, le)
		}
	}
	for width := int64(1); width <= 6; width++ {
		refused(int64(1)<<(8*width), width)
		refused(math.MaxInt64, width)
		refused(-1, width)
		refused(math.MinInt64, width)
	}
	for _, width := range append([]int64{-1, 0, 7, 8, 64}, extremes...) {
		refused(0, width)
		refused(1, width)
		refused(math.MaxInt64, width)
		refused(math.MinInt64, width)
	}
}

func TestGetEdges(t *testing.T) {
	for _, s := range []string{"", noughts(7), "1234567", noughts(100)} {
		if be, le := impl.GetBe(s), impl.GetLe(s); be != -1 || le != -1 {
			t.Errorf("%q: %d %d", s, be, le)
		}
	}
	six := "\xff\x00\x00\x00\x00\x80"
	if be, le := impl.GetBe(six), impl.GetLe(six); be != 0xff0000000080 || le != 0x8000000000ff {
		t.Errorf("%x %x", be, le)
	}
	if impl.GetBe("\x80") != 128 || impl.GetLe("\x80") != 128 {
		t.Error("one byte has no sign")
	}
}

// Promise 1: an even number of bytes, at most 1998, with their sum behind them has the sum 0.
func TestPromise01SumOfSumIsNought(t *testing.T) {
	next := steady(3)
	check := func(s string) {
		t.Helper()
		sum := impl.Sum16(s)
		if sum < 0 || sum > 65535 {
			t.Fatalf("%d bytes have the sum %d", len(s), sum)
		}
		if n := impl.Sum16(s + impl.PutBe(sum, 2)); n != 0 {
			t.Errorf("%d bytes and their sum have the sum %d", len(s), n)
		}
	}
	for n := 0; n <= 1998; n += 2 {
		check(text(n, next))
	}
	full := make([]byte, 1998)
	for i := range full {
		full[i] = 255
	}
	check(string(full))
	check(noughts(1998))
}

func TestSum16(t *testing.T) {
	full := make([]byte, 2000)
	for i := range full {
		full[i] = 255
	}
	for _, c := range []struct {
		s    string
		want int64
	}{
		{"", 65535},
		{"\x00", 65535},
		{"\x01\x02", 65535 - 0x0102},
		{"\x01", 65535 - 0x0100},
		{"\x00\x01\x02", 65535 - 0x0201},
		{"\xff\xff", 0},
		{"\xff\xff\x00\x01", 65534},
		{"\x80\x00\x80\x00", 65534},
		{"\xff\xff\xff\xff\x00\x01", 65534}, // what goes beyond makes more go beyond
		{noughts(2000), 65535},
		{string(full), 0},
		{noughts(1999) + "\x01", 65534},
		{noughts(1998) + "\x01", 65535 - 0x0100},
	} {
		if n := impl.Sum16(c.s); n != c.want {
			t.Errorf("%d bytes: %x, not %x", len(c.s), n, c.want)
		}
	}
	for _, s := range []string{noughts(2001), noughts(2002), string(full) + "\xff", noughts(70000)} {
		if n := impl.Sum16(s); n != -1 {
			t.Errorf("%d bytes: %d", len(s), n)
		}
	}
}

var round = []int64{0, 1, 2, 1000, wrap/2 - 1, wrap / 2, wrap/2 + 1, wrap - 2, wrap - 1}

var notRound = append([]int64{-1, -wrap, wrap, wrap + 1, 2 * wrap}, extremes...)

// Promise 1: what is added is the difference, going round.
func TestPromise01WhatIsAddedIsTheDifference(t *testing.T) {
	steps := []int64{-wrap / 2, -wrap/2 + 1, -1000, -1, 0, 1, 1000, wrap/2 - 2, wrap/2 - 1}
	next := steady(4)
	starts := append([]int64(nil), round...)
	for range 30 {
		starts = append(starts, next()%wrap)
		steps = append(steps, next()%wrap-wrap/2)
	}
	for _, a := range starts {
		for _, n := range steps {
			b := impl.SeqAdd(a, n)
			if b < 0 || b >= wrap || (b-a-n)%wrap != 0 {
				t.Fatalf("%d and %d: %d", a, n, b)
			}
			if d := impl.SeqDiff(b, a); d != n {
				t.Errorf("%d and %d: %d, from which the difference is %d", a, n, b, d)
			}
		}
		for _, b := range starts {
			if x := impl.SeqAdd(b, impl.SeqDiff(a, b)); x != a {
				t.Errorf("from %d to %d one comes to %d", b, a, x)
			}
		}
	}
}

func TestSeqAddEdges(t *testing.T) {
	for _, a := range round {
		if impl.SeqAdd(a, wrap) != a || impl.SeqAdd(a, -wrap) != a || impl.SeqAdd(a, 0) != a {
			t.Errorf("%d all the way round", a)
		}
		for _, n := range append([]int64{wrap + 1, -wrap - 1, 2 * wrap}, extremes...) {
			if x := impl.SeqAdd(a, n); x != -1 {
				t.Errorf("%d and %d: %d", a, n, x)
			}
		}
	}
	for _, a := range notRound {
		for _, n := range []int64{0, 1, -1, wrap, -wrap} {
			if x := impl.SeqAdd(a, n); x != -1 {
				t.Errorf("%d and %d: %d", a, n, x)
			}
		}
	}
	if impl.SeqAdd(wrap-1, 1) != 0 || impl.SeqAdd(0, -1) != wrap-1 || impl.SeqAdd(wrap-1, wrap-1) != wrap-2 || impl.SeqAdd(1, 1-wrap) != 2 {
		t.Error("round")
	}
}

func TestSeqDiffEdges(t *testing.T) {
	for _, c := range []struct{ a, b, want int64 }{
		{0, 0, 0}, {wrap - 1, wrap - 1, 0},
		{5, 3, 2}, {3, 5, -2},
		{0, wrap - 1, 1}, {wrap - 1, 0, -1},
		{wrap/2 - 1, 0, wrap/2 - 1}, {wrap / 2, 0, -wrap / 2}, {0, wrap / 2, -wrap / 2},
		{0, wrap/2 + 1, wrap/2 - 1}, {wrap/2 + 1, 0, -wrap/2 + 1},
		{wrap - 1, wrap/2 - 1, -wrap / 2}, {wrap - 1, wrap / 2, wrap/2 - 1},
	} {
		if d := impl.SeqDiff(c.a, c.b); d != c.want {
			t.Errorf("%d less %d: %d, not %d", c.a, c.b, d, c.want)
		}
	}
	for _, x := range notRound {
		for _, y := range append([]int64{7, wrap - 7}, notRound...) {
			if impl.SeqDiff(x, y) != 0 || impl.SeqDiff(y, x) != 0 {
				t.Errorf("%d and %d", x, y)
			}
		}
	}
}

// nearest searches what Unwrap works out.
func nearest(last int64, seq int64) int64 {
	for k := last/wrap - 2; k <= last/wrap+2; k++ {
		n := k*wrap + seq
		if d := n - last; d >= -wrap/2 && d < wrap/2 {
			return n
		}
	}
	return math.MinInt64
}

func TestUnwrap(t *testing.T) {
	next := steady(5)
	lasts := []int64{0, 1, wrap/2 - 1, wrap / 2, wrap/2 + 1, wrap - 1, wrap, wrap + 1, 3*wrap + wrap/2, 999*wrap + 5, 1000*wrap - 1, 1000 * wrap}
	seqs := append([]int64(nil), round...)
	for range 30 {
		lasts = append(lasts, next()%(1000*wrap+1))
		seqs = append(seqs, next()%wrap)
	}
	for _, last := range lasts {
		for _, seq := range seqs {
			want := nearest(last, seq)
			if want < 0 {
				want += wrap
			}
			n := impl.Unwrap(last, seq)
			if n != want || n%wrap != seq {
				t.Errorf("%d and %d: %d, not %d", last, seq, n, want)
			}
		}
	}
}

func TestUnwrapEdges(t *testing.T) {
	for _, c := range []struct{ last, seq, want int64 }{
		{0, 0, 0}, {0, wrap - 1, wrap - 1}, {0, wrap / 2, wrap / 2}, {1, wrap / 2, wrap / 2},
		{0, wrap/2 - 1, wrap/2 - 1}, {0, wrap/2 + 1, wrap/2 + 1},
		{wrap, wrap / 2, wrap / 2}, {wrap, wrap - 1, wrap - 1}, {wrap, wrap/2 - 1, wrap + wrap/2 - 1},
		{wrap / 2, 0, 0}, {wrap/2 + 1, 0, wrap},
		{1000 * wrap, 0, 1000 * wrap}, {1000 * wrap, 5, 1000*wrap + 5}, {1000 * wrap, wrap - 1, 1000*wrap - 1},
	} {
		if n := impl.Unwrap(c.last, c.seq); n != c.want {
			t.Errorf("%d and %d: %d, not %d", c.last, c.seq, n, c.want)
		}
	}
	for _, last := range append([]int64{-1, -wrap, 1000*wrap + 1, 1001 * wrap}, extremes...) {
		if n := impl.Unwrap(last, 5); n != -1 {
			t.Errorf("%d: %d", last, n)
		}
	}
	for _, seq := range notRound {
		if n := impl.Unwrap(5, seq); n != -1 {
			t.Errorf("%d: %d", seq, n)
		}
	}
}
