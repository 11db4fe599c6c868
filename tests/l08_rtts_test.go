package tests

import (
	"testing"

	"loop.example/g00559/impl"
)

const (
	minRto    = int64(200)
	maxRto    = int64(60000)
	maxScaled = 8 * maxRto
)

func TestRttsConstants(t *testing.T) {
	if impl.MinRto != minRto || impl.MaxRto != maxRto {
		t.Errorf("%d %d", impl.MinRto, impl.MaxRto)
	}
}

func TestRttNew(t *testing.T) {
	if r := impl.RttNew(); r != (impl.Rtt{Rto: 1000}) || !impl.RttOk(r) {
		t.Errorf("%+v", r)
	}
}

// without is a number's distance from 0.
func without(n int64) int64 {
	if n < 0 {
		return -n
	}
	return n
}

// aClock is a right one, often with a number at one of its limits.
func aClock(next func() int64) impl.Rtt {
	r := impl.Rtt{Rto: among(minRto, maxRto, next)}
	if next()>>20%4 != 0 {
		r.Has, r.Mean8, r.Var4 = true, among(0, maxScaled, next), among(0, maxScaled, next)
	}
	return r
}

func aMeasure(r impl.Rtt, next func() int64) int64 {
	switch next() >> 20 % 4 {
	case 0:
		return []int64{0, 1, 7, 8, 199, 200, maxRto - 1, maxRto}[next()>>20%8]
	case 1:
		return min(max(r.Mean8/8+next()>>20%5-2, 0), maxRto)
	}
	return next() >> 20 % (maxRto + 1)
}

// wantStep reckons what is behind a measure from what it must come to, limit by limit.
func wantStep(r impl.Rtt, ms int64) impl.Rtt {
	want := impl.Rtt{Has: true, Mean8: ms * 8, Var4: ms * 2}
	if r.Has {
		d := ms - r.Mean8/8
		want.Mean8 = r.Mean8 + d
		want.Var4 = r.Var4 - r.Var4/4 + without(d)
	}
	spread := want.Var4
	if spread == 0 {
		spread = 1
	}
	want.Rto = want.Mean8/8 + spread
	if want.Rto < minRto {
		want.Rto = minRto
	}
	if want.Rto > maxRto {
		want.Rto = maxRto
	}
	return want
}

// Promise 8: the mean comes no farther from what was measured, and stays on its side of it.
func TestPromise08TheMeanComesNoFarther(t *testing.T) {
	next := steady(30)
	for range 20000 {
		r := aClock(next)
		ms := aMeasure(r, next)
		s := impl.RttStep(r, ms)
		if s != wantStep(r, ms) || !impl.RttOk(s) {
			t.Fatalf("%+v behind %d: %+v, not %+v", r, ms, s, wantStep(r, ms))
		}
		if !r.Has {
			r.Mean8 = 8 * ms
		}
		if without(s.Mean8-8*ms) > without(r.Mean8-8*ms) || without(s.Mean8/8-ms) > without(r.Mean8/8-ms) {
			t.Errorf("%+v behind %d: %+v is farther", r, ms, s)
		}
		if d := ms - r.Mean8/8; d > 0 && s.Mean8 <= r.Mean8 || d < 0 && s.Mean8 >= r.Mean8 || d == 0 && s.Mean8 != r.Mean8 {
			t.Errorf("%+v behind %d: %+v is no nearer", r, ms, s)
		}
	}
}

// Promise 8: the same measure again and again is what the mean comes to, and what is off it wears away.
func TestPromise08TheMeanComesToTheMeasure(t *testing.T) {
	for _, first := range []int64{0, 1, 500, maxRto} {
		for _, ms := range []int64{0, 1, 199, 200, 1000, maxRto - 1, maxRto} {
			r := impl.RttStep(impl.RttNew(), first)
			for range 200 {
				r = impl.RttStep(r, ms)
			}
			if r.Mean8/8 != ms || r.Var4 > 3 || !impl.RttOk(r) {
				t.Errorf("%d, then %d: %+v", first, ms, r)
			}
		}
	}
}

// Promise 8: each time nothing came the wait is twice as long, up to the greatest, and nothing else is another.
func TestPromise08TheWaitIsTwiceAsLong(t *testing.T) {
	next := steady(31)
	for range 5000 {
		r := aClock(next)
		for r.Rto < maxRto {
			want := r
			want.Rto += r.Rto
			if want.Rto > maxRto {
				want.Rto = maxRto
			}
			late := impl.RttLate(r)
			if late != want || !impl.RttOk(late) {
				t.Fatalf("%+v: %+v, not %+v", r, late, want)
			}
			r = late
		}
		if late := impl.RttLate(r); late != r {
			t.Errorf("%+v: %+v", r, late)
		}
	}
}

func TestRttLateKnown(t *testing.T) {
	for _, c := range []struct{ rto, want int64 }{
		{200, 400}, {201, 402}, {1000, 2000}, {29999, 59998}, {30000, 60000}, {30001, 60000}, {59999, 60000}, {60000, 60000},
	} {
		for _, r := range []impl.Rtt{{Rto: c.rto}, {Has: true, Rto: c.rto}, {Has: true, Mean8: 778, Var4: 170, Rto: c.rto}} {
			want := r
			want.Rto = c.want
			if late := impl.RttLate(r); late != want {
				t.Errorf("%+v: %+v, not %+v", r, late, want)
			}
		}
	}
}

func TestRttStepKnown(t *testing.T) {
	for _, c := range []struct {
		name                       string
		r                          impl.Rtt
		ms, mean8, variance4, wait int64
	}{
		{"the first measure", impl.Rtt{Rto: 1000}, 100, 800, 200, 300},
		{"the first measure, behind a long wait", impl.Rtt{Rto: maxRto}, 100, 800, 200, 300},
		{"the first measure is 0", impl.Rtt{Rto: 1000}, 0, 0, 0, 200},
		{"the first measure is 1", impl.Rtt{Rto: 1000}, 1, 8, 2, 200},
		{"the first wait at the least", impl.Rtt{Rto: 1000}, 66, 528, 132, 200},
		{"the first wait just above the least", impl.Rtt{Rto: 1000}, 67, 536, 134, 201},
		{"the first wait at the greatest", impl.Rtt{Rto: 1000}, 20000, 160000, 40000, 60000},
		{"the first wait just below the greatest", impl.Rtt{Rto: 1000}, 19999, 159992, 39998, 59997},
		{"the first wait beyond the greatest", impl.Rtt{Rto: 1000}, 20001, 160008, 40002, 60000},
		{"the greatest first measure", impl.Rtt{Rto: 1000}, 60000, 480000, 120000, 60000},
		{"above the mean", impl.Rtt{Has: true, Mean8: 800, Var4: 200, Rto: 300}, 120, 820, 170, 272},
		{"below the mean", impl.Rtt{Has: true, Mean8: 820, Var4: 170, Rto: 272}, 60, 778, 170, 267},
		{"at the mean", impl.Rtt{Has: true, Mean8: 4000, Var4: 40, Rto: 300}, 500, 4000, 30, 530},
		{"at the mean, of which some is cut", impl.Rtt{Has: true, Mean8: 4007, Var4: 43, Rto: 300}, 500, 4007, 33, 533},
		{"one below the mean, of which some is cut", impl.Rtt{Has: true, Mean8: 4007, Var4: 43, Rto: 300}, 499, 4006, 34, 534},
		{"one above the mean, of which some is cut", impl.Rtt{Has: true, Mean8: 4007, Var4: 43, Rto: 300}, 501, 4008, 34, 535},
		{"a wait of the mean and 1", impl.Rtt{Has: true, Mean8: 4000, Rto: 300}, 500, 4000, 0, 501},
		{"a wait of the mean and 1 at the least", impl.Rtt{Has: true, Mean8: 1592, Rto: 300}, 199, 1592, 0, 200},
		{"a wait of the mean and 1 just above the least", impl.Rtt{Has: true, Mean8: 1600, Rto: 300}, 200, 1600, 0, 201},
		{"a wait of the mean and 1 at the greatest", impl.Rtt{Has: true, Mean8: 479992, Rto: 300}, 59999, 479992, 0, 60000},
		{"a spread of 1", impl.Rtt{Has: true, Mean8: 4000, Var4: 1, Rto: 300}, 500, 4000, 1, 501},
		{"a spread of 2", impl.Rtt{Has: true, Mean8: 4000, Var4: 2, Rto: 300}, 500, 4000, 2, 502},
		{"a mean of 0", impl.Rtt{Has: true, Rto: 60000}, 0, 0, 0, 200},
		{"from 0 to the greatest", impl.Rtt{Has: true, Rto: 200}, 60000, 60000, 60000, 60000},
		{"from the greatest to 0", impl.Rtt{Has: true, Mean8: maxScaled, Var4: maxScaled, Rto: 200}, 0, 420000, 420000, 60000},
		{"all the greatest", impl.Rtt{Has: true, Mean8: maxScaled, Var4: maxScaled, Rto: maxRto}, maxRto, maxScaled, 360000, maxRto},
		{"all but the greatest", impl.Rtt{Has: true, Mean8: maxScaled - 1, Var4: maxScaled - 1, Rto: maxRto}, maxRto, maxScaled, 360001, maxRto},
	} {
		want := impl.Rtt{Has: true, Mean8: c.mean8, Var4: c.variance4, Rto: c.wait}
		if s := impl.RttStep(c.r, c.ms); s != want {
			t.Errorf("%s: %+v, not %+v", c.name, s, want)
		}
	}
}

// rightClocks are at the limits.
func rightClocks() []impl.Rtt {
	return []impl.Rtt{
		{Rto: minRto},
		{Rto: maxRto},
		{Has: true, Rto: minRto},
		{Has: true, Mean8: maxScaled, Rto: maxRto},
		{Has: true, Var4: maxScaled, Rto: minRto},
		{Has: true, Mean8: maxScaled, Var4: maxScaled, Rto: maxRto},
	}
}

// wrongClocks: each is a clock with one number that is not right.
func wrongClocks() []impl.Rtt {
	l := []impl.Rtt{{}, {Has: true}, {Mean8: 800, Var4: 200, Rto: 300}}
	for _, n := range append([]int64{-1, 0, minRto - 1, maxRto + 1}, extremes...) {
		l = append(l, impl.Rtt{Rto: n}, impl.Rtt{Has: true, Mean8: 800, Var4: 200, Rto: n})
	}
	for _, n := range append([]int64{-1, 1, maxScaled, maxScaled + 1}, extremes...) {
		l = append(l, impl.Rtt{Mean8: n, Rto: 300}, impl.Rtt{Var4: n, Rto: 300})
		if n < 0 || n > maxScaled {
			l = append(l, impl.Rtt{Has: true, Mean8: n, Var4: 200, Rto: 300}, impl.Rtt{Has: true, Mean8: 800, Var4: n, Rto: 300})
		}
	}
	return l
}

func TestRttOk(t *testing.T) {
	for _, r := range rightClocks() {
		if !impl.RttOk(r) || impl.RttStep(r, 5) != wantStep(r, 5) || impl.RttLate(r).Rto != min(2*r.Rto, maxRto) {
			t.Errorf("%+v: %+v %+v", r, impl.RttStep(r, 5), impl.RttLate(r))
		}
	}
	for _, r := range wrongClocks() {
		if impl.RttOk(r) || impl.RttLate(r) != (impl.Rtt{}) {
			t.Errorf("%+v: %+v", r, impl.RttLate(r))
		}
		for _, ms := range append([]int64{-1, 0, 5, maxRto}, extremes...) {
			if s := impl.RttStep(r, ms); s != (impl.Rtt{}) {
				t.Errorf("%+v behind %d: %+v", r, ms, s)
			}
		}
	}
}

func TestRttStepMeasures(t *testing.T) {
	for _, r := range append(rightClocks(), impl.RttNew()) {
		for _, ms := range []int64{0, 1, maxRto - 1, maxRto} {
			if s := impl.RttStep(r, ms); s != wantStep(r, ms) || !s.Has {
				t.Errorf("%+v behind %d: %+v", r, ms, s)
			}
		}
		for _, ms := range append([]int64{-1, maxRto + 1}, extremes...) {
			if s := impl.RttStep(r, ms); s != (impl.Rtt{}) {
				t.Errorf("%+v behind %d: %+v", r, ms, s)
			}
		}
	}
}
