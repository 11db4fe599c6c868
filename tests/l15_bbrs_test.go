package tests

import (
	"math"
	"slices"
	"testing"

	"loop.example/g00559/impl"
)

func TestBbrsConstants(t *testing.T) {
	if impl.BbUp != 1 || impl.BbDrain != 2 || impl.BbProbe != 3 {
		t.Errorf("%d %d %d", impl.BbUp, impl.BbDrain, impl.BbProbe)
	}
}

func sample(time, rate int64) impl.Sample {
	return impl.Sample{Time: time, Rate: rate}
}

// falling are so many samples, each a time later and a rate lower.
func falling(many int64) []impl.Sample {
	var l []impl.Sample
	for i := range many {
		l = append(l, sample(10+i, 1000-i))
	}
	return l
}

// rightFilters are at the limits.
func rightFilters() [][]impl.Sample {
	return [][]impl.Sample{
		nil, {}, {sample(0, 0)}, {sample(maxTime, 0)}, {sample(0, maxWin)}, {sample(maxTime, maxWin)},
		{sample(7, 9), sample(7, 8)}, {sample(7, 9), sample(7, 8), sample(7, 0)}, {sample(0, 1), sample(maxTime, 0)},
		{sample(0, maxWin), sample(0, maxWin-1), sample(maxTime, 0)}, falling(99), falling(100),
	}
}

// wrongSamples: each has one number that is not right.
func wrongSamples() []impl.Sample {
	var l []impl.Sample
	for _, n := range append([]int64{-1, maxTime + 1}, extremes...) {
		l = append(l, sample(n, 5))
	}
	for _, n := range append([]int64{-1, maxWin + 1}, extremes...) {
		l = append(l, sample(5, n))
	}
	return l
}

// wrongFilters: each is wrong by a sample, by two of them, or by how many there are.
func wrongFilters() [][]impl.Sample {
	l := [][]impl.Sample{
		{sample(7, 7), sample(7, 7)}, {sample(7, 7), sample(8, 7)}, {sample(7, 7), sample(8, 8)}, {sample(7, 0), sample(8, 0)},
		{sample(7, 7), sample(6, 6)}, {sample(maxTime, 7), sample(0, 6)}, {sample(7, 7), sample(6, 8)},
		{sample(1, 9), sample(2, 8), sample(2, 8)}, {sample(1, 9), sample(3, 8), sample(2, 7)}, {sample(1, 9), sample(3, 7), sample(4, 8)},
		falling(101), falling(102),
	}
	for _, x := range wrongSamples() {
		l = append(l, []impl.Sample{x}, []impl.Sample{sample(0, maxWin), x}, []impl.Sample{x, sample(maxTime, 0)}, []impl.Sample{sample(4, 9), x, sample(6, 1)})
	}
	return l
}

func filterRight(l []impl.Sample) bool {
	for i, x := range l {
		if x.Time < 0 || x.Time > maxTime || x.Rate < 0 || x.Rate > maxWin {
			return false
		}
		for _, ahead := range l[:i] {
			if ahead.Time > x.Time || ahead.Rate < x.Rate+1 {
				return false
			}
		}
	}
	return len(l) < 101
}

// wantFilter asks of each sample by itself whether it is to stay.
func wantFilter(l []impl.Sample, x impl.Sample, width int64) ([]impl.Sample, bool) {
	if !filterRight(l) || !filterRight([]impl.Sample{x}) || width < 1 || width > maxTime {
		return nil, false
	}
	for _, old := range l {
		if old.Time > x.Time {
			return nil, false
		}
	}
	want := slices.DeleteFunc(slices.Clone(l), func(old impl.Sample) bool {
		tooOld := old.Time+width <= x.Time
		return tooOld || old.Rate <= x.Rate
	})
	want = append(want, x)
	if len(want) > 100 {
		return nil, false
	}
	return want, true
}

func filterIs(t *testing.T, name string, l []impl.Sample, x impl.Sample, width int64) {
	t.Helper()
	want, wantOk := wantFilter(l, x, width)
	if a, ok := impl.FilterAdd(l, x, width); ok != wantOk || !slices.Equal(a, want) {
		t.Errorf("%s: %+v with %+v, %d: %+v %v\nnot %+v %v", name, l, x, width, a, ok, want, wantOk)
	}
}

func noFilter(t *testing.T, name string, l []impl.Sample, x impl.Sample, width int64) {
	t.Helper()
	if a, ok := impl.FilterAdd(l, x, width); ok || len(a) != 0 {
		t.Errorf("%s: %+v with %+v, %d: %+v", name, l, x, width, a)
	}
}

func TestFilterOk(t *testing.T) {
	for _, l := range rightFilters() {
		best := int64(-1)
		for _, x := range l {
			best = max(best, x.Rate)
		}
		if !impl.FilterOk(l) || impl.FilterBest(l) != best {
			t.Errorf("%+v: %d", l, impl.FilterBest(l))
		}
	}
	for _, l := range wrongFilters() {
		if impl.FilterOk(l) || impl.FilterBest(l) != -1 {
			t.Errorf("%+v: %d", l, impl.FilterBest(l))
		}
		noFilter(t, "not right", l, sample(maxTime, 5), 10)
		noFilter(t, "not right", l, sample(maxTime, maxWin), maxTime)
	}
}

func TestFilterAddKnown(t *testing.T) {
	l := []impl.Sample{sample(10, 9), sample(15, 7), sample(15, 4)}
	for _, c := range []struct {
		name  string
		l     []impl.Sample
		x     impl.Sample
		width int64
		want  []impl.Sample
	}{
		{"the first", nil, sample(0, 0), 1, []impl.Sample{sample(0, 0)}},
		{"the first, at the limits", nil, sample(maxTime, maxWin), maxTime, []impl.Sample{sample(maxTime, maxWin)}},
		{"below all", l, sample(16, 3), 100, []impl.Sample{sample(10, 9), sample(15, 7), sample(15, 4), sample(16, 3)}},
		{"of a rate of 0", l, sample(16, 0), 100, []impl.Sample{sample(10, 9), sample(15, 7), sample(15, 4), sample(16, 0)}},
		{"alike the last", l, sample(16, 4), 100, []impl.Sample{sample(10, 9), sample(15, 7), sample(16, 4)}},
		{"amid", l, sample(16, 5), 100, []impl.Sample{sample(10, 9), sample(15, 7), sample(16, 5)}},
		{"alike one amid", l, sample(16, 7), 100, []impl.Sample{sample(10, 9), sample(16, 7)}},
		{"alike the first", l, sample(16, 9), 100, []impl.Sample{sample(16, 9)}},
		{"above all", l, sample(16, 10), 100, []impl.Sample{sample(16, 10)}},
		{"at the last time", l, sample(15, 3), 100, []impl.Sample{sample(10, 9), sample(15, 7), sample(15, 4), sample(15, 3)}},
		{"at the last time, above", l, sample(15, 8), 100, []impl.Sample{sample(10, 9), sample(15, 8)}},
		{"ahead of the last time", l, sample(14, 3), 100, nil},
		{"ahead of the last time, above all", l, sample(14, 10), 100, nil},
		{"the first is just not too old", l, sample(16, 3), 7, []impl.Sample{sample(10, 9), sample(15, 7), sample(15, 4), sample(16, 3)}},
		{"the first is just too old", l, sample(16, 3), 6, []impl.Sample{sample(15, 7), sample(15, 4), sample(16, 3)}},
		{"the others are just not too old", l, sample(16, 3), 2, []impl.Sample{sample(15, 7), sample(15, 4), sample(16, 3)}},
		{"all are just too old", l, sample(16, 3), 1, []impl.Sample{sample(16, 3)}},
		{"a width of 1, at the last time", l, sample(15, 3), 1, []impl.Sample{sample(15, 7), sample(15, 4), sample(15, 3)}},
		{"a width of 0", l, sample(16, 3), 0, nil},
		{"a width of 0, of none", nil, sample(16, 3), 0, nil},
		{"the greatest width", l, sample(maxTime, 3), maxTime, []impl.Sample{sample(10, 9), sample(15, 7), sample(15, 4), sample(maxTime, 3)}},
		{"the greatest width, from 0", []impl.Sample{sample(0, 9), sample(1, 8)}, sample(maxTime, 3), maxTime, []impl.Sample{sample(1, 8), sample(maxTime, 3)}},
		{"a greater width", l, sample(16, 3), maxTime + 1, nil},
	} {
		a, ok := impl.FilterAdd(c.l, c.x, c.width)
		if ok != (c.want != nil) || !slices.Equal(a, c.want) {
			t.Errorf("%s: %+v %v, not %+v", c.name, a, ok, c.want)
		}
		filterIs(t, c.name, c.l, c.x, c.width)
	}
}

func TestFilterAddLimits(t *testing.T) {
	for _, l := range rightFilters() {
		for _, x := range wrongSamples() {
			noFilter(t, "x", l, x, 10)
		}
		for _, width := range append([]int64{-1, 0, maxTime + 1}, extremes...) {
			noFilter(t, "width", l, sample(maxTime, 0), width)
		}
		for _, time := range []int64{0, 7, 10, 108, 109, 110, maxTime - 1, maxTime} {
			for _, rate := range []int64{0, 1, 8, 900, 901, 902, 1000, maxWin - 1, maxWin} {
				for _, width := range []int64{1, 2, 100, maxTime - 1, maxTime} {
					filterIs(t, "at the limits", l, sample(time, rate), width)
				}
			}
		}
	}
}

func TestFilterAddMany(t *testing.T) {
	if a, ok := impl.FilterAdd(falling(99), sample(200, 0), maxTime); !ok || len(a) != 100 || a[99] != sample(200, 0) {
		t.Errorf("the 100th: %+v %v", a, ok)
	}
	noFilter(t, "the 101st", falling(100), sample(200, 0), maxTime)
	noFilter(t, "the 101st, none just too old", falling(100), sample(200, 0), 191)
	for _, c := range []struct {
		name  string
		x     impl.Sample
		width int64
		many  int
	}{
		{"for the last one", sample(200, 901), maxTime, 100},
		{"for the first one, just too old", sample(200, 0), 190, 100},
		{"for all", sample(200, 1000), maxTime, 1},
	} {
		if a, ok := impl.FilterAdd(falling(100), c.x, c.width); !ok || len(a) != c.many || a[c.many-1] != c.x {
			t.Errorf("%s: %+v %v", c.name, a, ok)
		}
	}
}

// Promise 15: the best of a filter is the greatest of what is not too old.
func TestPromise15TheBestIsTheGreatest(t *testing.T) {
	next := steady(85)
	tooOld := 0
	for range 300 {
		width := among(1, 300, next)
		most := []int64{3, 50, maxWin}[next()>>20%3]
		now := next() >> 20 % 1000
		var l, all []impl.Sample
		for range 200 {
			now += max(next()>>20%12-4, 0)
			x := sample(now, among(0, most, next))
			after, ok := impl.FilterAdd(l, x, width)
			if !ok || !impl.FilterOk(after) {
				t.Fatalf("%+v with %+v, %d: %+v %v", l, x, width, after, ok)
			}
			filterIs(t, "one by one", l, x, width)
			all = append(all, x)
			best := int64(-1)
			for _, old := range all {
				if old.Time > now-width {
					best = max(best, old.Rate)
				}
			}
			if impl.FilterBest(after) != best {
				t.Fatalf("%+v, %d: %+v has not %d", all, width, after, best)
			}
			if len(l) > 0 && l[0].Rate > best {
				tooOld++
			}
			l = after
		}
	}
	if tooOld < 1000 {
		t.Errorf("only %d were too old", tooOld)
	}
}

func sameBbr(a, b impl.Bbr) bool {
	numbers := a.Phase == b.Phase && a.Rtt == b.Rtt && a.Full == b.Full && a.Still == b.Still && a.Turn == b.Turn
	return numbers && slices.Equal(a.Best, b.Best)
}

func bbrRight(b impl.Bbr) bool {
	if !filterRight(b.Best) || b.Rtt < 1 || b.Rtt > maxRto || b.Full < 0 || b.Full > maxWin {
		return false
	}
	switch {
	case b.Phase == impl.BbUp:
		return slices.Contains([]int64{0, 1, 2}, b.Still) && b.Turn == 0
	case b.Phase == impl.BbDrain:
		return b.Still == 3 && len(b.Best) > 0 && b.Turn == 0
	}
	return b.Phase == impl.BbProbe && b.Still == 3 && len(b.Best) > 0 && b.Turn > -1 && b.Turn < 8
}

func wantPipe(b impl.Bbr) int64 {
	if len(b.Best) == 0 {
		return 0
	}
	return b.Best[0].Rate * b.Rtt / 1000
}

func wantBbr(b impl.Bbr, x impl.Sample, rtt, flight int64) (impl.Bbr, bool) {
	if !bbrRight(b) || rtt < 1 || rtt > maxRto || flight < 0 || flight > maxWin {
		return impl.Bbr{}, false
	}
	best, ok := wantFilter(b.Best, x, b.Rtt*10)
	if !ok {
		return impl.Bbr{}, false
	}
	b.Best = best
	if rtt < b.Rtt {
		b.Rtt = rtt
	}
	grows := best[0].Rate > 0 && best[0].Rate-b.Full >= b.Full/4
	switch {
	case b.Phase == impl.BbUp && grows:
		b.Full, b.Still = best[0].Rate, 0
	case b.Phase == impl.BbUp && b.Still == 2:
		b.Still, b.Phase = 3, impl.BbDrain
	case b.Phase == impl.BbUp:
		b.Still++
	case b.Phase == impl.BbDrain && flight <= wantPipe(b):
		b.Phase = impl.BbProbe
	case b.Phase == impl.BbProbe && b.Turn == 7:
		b.Turn = 0
	case b.Phase == impl.BbProbe:
		b.Turn++
	}
	return b, true
}

func wantBbrWin(b impl.Bbr) int64 {
	p := wantPipe(b)
	switch {
	case !bbrRight(b):
		return -1
	case b.Phase == impl.BbUp:
		return 4 + 2885*p/1000
	case b.Phase == impl.BbDrain:
		return 4 + 347*p/1000
	case b.Turn == 0:
		return 4 + 5*p/4
	case b.Turn == 1:
		return 4 + 3*p/4
	}
	return 4 + p
}

func bbrStepIs(t *testing.T, name string, b impl.Bbr, x impl.Sample, rtt, flight int64) impl.Bbr {
	t.Helper()
	want, wantOk := wantBbr(b, x, rtt, flight)
	n, ok := impl.BbrStep(b, x, rtt, flight)
	if ok != wantOk || !sameBbr(n, want) {
		t.Errorf("%s: %+v with %+v, %d, %d: %+v %v\nnot %+v %v", name, b, x, rtt, flight, n, ok, want, wantOk)
	}
	if ok && (!impl.BbrOk(n) || impl.BbrWin(n) != wantBbrWin(n)) {
		t.Errorf("%s: %+v: %d", name, n, impl.BbrWin(n))
	}
	return n
}

func noBbr(t *testing.T, name string, b impl.Bbr, x impl.Sample, rtt, flight int64) {
	t.Helper()
	if n, ok := impl.BbrStep(b, x, rtt, flight); ok || !sameBbr(n, impl.Bbr{}) {
		t.Errorf("%s: %+v with %+v, %d, %d: %+v %v", name, b, x, rtt, flight, n, ok)
	}
}

func TestBbrNew(t *testing.T) {
	for _, rtt := range []int64{1, 2, 100, maxRto - 1, maxRto} {
		b, ok := impl.BbrNew(rtt)
		if !ok || !sameBbr(b, impl.Bbr{Phase: impl.BbUp, Rtt: rtt}) || !impl.BbrOk(b) || impl.BbrWin(b) != 4 {
			t.Errorf("%d: %+v %v", rtt, b, ok)
		}
	}
	for _, rtt := range append([]int64{-1, 0, maxRto + 1}, extremes...) {
		if b, ok := impl.BbrNew(rtt); ok || !sameBbr(b, impl.Bbr{}) {
			t.Errorf("%d: %+v %v", rtt, b, ok)
		}
	}
}

// bbrOf is in that phase, with a best Rate of 1000, an Rtt of 100 and a Full of 1000.
func bbrOf(phase, still, turn int64) impl.Bbr {
	return impl.Bbr{Phase: phase, Best: []impl.Sample{sample(10, 1000)}, Rtt: 100, Full: 1000, Still: still, Turn: turn}
}

// rightBbrs are at the limits.
func rightBbrs() []impl.Bbr {
	var l []impl.Bbr
	for still := range int64(3) {
		l = append(l, bbrOf(impl.BbUp, still, 0), impl.Bbr{Phase: impl.BbUp, Rtt: 1, Full: maxWin, Still: still}, impl.Bbr{Phase: impl.BbUp, Rtt: maxRto, Still: still})
	}
	l = append(l, bbrOf(impl.BbDrain, 3, 0))
	for turn := range int64(8) {
		l = append(l, bbrOf(impl.BbProbe, 3, turn))
	}
	for _, best := range rightFilters() {
		l = append(l, impl.Bbr{Phase: impl.BbUp, Best: best, Rtt: maxRto})
		if len(best) > 0 {
			l = append(l, impl.Bbr{Phase: impl.BbDrain, Best: best, Rtt: 1, Still: 3}, impl.Bbr{Phase: impl.BbProbe, Best: best, Rtt: maxRto, Full: maxWin, Still: 3, Turn: 7})
		}
	}
	return l
}

// wrongBbrs: each is wrong by one number, or by its samples.
func wrongBbrs() []impl.Bbr {
	l := []impl.Bbr{{}, {Phase: impl.BbUp}, {Rtt: 5}}
	phases := []impl.Bbr{bbrOf(impl.BbUp, 0, 0), bbrOf(impl.BbDrain, 3, 0), bbrOf(impl.BbProbe, 3, 0)}
	add := func(b impl.Bbr, change func(b *impl.Bbr)) {
		change(&b)
		l = append(l, b)
	}
	for _, b := range phases {
		for _, n := range append([]int64{-1, 0, 4, 5}, extremes...) {
			add(b, func(b *impl.Bbr) { b.Phase = n })
		}
		for _, n := range append([]int64{-1, 0, maxRto + 1}, extremes...) {
			add(b, func(b *impl.Bbr) { b.Rtt = n })
		}
		for _, n := range append([]int64{-1, maxWin + 1}, extremes...) {
			add(b, func(b *impl.Bbr) { b.Full = n })
		}
		for _, n := range append([]int64{-1, 0, 1, 2, 3, 4}, extremes...) {
			if upStill := n >= 0 && n < 3; b.Phase == impl.BbUp && !upStill || b.Phase != impl.BbUp && n != 3 {
				add(b, func(b *impl.Bbr) { b.Still = n })
			}
		}
		for _, n := range append([]int64{-1, 1, 7, 8}, extremes...) {
			if b.Phase != impl.BbProbe || n < 0 || n > 7 {
				add(b, func(b *impl.Bbr) { b.Turn = n })
			}
		}
		for _, best := range wrongFilters() {
			add(b, func(b *impl.Bbr) { b.Best = best })
		}
		if b.Phase != impl.BbUp {
			add(b, func(b *impl.Bbr) { b.Best = nil })
			add(b, func(b *impl.Bbr) { b.Best = []impl.Sample{} })
		}
	}
	return l
}

func TestBbrOk(t *testing.T) {
	for _, b := range rightBbrs() {
		if !impl.BbrOk(b) || impl.BbrWin(b) != wantBbrWin(b) {
			t.Errorf("%+v: %d, not %d", b, impl.BbrWin(b), wantBbrWin(b))
		}
	}
	for _, b := range wrongBbrs() {
		if impl.BbrOk(b) || impl.BbrWin(b) != -1 {
			t.Errorf("%+v: %d", b, impl.BbrWin(b))
		}
		noBbr(t, "not right", b, sample(maxTime, 1000), 100, 0)
	}
}

func TestBbrStepLimits(t *testing.T) {
	for _, b := range rightBbrs() {
		for _, rtt := range []int64{1, 99, 100, 101, maxRto} {
			for _, flight := range []int64{0, 99, 100, 101, maxWin} {
				for _, x := range []impl.Sample{sample(maxTime, 0), sample(maxTime, maxWin), sample(10, 999), sample(9, 1000)} {
					bbrStepIs(t, "at the limits", b, x, rtt, flight)
				}
			}
		}
		for _, n := range append([]int64{-1, 0, maxRto + 1}, extremes...) {
			noBbr(t, "rtt", b, sample(maxTime, 1000), n, 0)
		}
		for _, n := range append([]int64{-1, maxWin + 1}, extremes...) {
			noBbr(t, "flight", b, sample(maxTime, 1000), 100, n)
		}
		for _, x := range wrongSamples() {
			noBbr(t, "x", b, x, 100, 0)
		}
	}
	for _, phase := range []impl.Bbr{bbrOf(impl.BbUp, 0, 0), bbrOf(impl.BbDrain, 3, 0), bbrOf(impl.BbProbe, 3, 0)} {
		noBbr(t, "ahead of the last time", phase, sample(9, 1), 100, 0)
		phase.Best = falling(100)
		noBbr(t, "the 101st sample", phase, sample(109, 1), 100, 0)
	}
}

// A bbrCase is a step of a sender: what it is then, but for Best.
type bbrCase struct {
	name                           string
	b                              impl.Bbr
	x                              impl.Sample
	rtt, flight                    int64
	phase, trip, full, still, turn int64
}

func bbrsAre(t *testing.T, l []bbrCase) {
	t.Helper()
	for _, c := range l {
		n := bbrStepIs(t, c.name, c.b, c.x, c.rtt, c.flight)
		if n.Phase != c.phase || n.Rtt != c.trip || n.Full != c.full || n.Still != c.still || n.Turn != c.turn {
			t.Errorf("%s: %+v", c.name, n)
		}
	}
}

func TestBbrStepUp(t *testing.T) {
	up := bbrOf(impl.BbUp, 2, 0)
	one := bbrOf(impl.BbUp, 1, 0)
	small := impl.Bbr{Phase: impl.BbUp, Rtt: 100, Full: 7, Still: 1}
	first := impl.Bbr{Phase: impl.BbUp, Rtt: 100}
	greatest := impl.Bbr{Phase: impl.BbUp, Rtt: 100, Full: 800000000, Still: 2}
	bbrsAre(t, []bbrCase{
		{"Full and a quarter", up, sample(20, 1250), 100, 0, impl.BbUp, 100, 1250, 0, 0},
		{"one below, the third time", up, sample(20, 1249), 100, 0, impl.BbDrain, 100, 1000, 3, 0},
		{"one below, the second time", one, sample(20, 1249), 100, 0, impl.BbUp, 100, 1000, 2, 0},
		{"far above", up, sample(20, maxWin), 100, 0, impl.BbUp, 100, maxWin, 0, 0},
		{"the best of before", up, sample(20, 5), 100, 0, impl.BbDrain, 100, 1000, 3, 0},
		{"a quarter that is cut", small, sample(20, 8), 100, 0, impl.BbUp, 100, 8, 0, 0},
		{"one below a quarter that is cut", small, sample(20, 7), 100, 0, impl.BbUp, 100, 7, 2, 0},
		{"the first", first, sample(0, 1), 100, 0, impl.BbUp, 100, 1, 0, 0},
		{"the first is 0", first, sample(0, 0), 100, 0, impl.BbUp, 100, 0, 1, 0},
		{"the greatest Rate", greatest, sample(0, maxWin), 100, 0, impl.BbUp, 100, maxWin, 0, 0},
		{"one below the greatest Rate", greatest, sample(0, maxWin-1), 100, 0, impl.BbDrain, 100, 800000000, 3, 0},
		{"the best is too old by ten times Rtt", up, sample(1010, 5), 100, 0, impl.BbDrain, 100, 1000, 3, 0},
		{"a lesser rtt", up, sample(20, 1250), 99, 0, impl.BbUp, 99, 1250, 0, 0},
		{"a greater rtt", up, sample(20, 1250), 101, 0, impl.BbUp, 100, 1250, 0, 0},
		{"with no more on its way than the pipe", up, sample(20, 1000), 100, 50, impl.BbDrain, 100, 1000, 3, 0},
	})
}

func TestBbrStepThreeStill(t *testing.T) {
	b, _ := impl.BbrNew(100)
	for i, c := range []struct{ rate, phase, full, still int64 }{
		{0, impl.BbUp, 0, 1}, {0, impl.BbUp, 0, 2}, {8, impl.BbUp, 8, 0},
		{9, impl.BbUp, 8, 1}, {9, impl.BbUp, 8, 2}, {10, impl.BbUp, 10, 0},
		{11, impl.BbUp, 10, 1}, {0, impl.BbUp, 10, 2}, {11, impl.BbDrain, 10, 3},
	} {
		b = bbrStepIs(t, "still", b, sample(int64(i), c.rate), 100, maxWin)
		if b.Phase != c.phase || b.Full != c.full || b.Still != c.still {
			t.Fatalf("%d: %+v", i, b)
		}
	}
	none, _ := impl.BbrNew(100)
	for range 3 {
		none = bbrStepIs(t, "nothing comes", none, sample(5, 0), 100, 0)
	}
	if !sameBbr(none, impl.Bbr{Phase: impl.BbDrain, Best: []impl.Sample{sample(5, 0)}, Rtt: 100, Still: 3}) || impl.BbrWin(none) != 4 {
		t.Errorf("%+v", none)
	}
}

func TestBbrStepDrain(t *testing.T) {
	b := bbrOf(impl.BbDrain, 3, 0)
	bbrsAre(t, []bbrCase{
		{"the pipe", b, sample(20, 900), 100, 100, impl.BbProbe, 100, 1000, 3, 0},
		{"one more than the pipe", b, sample(20, 900), 100, 101, impl.BbDrain, 100, 1000, 3, 0},
		{"nothing on its way", b, sample(20, 900), 100, 0, impl.BbProbe, 100, 1000, 3, 0},
		{"the pipe by the Rtt now", b, sample(20, 900), 50, 50, impl.BbProbe, 50, 1000, 3, 0},
		{"one more than the pipe by the Rtt now", b, sample(20, 900), 50, 51, impl.BbDrain, 50, 1000, 3, 0},
		{"the pipe by the best Rate now", b, sample(20, 2000), 100, 200, impl.BbProbe, 100, 1000, 3, 0},
		{"one more than the pipe by the best Rate now", b, sample(20, 2000), 100, 201, impl.BbDrain, 100, 1000, 3, 0},
		{"the pipe without the one that is too old", b, sample(1010, 50), 100, 5, impl.BbProbe, 100, 1000, 3, 0},
		{"one more than the pipe without the one that is too old", b, sample(1010, 50), 100, 6, impl.BbDrain, 100, 1000, 3, 0},
		{"a pipe that is cut", b, sample(1010, 59), 100, 5, impl.BbProbe, 100, 1000, 3, 0},
		{"one more than a pipe that is cut", b, sample(1010, 59), 100, 6, impl.BbDrain, 100, 1000, 3, 0},
		{"no pipe, nothing on its way", b, sample(1010, 0), 100, 0, impl.BbProbe, 100, 1000, 3, 0},
		{"no pipe, a byte on its way", b, sample(1010, 0), 100, 1, impl.BbDrain, 100, 1000, 3, 0},
		{"the best rises: not Full", b, sample(20, maxWin), 100, maxWin, impl.BbDrain, 100, 1000, 3, 0},
	})
}

func TestBbrStepProbe(t *testing.T) {
	for turn := range int64(8) {
		b := bbrOf(impl.BbProbe, 3, turn)
		bbrsAre(t, []bbrCase{
			{"a turn", b, sample(20, 900), 100, 0, impl.BbProbe, 100, 1000, 3, (turn + 1) % 8},
			{"much is on its way", b, sample(20, 900), 100, maxWin, impl.BbProbe, 100, 1000, 3, (turn + 1) % 8},
			{"the best rises", b, sample(20, maxWin), maxRto, 0, impl.BbProbe, 100, 1000, 3, (turn + 1) % 8},
			{"nothing comes", b, sample(maxTime, 0), 1, 0, impl.BbProbe, 1, 1000, 3, (turn + 1) % 8},
		})
	}
}

// Ten times Rtt is that of the Rtt ahead of the step.
func TestBbrStepWidth(t *testing.T) {
	for _, phase := range []impl.Bbr{bbrOf(impl.BbUp, 0, 0), bbrOf(impl.BbDrain, 3, 0), bbrOf(impl.BbProbe, 3, 4)} {
		for _, rtt := range []int64{1, 50, 100, 200, maxRto} {
			for _, c := range []struct {
				time int64
				many int
			}{{10, 2}, {1009, 2}, {1010, 1}, {maxTime, 1}} {
				if n := bbrStepIs(t, "width", phase, sample(c.time, 5), rtt, 0); len(n.Best) != c.many {
					t.Errorf("%d at %d: %+v", rtt, c.time, n)
				}
			}
		}
	}
}

func TestBbrWinKnown(t *testing.T) {
	with := func(phase, still, turn, rate, rtt int64) impl.Bbr {
		b := bbrOf(phase, still, turn)
		b.Best, b.Rtt = []impl.Sample{sample(10, rate), sample(11, 0)}, rtt
		return b
	}
	for _, c := range []struct {
		name string
		b    impl.Bbr
		want int64
	}{
		{"without a best one", impl.Bbr{Phase: impl.BbUp, Rtt: maxRto, Full: maxWin, Still: 2}, 4},
		{"up", with(impl.BbUp, 0, 0, 1000, 100), 292},
		{"up, still", with(impl.BbUp, 2, 0, 1000, 100), 292},
		{"up, a pipe of 1", with(impl.BbUp, 0, 0, 10, 100), 6},
		{"up, a pipe that is cut to 0", with(impl.BbUp, 0, 0, 999, 1), 4},
		{"up, a pipe that is cut ahead of the phase", with(impl.BbUp, 0, 0, 1999, 1), 6},
		{"up, the greatest", with(impl.BbUp, 0, 0, maxWin, maxRto), 173100000004},
		{"drain", with(impl.BbDrain, 3, 0, 1000, 100), 38},
		{"drain, cut", with(impl.BbDrain, 3, 0, 1100, 100), 42},
		{"drain, a pipe of 1", with(impl.BbDrain, 3, 0, 10, 100), 4},
		{"drain, the greatest", with(impl.BbDrain, 3, 0, maxWin, maxRto), 20820000004},
		{"the first turn", with(impl.BbProbe, 3, 0, 1000, 100), 129},
		{"the first turn, cut", with(impl.BbProbe, 3, 0, 1030, 100), 132},
		{"the second turn", with(impl.BbProbe, 3, 1, 1000, 100), 79},
		{"the second turn, cut", with(impl.BbProbe, 3, 1, 1030, 100), 81},
		{"the third turn", with(impl.BbProbe, 3, 2, 1030, 100), 107},
		{"the fourth turn", with(impl.BbProbe, 3, 3, 1030, 100), 107},
		{"the last turn", with(impl.BbProbe, 3, 7, 1030, 100), 107},
		{"the first turn, the greatest", with(impl.BbProbe, 3, 0, maxWin, maxRto), 75000000004},
	} {
		if w := impl.BbrWin(c.b); w != c.want {
			t.Errorf("%s: %d, not %d", c.name, w, c.want)
		}
	}
	for pipe := range int64(2000) {
		for _, b := range []impl.Bbr{with(impl.BbUp, 1, 0, 0, 1), with(impl.BbDrain, 3, 0, 0, 1), with(impl.BbProbe, 3, 0, 0, 1), with(impl.BbProbe, 3, 1, 0, 1), with(impl.BbProbe, 3, 5, 0, 1)} {
			b.Best = []impl.Sample{sample(10, 1000*pipe+pipe%1000)}
			if w := impl.BbrWin(b); w != wantBbrWin(b) {
				t.Errorf("%+v: %d, not %d", b, w, wantBbrWin(b))
			}
		}
	}
}

// Promise 15: phases do not go back, and each of them comes.
func TestPromise15PhasesDoNotGoBack(t *testing.T) {
	next := steady(86)
	came := map[int64]int{}
	for range 300 {
		rtt := among(1, maxRto, next)
		b, ok := impl.BbrNew(rtt)
		if !ok {
			t.Fatal(rtt)
		}
		most := []int64{1, 5000, maxWin}[next()>>20%3]
		now := next() >> 20 % 1000
		for range 60 {
			now += next() >> 20 % (b.Rtt + 2)
			x := sample(now, among(0, most, next))
			flight := min(max(wantPipe(b)+next()>>20%21-10, 0), maxWin)
			if next()>>20%2 == 0 {
				flight = among(0, maxWin, next)
			}
			n := bbrStepIs(t, "one by one", b, x, among(max(rtt-5, 1), maxRto, next), flight)
			if n.Phase < b.Phase || n.Phase > b.Phase+1 || n.Rtt > b.Rtt {
				t.Fatalf("%+v with %+v: %+v", b, x, n)
			}
			came[n.Phase]++
			b = n
		}
	}
	for phase := int64(impl.BbUp); phase <= impl.BbProbe; phase++ {
		if came[phase] < 300 {
			t.Errorf("came %v", came)
		}
	}
}

// Filters and senders that are right by chance are answered, those that are not have the fixed answers.
func TestBbrsOfAnyNumbers(t *testing.T) {
	next := steady(87)
	numbers := append([]int64{-1, 0, 1, 2, 3, 4, 7, 8, 100, maxRto, maxRto + 1, maxWin, maxWin + 1, maxTime, maxTime + 1, math.MaxInt32}, extremes...)
	number := func(often int64) int64 {
		if next()>>20%8 == 0 {
			return numbers[next()>>20%int64(len(numbers))]
		}
		return often
	}
	right, stepped := 0, 0
	for range 100000 {
		b := impl.Bbr{Phase: number(1 + next()>>20%3), Rtt: number(1 + next()>>20%20), Full: number(next() >> 20 % 10), Still: number(3)}
		if b.Phase == impl.BbUp {
			b.Still = number(next() >> 20 % 3)
		}
		if b.Phase == impl.BbProbe {
			b.Turn = number(next() >> 20 % 8)
		}
		for i := range 1 + next()>>20%4 {
			b.Best = append(b.Best, sample(number(4*i+next()>>20%5), number(9-3*i-next()>>20%4)))
		}
		ok := bbrRight(b)
		if impl.BbrOk(b) != ok || impl.FilterOk(b.Best) != filterRight(b.Best) || (impl.BbrWin(b) == -1) == ok {
			t.Fatalf("%+v: %v", b, !ok)
		}
		x, rtt, flight := sample(number(10+next()>>20%200), number(next()>>20%10)), number(1+next()>>20%20), number(next()>>20%3)
		filterIs(t, "any numbers", b.Best, x, rtt)
		n := bbrStepIs(t, "any numbers", b, x, rtt, flight)
		if ok {
			right++
		}
		if n.Phase != 0 {
			stepped++
		}
	}
	if right < 1000 || right > 90000 || stepped < 1000 || stepped == right {
		t.Errorf("%d were right, %d of them stepped", right, stepped)
	}
}
