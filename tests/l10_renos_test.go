package tests

import (
	"testing"

	"loop.example/g00559/impl"
)

const maxMss = int64(10000)

func TestRenosConstants(t *testing.T) {
	if impl.PhSlow != 1 || impl.PhAvoid != 2 || impl.PhMend != 3 {
		t.Errorf("%d %d %d", impl.PhSlow, impl.PhAvoid, impl.PhMend)
	}
	if impl.EvAck != 1 || impl.EvDup != 2 || impl.EvLate != 3 || impl.MaxWin != maxWin {
		t.Errorf("%d %d %d %d", impl.EvAck, impl.EvDup, impl.EvLate, impl.MaxWin)
	}
}

func TestRenoNew(t *testing.T) {
	for _, mss := range []int64{1, 2, 10, maxMss - 1, maxMss} {
		for many := int64(1); many <= 10; many++ {
			r, ok := impl.RenoNew(mss, many)
			want := impl.Reno{Mss: mss, Win: mss * many, Limit: maxWin, Phase: impl.PhSlow}
			if !ok || r != want || !impl.RenoOk(r) {
				t.Errorf("%d of %d: %+v %v", many, mss, r, ok)
			}
		}
	}
	for _, n := range append([]int64{-1, 0}, extremes...) {
		noReno(t, n, 1)
		noReno(t, 1, n)
		noReno(t, n, n)
	}
	noReno(t, maxMss+1, 1)
	noReno(t, 1, 11)
	noReno(t, maxMss+1, 11)
}

func noReno(t *testing.T, mss, many int64) {
	t.Helper()
	if r, ok := impl.RenoNew(mss, many); ok || r != (impl.Reno{}) {
		t.Errorf("%d of %d: %+v %v", many, mss, r, ok)
	}
}

// aReno is a right one, often with a number at one of its limits.
func aReno(next func() int64) impl.Reno {
	r := impl.Reno{Mss: among(1, maxMss, next), Over: among(0, maxWin, next), Phase: 1 + next()>>20%3}
	r.Limit = among(2*r.Mss, maxWin, next)
	if next()>>20%2 == 0 {
		r.Limit = among(2*r.Mss, 20*r.Mss, next)
	}
	switch r.Phase {
	case impl.PhSlow:
		r.Win = among(r.Mss, r.Limit-1, next)
		if next()>>20%4 == 0 {
			r.Win = max(r.Limit-1-next()>>20%(r.Mss+2), r.Mss)
		}
		r.Dup = next() >> 20 % 3
	case impl.PhAvoid:
		r.Win = among(r.Limit, maxWin, next)
		r.Dup, r.Gained = next()>>20%3, among(0, r.Win-1, next)
	default:
		r.Win, r.Dup = among(r.Mss, maxWin, next), 3
	}
	return r
}

// anEvent is a right one, often with a number at which r begins to do something else.
func anEvent(r impl.Reno, next func() int64) impl.Event {
	e := impl.Event{Kind: 1 + next()>>20%3, Flight: among(0, maxWin, next)}
	if next()>>20%2 == 0 {
		e.Flight = 4*r.Mss - 3 + next()>>20%7
	}
	e.Ack = among(0, maxWin, next)
	if next()>>20%2 == 0 {
		e.Ack = min(max(r.Over-1+next()>>20%3, 0), maxWin)
	}
	e.Next = among(e.Ack, maxWin, next)
	if e.Kind == impl.EvAck {
		near := []int64{r.Mss, r.Win, r.Win - r.Gained, r.Win - r.Mss, among(1, maxWin, next)}[next()>>20%5]
		e.N = min(max(near-1+next()>>20%3, 1), maxWin)
	}
	return e
}

// wantReno reckons by kinds of events, as the document tells it, and not by phases.
func wantReno(r impl.Reno, e impl.Event) impl.Reno {
	half := 2 * r.Mss
	if e.Flight/2 > half {
		half = e.Flight / 2
	}
	mends := r.Phase == impl.PhMend
	switch {
	case e.Kind == impl.EvAck && mends && e.Ack >= r.Over:
		r.Win, r.Dup, mends = r.Limit, 0, false
	case e.Kind == impl.EvAck && mends:
		r.Win = r.Win - e.N + r.Mss
		if r.Win < r.Mss {
			r.Win = r.Mss
		}
	case e.Kind == impl.EvAck && r.Phase == impl.PhSlow && e.N < r.Mss:
		r.Dup, r.Win = 0, r.Win+e.N
	case e.Kind == impl.EvAck && r.Phase == impl.PhSlow:
		r.Dup, r.Win = 0, r.Win+r.Mss
	case e.Kind == impl.EvAck && r.Gained+e.N < r.Win:
		r.Dup, r.Gained = 0, r.Gained+e.N
	case e.Kind == impl.EvAck:
		r.Dup, r.Gained, r.Win = 0, r.Gained+e.N-r.Win, r.Win+r.Mss
	case e.Kind == impl.EvLate:
		r.Limit, r.Win, r.Dup, r.Gained, r.Over, mends = half, r.Mss, 0, 0, e.Next, false
	case mends:
		r.Win += r.Mss
	case r.Dup < 2:
		r.Dup++
	default:
		r.Limit, r.Win, r.Dup, r.Gained, r.Over, mends = half, half+3*r.Mss, 3, 0, e.Next, true
	}
	if r.Win > maxWin {
		r.Win = maxWin
	}
	return wantPhase(r, mends)
}

func wantPhase(r impl.Reno, mends bool) impl.Reno {
	switch {
	case mends:
		r.Phase = impl.PhMend
	case r.Win < r.Limit:
		r.Phase, r.Gained = impl.PhSlow, 0
	default:
		r.Phase = impl.PhAvoid
		if r.Gained > r.Win-1 {
			r.Gained = r.Win - 1
		}
	}
	return r
}

func stepIs(t *testing.T, name string, r impl.Reno, e impl.Event, want impl.Reno) {
	t.Helper()
	if s, ok := impl.RenoStep(r, e); !ok || s != want || !impl.RenoOk(s) {
		t.Errorf("%s: %+v with %+v: %+v %v, not %+v", name, r, e, s, ok, want)
	}
}

// Promise 10: nothing but three acks alike, or that nothing came, makes a window that mends nothing less;
// an ack makes it no more than one segment greater.
func TestPromise10WhatMakesAWindowLess(t *testing.T) {
	next := steady(40)
	less := map[int64]int{}
	for range 100000 {
		r := aReno(next)
		e := anEvent(r, next)
		stepIs(t, "a step", r, e, wantReno(r, e))
		if r.Phase == impl.PhMend {
			continue
		}
		s, _ := impl.RenoStep(r, e)
		if s.Win < r.Win {
			less[e.Kind]++
			if e.Kind == impl.EvAck || e.Kind == impl.EvDup && r.Dup != 2 {
				t.Errorf("%+v with %+v: %+v is less", r, e, s)
			}
		}
		if e.Kind == impl.EvAck && s.Win > r.Win+r.Mss {
			t.Errorf("%+v with %+v: %+v is more than one segment greater", r, e, s)
		}
		if e.Kind == impl.EvDup && r.Dup != 2 && s.Win != r.Win {
			t.Errorf("%+v with %+v: %+v is another window", r, e, s)
		}
	}
	if less[impl.EvDup] == 0 || less[impl.EvLate] == 0 {
		t.Errorf("%v", less)
	}
}

// Promise 10: over many events, with the acks alike counted by themselves.
func TestPromise10ManyEvents(t *testing.T) {
	next := steady(41)
	for range 500 {
		r, _ := impl.RenoNew(among(1, maxMss, next), 1+next()>>20%10)
		alike := 0
		for range 200 {
			e := anEvent(r, next)
			if e.Kind == impl.EvDup {
				alike++
			} else {
				alike = 0
			}
			s, ok := impl.RenoStep(r, e)
			if !ok || !impl.RenoOk(s) || s != wantReno(r, e) {
				t.Fatalf("%+v with %+v: %+v %v, not %+v", r, e, s, ok, wantReno(r, e))
			}
			if r.Phase != impl.PhMend {
				if s.Win < r.Win && alike != 3 && e.Kind != impl.EvLate {
					t.Fatalf("%+v with %+v, %d alike: %+v is less", r, e, alike, s)
				}
				if (s.Phase == impl.PhMend) != (alike == 3) {
					t.Fatalf("%+v with %+v, %d alike: %+v", r, e, alike, s)
				}
			}
			r = s
		}
	}
}

func slowReno(win, limit, dup int64) impl.Reno {
	return impl.Reno{Mss: 10, Win: win, Limit: limit, Phase: impl.PhSlow, Dup: dup, Over: 50}
}

func avoidReno(win, limit, dup, gained int64) impl.Reno {
	return impl.Reno{Mss: 10, Win: win, Limit: limit, Phase: impl.PhAvoid, Dup: dup, Over: 50, Gained: gained}
}

func mendReno(win, limit int64) impl.Reno {
	return impl.Reno{Mss: 10, Win: win, Limit: limit, Phase: impl.PhMend, Dup: 3, Over: 50}
}

// overNext is r with what anAck, aDup and aLate have as Next.
func overNext(r impl.Reno) impl.Reno {
	r.Over = 100
	return r
}

func anAck(n, ack int64) impl.Event {
	return impl.Event{Kind: impl.EvAck, N: n, Ack: ack, Flight: 90, Next: 100}
}

func aDup(flight int64) impl.Event {
	return impl.Event{Kind: impl.EvDup, Ack: 50, Flight: flight, Next: 100}
}

func aLate(flight int64) impl.Event {
	return impl.Event{Kind: impl.EvLate, Ack: 50, Flight: flight, Next: 100}
}

type renoCase struct {
	name string
	r    impl.Reno
	e    impl.Event
	want impl.Reno
}

func stepsAre(t *testing.T, l []renoCase) {
	t.Helper()
	for _, c := range l {
		stepIs(t, c.name, c.r, c.e, c.want)
	}
}

func TestRenoStepSlow(t *testing.T) {
	stepsAre(t, []renoCase{
		{"an ack of one byte", slowReno(20, 90, 0), anAck(1, 60), slowReno(21, 90, 0)},
		{"an ack of one less than Mss", slowReno(20, 90, 0), anAck(9, 60), slowReno(29, 90, 0)},
		{"an ack of Mss", slowReno(20, 90, 0), anAck(10, 60), slowReno(30, 90, 0)},
		{"an ack of one more than Mss", slowReno(20, 90, 0), anAck(11, 60), slowReno(30, 90, 0)},
		{"an ack of very much", slowReno(20, 90, 0), anAck(maxWin, 60), slowReno(30, 90, 0)},
		{"an ack behind acks alike", slowReno(20, 90, 2), anAck(10, 60), slowReno(30, 90, 0)},
		{"an ack ahead of Over", slowReno(20, 90, 1), anAck(10, 49), slowReno(30, 90, 0)},
		{"an ack up to one below Limit", slowReno(80, 90, 0), anAck(9, 60), slowReno(89, 90, 0)},
		{"an ack just up to Limit", slowReno(80, 90, 0), anAck(10, 60), avoidReno(90, 90, 0, 0)},
		{"an ack from one below Limit", slowReno(89, 90, 0), anAck(1, 60), avoidReno(90, 90, 0, 0)},
		{"an ack beyond Limit", slowReno(89, 90, 1), anAck(50, 60), avoidReno(99, 90, 0, 0)},
		{"an ack from one below MaxWin", slowReno(maxWin-1, maxWin, 0), anAck(10, 60), avoidReno(maxWin, maxWin, 0, 0)},
		{"an ack just up to MaxWin", slowReno(maxWin-10, maxWin, 0), anAck(10, 60), avoidReno(maxWin, maxWin, 0, 0)},
		{"an ack up to one below MaxWin", slowReno(maxWin-11, maxWin, 0), anAck(10, 60), slowReno(maxWin-1, maxWin, 0)},
		{"the first ack alike", slowReno(40, 90, 0), aDup(70), slowReno(40, 90, 1)},
		{"the second ack alike", slowReno(40, 90, 1), aDup(70), slowReno(40, 90, 2)},
		{"the third ack alike", slowReno(40, 90, 2), aDup(70), overNext(mendReno(65, 35))},
		{"the third ack alike, a Flight of 0", slowReno(40, 90, 2), aDup(0), overNext(mendReno(50, 20))},
		{"the third ack alike, half just twice Mss", slowReno(40, 90, 2), aDup(40), overNext(mendReno(50, 20))},
		{"the third ack alike, half cut to twice Mss", slowReno(40, 90, 2), aDup(41), overNext(mendReno(50, 20))},
		{"the third ack alike, half less than twice Mss", slowReno(40, 90, 2), aDup(39), overNext(mendReno(50, 20))},
		{"the third ack alike, half more than twice Mss", slowReno(40, 90, 2), aDup(42), overNext(mendReno(51, 21))},
		{"the third ack alike, a Flight of MaxWin", slowReno(40, 90, 2), aDup(maxWin), overNext(mendReno(maxWin/2+30, maxWin/2))},
		{"nothing came", slowReno(40, 90, 2), aLate(70), overNext(slowReno(10, 35, 0))},
		{"nothing came, a Flight of 0", slowReno(40, 90, 0), aLate(0), overNext(slowReno(10, 20, 0))},
		{"nothing came, half less than twice Mss", slowReno(40, 90, 1), aLate(39), overNext(slowReno(10, 20, 0))},
		{"nothing came, half just twice Mss", slowReno(40, 90, 1), aLate(40), overNext(slowReno(10, 20, 0))},
		{"nothing came, half more than twice Mss", slowReno(40, 90, 1), aLate(42), overNext(slowReno(10, 21, 0))},
		{"nothing came, a Flight of MaxWin", slowReno(10, 20, 1), aLate(maxWin), overNext(slowReno(10, maxWin/2, 0))},
	})
}

func TestRenoStepAvoid(t *testing.T) {
	stepsAre(t, []renoCase{
		{"Gained up to one less than Win", avoidReno(40, 30, 0, 0), anAck(39, 60), avoidReno(40, 30, 0, 39)},
		{"Gained just up to Win", avoidReno(40, 30, 0, 0), anAck(40, 60), avoidReno(50, 30, 0, 0)},
		{"Gained up to one more than Win", avoidReno(40, 30, 0, 0), anAck(41, 60), avoidReno(50, 30, 0, 1)},
		{"some more Gained, up to one less than Win", avoidReno(40, 30, 0, 25), anAck(14, 60), avoidReno(40, 30, 0, 39)},
		{"some more Gained, just up to Win", avoidReno(40, 30, 0, 25), anAck(15, 60), avoidReno(50, 30, 0, 0)},
		{"one byte from one less than Win", avoidReno(40, 30, 0, 39), anAck(1, 60), avoidReno(50, 30, 0, 0)},
		{"Gained up to the greater Win less two", avoidReno(40, 30, 0, 0), anAck(88, 60), avoidReno(50, 30, 0, 48)},
		{"Gained up to the greater Win less one", avoidReno(40, 30, 0, 0), anAck(89, 60), avoidReno(50, 30, 0, 49)},
		{"Gained up to the greater Win", avoidReno(40, 30, 0, 0), anAck(90, 60), avoidReno(50, 30, 0, 49)},
		{"Gained of very much", avoidReno(40, 30, 2, 39), anAck(maxWin, 60), avoidReno(50, 30, 0, 49)},
		{"an ack behind acks alike", avoidReno(40, 30, 2, 5), anAck(1, 60), avoidReno(40, 30, 0, 6)},
		{"an ack ahead of Over", avoidReno(40, 30, 1, 5), anAck(1, 49), avoidReno(40, 30, 0, 6)},
		{"an ack with Win just at Limit", avoidReno(40, 40, 0, 5), anAck(1, 60), avoidReno(40, 40, 0, 6)},
		{"an ack at MaxWin", avoidReno(maxWin, 40, 0, 5), anAck(1, 60), avoidReno(maxWin, 40, 0, 6)},
		{"Gained of a Win of MaxWin", avoidReno(maxWin, 40, 0, 5), anAck(maxWin, 60), avoidReno(maxWin, 40, 0, 5)},
		{"all Gained of a Win of MaxWin", avoidReno(maxWin, maxWin, 0, maxWin-1), anAck(maxWin, 60), avoidReno(maxWin, maxWin, 0, maxWin-1)},
		{"Gained of one below MaxWin", avoidReno(maxWin-1, 40, 0, 0), anAck(maxWin, 60), avoidReno(maxWin, 40, 0, 1)},
		{"Gained just up to MaxWin", avoidReno(maxWin-10, 40, 0, 0), anAck(maxWin-10, 60), avoidReno(maxWin, 40, 0, 0)},
		{"the first ack alike", avoidReno(40, 30, 0, 5), aDup(70), avoidReno(40, 30, 1, 5)},
		{"the second ack alike", avoidReno(40, 30, 1, 39), aDup(70), avoidReno(40, 30, 2, 39)},
		{"the third ack alike", avoidReno(40, 30, 2, 5), aDup(70), overNext(mendReno(65, 35))},
		{"the third ack alike, a Flight of 0", avoidReno(40, 30, 2, 39), aDup(0), overNext(mendReno(50, 20))},
		{"the third ack alike at MaxWin", avoidReno(maxWin, maxWin, 2, 0), aDup(maxWin), overNext(mendReno(maxWin/2+30, maxWin/2))},
		{"nothing came", avoidReno(40, 30, 2, 5), aLate(70), overNext(slowReno(10, 35, 0))},
		{"nothing came, a Flight of 0", avoidReno(20, 20, 0, 19), aLate(0), overNext(slowReno(10, 20, 0))},
		{"nothing came at MaxWin", avoidReno(maxWin, 30, 1, 5), aLate(maxWin), overNext(slowReno(10, maxWin/2, 0))},
	})
}

func TestRenoStepMend(t *testing.T) {
	stepsAre(t, []renoCase{
		{"the fourth ack alike", mendReno(65, 35), aDup(70), mendReno(75, 35)},
		{"an ack alike below Limit", mendReno(10, 35), aDup(0), mendReno(20, 35)},
		{"an ack alike up to one below MaxWin", mendReno(maxWin-11, 35), aDup(70), mendReno(maxWin-1, 35)},
		{"an ack alike just up to MaxWin", mendReno(maxWin-10, 35), aDup(70), mendReno(maxWin, 35)},
		{"an ack alike beyond MaxWin", mendReno(maxWin-9, 35), aDup(70), mendReno(maxWin, 35)},
		{"an ack alike at MaxWin", mendReno(maxWin, 35), aDup(70), mendReno(maxWin, 35)},
		{"an ack one ahead of Over", mendReno(65, 35), anAck(15, 49), mendReno(60, 35)},
		{"an ack that ends at Over", mendReno(65, 35), anAck(15, 50), avoidReno(35, 35, 0, 0)},
		{"an ack one beyond Over", mendReno(65, 35), anAck(15, 51), avoidReno(35, 35, 0, 0)},
		{"an ack at Over of a window below Limit", mendReno(10, 35), anAck(maxWin, 50), avoidReno(35, 35, 0, 0)},
		{"an ack at Over with the greatest Limit", mendReno(10, maxWin), anAck(1, 50), avoidReno(maxWin, maxWin, 0, 0)},
		{"an ack at Over with the least Limit", mendReno(10, 20), anAck(1, 50), avoidReno(20, 20, 0, 0)},
		{"an ack ahead of Over of one byte", mendReno(65, 35), anAck(1, 49), mendReno(74, 35)},
		{"an ack ahead of Over of Mss", mendReno(65, 35), anAck(10, 0), mendReno(65, 35)},
		{"an ack ahead of Over of one less than Win", mendReno(65, 35), anAck(64, 49), mendReno(11, 35)},
		{"an ack ahead of Over of Win", mendReno(65, 35), anAck(65, 49), mendReno(10, 35)},
		{"an ack ahead of Over of one more than Win", mendReno(65, 35), anAck(66, 49), mendReno(10, 35)},
		{"an ack ahead of Over of very much", mendReno(65, 35), anAck(maxWin, 49), mendReno(10, 35)},
		{"an ack ahead of Over that comes below Limit", mendReno(40, 35), anAck(20, 49), mendReno(30, 35)},
		{"an ack ahead of Over at MaxWin", mendReno(maxWin, 35), anAck(1, 49), mendReno(maxWin, 35)},
		{"an ack ahead of Over of Mss at MaxWin", mendReno(maxWin, 35), anAck(11, 49), mendReno(maxWin-1, 35)},
		{"nothing came", mendReno(65, 35), aLate(70), overNext(slowReno(10, 35, 0))},
		{"nothing came, a Flight of 0", mendReno(65, 35), aLate(0), overNext(slowReno(10, 20, 0))},
		{"nothing came, a window of Mss", mendReno(10, 35), aLate(90), overNext(slowReno(10, 45, 0))},
		{"nothing came at MaxWin", mendReno(maxWin, maxWin), aLate(41), overNext(slowReno(10, 20, 0))},
	})
	atNought := impl.Reno{Mss: 10, Win: 65, Limit: 35, Phase: impl.PhMend, Dup: 3}
	stepIs(t, "an ack at 0, an Over of 0", atNought, impl.Event{Kind: impl.EvAck, N: 1}, impl.Reno{Mss: 10, Win: 35, Limit: 35, Phase: impl.PhAvoid})
}

// rightRenos are at the limits.
func rightRenos() []impl.Reno {
	return []impl.Reno{
		{Mss: 1, Win: 1, Limit: 2, Phase: impl.PhSlow},
		{Mss: maxMss, Win: maxMss, Limit: 2 * maxMss, Phase: impl.PhSlow, Dup: 2, Over: maxWin},
		{Mss: 10, Win: maxWin - 1, Limit: maxWin, Phase: impl.PhSlow},
		slowReno(89, 90, 1),
		avoidReno(90, 90, 0, 89),
		avoidReno(20, 20, 1, 0),
		{Mss: maxMss, Win: maxWin, Limit: maxWin, Phase: impl.PhAvoid, Dup: 2, Over: maxWin, Gained: maxWin - 1},
		mendReno(10, 20),
		mendReno(90, 90),
		mendReno(maxWin, 20),
		mendReno(10, maxWin),
		{Mss: maxMss, Win: maxWin, Limit: maxWin, Phase: impl.PhMend, Dup: 3, Over: maxWin},
	}
}

// wrongRenos: but for the first, which is zero, each is wrong by one number, or by two that do not go together.
func wrongRenos() []impl.Reno {
	right := []impl.Reno{slowReno(40, 90, 1), avoidReno(90, 40, 1, 5), mendReno(40, 90)}
	l := []impl.Reno{
		{},
		slowReno(90, 90, 0), slowReno(91, 90, 0), slowReno(maxWin, maxWin, 0), slowReno(40, 90, 3),
		avoidReno(89, 90, 0, 0), avoidReno(20, maxWin, 0, 0), avoidReno(90, 40, 3, 0),
		avoidReno(90, 40, 0, 90), avoidReno(90, 40, 0, 91), avoidReno(90, 40, 0, -1),
	}
	change := func(n int64, at func(r *impl.Reno) *int64) {
		for _, r := range right {
			*at(&r) = n
			l = append(l, r)
		}
	}
	for _, n := range append([]int64{-1, maxWin + 1}, extremes...) {
		change(n, func(r *impl.Reno) *int64 { return &r.Win })
		change(n, func(r *impl.Reno) *int64 { return &r.Limit })
		change(n, func(r *impl.Reno) *int64 { return &r.Over })
		change(n, func(r *impl.Reno) *int64 { return &r.Gained })
		change(n, func(r *impl.Reno) *int64 { return &r.Phase })
		change(n, func(r *impl.Reno) *int64 { return &r.Dup })
		change(n, func(r *impl.Reno) *int64 { return &r.Mss })
	}
	for _, n := range []int64{0, 9} {
		change(n, func(r *impl.Reno) *int64 { return &r.Win })
	}
	for _, n := range []int64{0, 19} {
		change(n, func(r *impl.Reno) *int64 { return &r.Limit })
	}
	for _, n := range []int64{0, 4} {
		change(n, func(r *impl.Reno) *int64 { return &r.Phase })
	}
	change(0, func(r *impl.Reno) *int64 { return &r.Mss })
	change(4, func(r *impl.Reno) *int64 { return &r.Dup })
	for _, dup := range []int64{0, 1, 2} {
		r := mendReno(40, 90)
		r.Dup = dup
		l = append(l, r)
	}
	for _, r := range []impl.Reno{slowReno(40, 90, 1), mendReno(40, 90)} {
		r.Gained = 1
		l = append(l, r)
	}
	big := mendReno(maxWin/2, maxWin)
	big.Mss = maxMss + 1
	return append(l, big)
}

// rightEvents has each kind, at the limits.
func rightEvents() []impl.Event {
	l := []impl.Event{{Kind: impl.EvAck, N: 1}, {Kind: impl.EvAck, N: maxWin, Ack: maxWin, Flight: maxWin, Next: maxWin}}
	for _, kind := range []int64{impl.EvDup, impl.EvLate} {
		l = append(l, impl.Event{Kind: kind}, impl.Event{Kind: kind, Ack: maxWin, Flight: maxWin, Next: maxWin}, impl.Event{Kind: kind, Next: maxWin})
	}
	return l
}

// wrongEvents: each is an event with one number that is not right.
func wrongEvents() []impl.Event {
	l := []impl.Event{
		{}, {Ack: 5, Next: 9}, {Kind: 4}, {Kind: -1}, {Kind: 4, N: 1},
		{Kind: impl.EvAck}, {Kind: impl.EvAck, N: -1}, {Kind: impl.EvAck, N: maxWin + 1},
		{Kind: impl.EvDup, N: 1}, {Kind: impl.EvDup, N: -1}, {Kind: impl.EvDup, N: maxWin},
		{Kind: impl.EvLate, N: 1}, {Kind: impl.EvLate, N: -1}, {Kind: impl.EvLate, N: maxWin},
	}
	for _, e := range []impl.Event{anAck(5, 60), aDup(70), aLate(70)} {
		for _, n := range append([]int64{-1, maxWin + 1}, extremes...) {
			kind, many, ack, flight, sent := e, e, e, e, e
			kind.Kind, many.N, ack.Ack, flight.Flight, sent.Next = n, n, n, n, n
			l = append(l, kind, many, ack, flight, sent)
		}
		e.Ack, e.Next = 5, 4
		l = append(l, e)
		e.Ack, e.Next = 1, 0
		l = append(l, e)
		e.Ack, e.Next = maxWin+1, maxWin
		l = append(l, e)
		e.Ack, e.Next = maxWin+1, maxWin+1
		l = append(l, e)
	}
	return l
}

func noStep(t *testing.T, r impl.Reno, e impl.Event) {
	t.Helper()
	if s, ok := impl.RenoStep(r, e); ok || s != (impl.Reno{}) {
		t.Errorf("%+v with %+v: %+v %v", r, e, s, ok)
	}
}

func TestRenoOk(t *testing.T) {
	for _, r := range rightRenos() {
		if !impl.RenoOk(r) {
			t.Errorf("%+v", r)
		}
		for _, e := range rightEvents() {
			stepIs(t, "right", r, e, wantReno(r, e))
		}
		if s, n := impl.RenoPlay(r, nil); n != 0 || s != r {
			t.Errorf("%+v: %+v %d", r, s, n)
		}
	}
	for _, r := range wrongRenos() {
		if impl.RenoOk(r) {
			t.Errorf("%+v", r)
		}
		for _, e := range append(rightEvents(), wrongEvents()...) {
			noStep(t, r, e)
			noPlay(t, r, []impl.Event{e})
		}
		noPlay(t, r, nil)
		noPlay(t, r, make([]impl.Event, 201))
	}
}

func TestRenoStepEvents(t *testing.T) {
	for _, r := range rightRenos() {
		for _, e := range wrongEvents() {
			noStep(t, r, e)
			if s, n := impl.RenoPlay(r, []impl.Event{e}); n != 0 || s != r {
				t.Errorf("%+v with %+v: %+v %d", r, e, s, n)
			}
		}
	}
}

func noPlay(t *testing.T, r impl.Reno, l []impl.Event) {
	t.Helper()
	if s, n := impl.RenoPlay(r, l); n != -1 || s != (impl.Reno{}) {
		t.Errorf("%+v with %d events: %+v %d", r, len(l), s, n)
	}
}

func someEvents(r impl.Reno, many int, next func() int64) []impl.Event {
	l := make([]impl.Event, many)
	for i := range l {
		l[i] = anEvent(r, next)
		r = wantReno(r, l[i])
	}
	return l
}

// playIs holds what is played against the first events, taken one by one.
func playIs(t *testing.T, r impl.Reno, l []impl.Event, many int) {
	t.Helper()
	want := r
	for _, e := range l[:many] {
		want = wantReno(want, e)
	}
	if s, n := impl.RenoPlay(r, l); n != int64(many) || s != want {
		t.Errorf("%+v with %d events: %+v %d, not %+v %d", r, len(l), s, n, want, many)
	}
}

func TestRenoPlay(t *testing.T) {
	next := steady(42)
	for _, many := range []int{0, 1, 2, 5, 199, 200} {
		for range 20 {
			r := aReno(next)
			l := someEvents(r, many, next)
			playIs(t, r, l, many)
			for wrong := range l {
				was := l[wrong]
				l[wrong] = wrongEvents()[wrong%len(wrongEvents())]
				playIs(t, r, l, wrong)
				l[wrong] = was
			}
		}
	}
}

func TestRenoPlayTooMany(t *testing.T) {
	next := steady(43)
	for _, r := range rightRenos() {
		noPlay(t, r, someEvents(r, 201, next))
		noPlay(t, r, make([]impl.Event, 201))
		noPlay(t, r, make([]impl.Event, 1000))
		playIs(t, r, make([]impl.Event, 200), 0)
	}
}
