package tests

import (
	"slices"
	"testing"

	"loop.example/g00559/impl"
)

func profile(mss, many int64) impl.Profile {
	return impl.Profile{Mss: mss, Many: many}
}

func manyProfiles(many int, p impl.Profile) []impl.Profile {
	return slices.Repeat([]impl.Profile{p}, many)
}

// wrongProfiles are those of which there is no RenoNew.
func wrongProfiles() []impl.Profile {
	l := []impl.Profile{{}, profile(0, 1), profile(1, 0), profile(-1, 1), profile(1, -1), profile(maxMss+1, 1), profile(1, 11), profile(maxMss+1, 11)}
	for _, n := range extremes {
		l = append(l, profile(n, 1), profile(1, n), profile(n, n))
	}
	return l
}

func notesRight(n []impl.Note) bool {
	return len(n) < 301 && !slices.ContainsFunc(n, func(x impl.Note) bool { return !noteRight(x) })
}

// wantFitting has the windows of each place by itself, and whether its profile fits.
func wantFitting(l []impl.Profile, n []impl.Note) ([]bool, [][]int64) {
	fit, wins := make([]bool, len(l)), make([][]int64, len(l))
	for i, p := range l {
		if len(l) > 50 || p.Mss < 1 || p.Mss > maxMss || p.Many < 1 || p.Many > 10 || !notesRight(n) {
			continue
		}
		var f impl.Finding
		f, wins[i] = wantAudit(p.Mss, p.Many, n)
		fit[i] = f.Code == impl.AuNone
	}
	return fit, wins
}

// fitIs asks for the places that fit, and for the bounds behind each note and beside them all.
func fitIs(t *testing.T, name string, l []impl.Profile, n []impl.Note) []int64 {
	t.Helper()
	fit, wins := wantFitting(l, n)
	var want []int64
	for i := range l {
		if fit[i] {
			want = append(want, int64(i))
		}
	}
	if got := impl.Fits(l, n); !slices.Equal(got, want) {
		t.Errorf("%s: %+v of %+v: %v, not %v", name, l, n, got, want)
	}
	for at := range n {
		if len(want) == 0 {
			noBounds(t, name, l, n, int64(at))
			continue
		}
		var behind []int64
		for _, i := range want {
			behind = append(behind, wins[i][at])
		}
		boundsAre(t, name, l, n, int64(at), slices.Min(behind), slices.Max(behind))
	}
	for _, at := range append([]int64{-1, int64(len(n)), int64(len(n)) + 1, 300}, extremes...) {
		noBounds(t, name, l, n, at)
	}
	return want
}

func boundsAre(t *testing.T, name string, l []impl.Profile, n []impl.Note, at, least, most int64) {
	t.Helper()
	if a, b, ok := impl.WinBounds(l, n, at); !ok || a != least || b != most {
		t.Errorf("%s: %+v at %d of %+v: %d %d %v, not %d %d", name, l, at, n, a, b, ok, least, most)
	}
}

func noBounds(t *testing.T, name string, l []impl.Profile, n []impl.Note, at int64) {
	t.Helper()
	if a, b, ok := impl.WinBounds(l, n, at); ok || a != 0 || b != 0 {
		t.Errorf("%s: %+v at %d of %+v: %d %d %v", name, l, at, n, a, b, ok)
	}
}

func fitsAre(t *testing.T, name string, l []impl.Profile, n []impl.Note, want ...int64) {
	t.Helper()
	if got := fitIs(t, name, l, n); !slices.Equal(got, want) {
		t.Errorf("%s: %+v: %v, not %v", name, l, got, want)
	}
}

// nearProfiles are about as that of a sender, which is one of them; some are alike.
func nearProfiles(mss, many int64, next func() int64) []impl.Profile {
	l := []impl.Profile{profile(mss, many), profile(mss, many)}
	for range next() >> 20 % 12 {
		p := profile(mss, 1+next()>>20%10)
		switch next() >> 20 % 4 {
		case 0:
			p.Mss += next()>>20%5 - 2
		case 1:
			p.Many = many + next()>>20%3 - 1
		case 2:
			p = l[next()>>20%int64(len(l))]
		}
		l = slices.Insert(l, int(next()>>20%int64(len(l)+1)), p)
	}
	return l
}

// Promise 17: just the profiles fit by which all is right; that of the sender is one.
func TestPromise17TheSenderFits(t *testing.T) {
	next := steady(100)
	others, unlike := 0, 0
	for range 150 {
		p := aPlay(t, int(next()>>20%200), next, noLook)
		mss, n := p.w.Reno.Mss, p.w.Notes
		l := nearProfiles(mss, p.many, next)
		fitIs(t, "a play", l, n)
		got := impl.Fits(l, n)
		for i, x := range l {
			has := slices.Contains(got, int64(i))
			if has != (impl.Audit(x.Mss, x.Many, n) == impl.Finding{}) || x == profile(mss, p.many) && !has {
				t.Errorf("%d of %+v, of %d and %d: %v", i, l, mss, p.many, got)
			}
			if has && x != profile(mss, p.many) {
				others++
			}
		}
		for at := range n {
			a, b, ok := impl.WinBounds(l, n, int64(at))
			if !ok || a > p.wins[at] || b < p.wins[at] {
				t.Errorf("%+v at %d: %d %d %v, not around %d", l, at, a, b, ok, p.wins[at])
			}
			if a < b {
				unlike++
			}
		}
	}
	if others < 50 || unlike < 50 {
		t.Errorf("%d others fit, %d bounds were not alike", others, unlike)
	}
}

// Promise 17: of notes that are spoiled just those fit by which all is right, none among them.
func TestPromise17OfSpoiledNotes(t *testing.T) {
	next := steady(101)
	many := map[bool]int{}
	for range 400 {
		p := aPlay(t, int(1+next()>>20%40), next, noLook)
		n := p.w.Notes
		for range 1 + next()>>20%2 {
			if len(n) > 0 {
				n = spoiled(n, next)
			}
		}
		many[len(fitIs(t, "spoiled", nearProfiles(p.w.Reno.Mss, p.many, next), n)) > 0]++
	}
	if many[true] < 20 || many[false] < 20 {
		t.Errorf("how often any did fit: %v", many)
	}
}

func TestFitsKnown(t *testing.T) {
	// Three new segments of 4 bytes, ahead of any ack.
	n := []impl.Note{sendNote(0, 4), sendNote(4, 4), sendNote(8, 4)}
	all := []impl.Profile{profile(4, 3), profile(5, 3), profile(4, 10), profile(12, 1), profile(maxMss, 10)}
	none := []impl.Profile{profile(3, 10), profile(4, 2), profile(5, 2), profile(11, 1), profile(1, 10)}
	fitsAre(t, "all", all, n, 0, 1, 2, 3, 4)
	fitsAre(t, "none", none, n)
	fitsAre(t, "one, the first", slices.Concat(all[:1], none), n, 0)
	fitsAre(t, "one, the last", slices.Concat(none, all[:1]), n, 5)
	fitsAre(t, "one in the midst", slices.Concat(none[:2], all[:1], none[2:]), n, 2)
	fitsAre(t, "some", slices.Concat(none, all, none, all[2:]), n, 5, 6, 7, 8, 9, 15, 16, 17)
	fitsAre(t, "no profiles", nil, n)
	fitsAre(t, "no profiles", []impl.Profile{}, n)
	fitsAre(t, "no profiles and no notes", nil, nil)
	fitsAre(t, "no notes", slices.Concat(none, all), nil, 0, 1, 2, 3, 4, 5, 6, 7, 8, 9)
	fitsAre(t, "no notes", all, []impl.Note{}, 0, 1, 2, 3, 4)
	// The first segment again, though nothing is due, tells Mss.
	again := append(slices.Clip(n), sendNote(0, 4))
	fitsAre(t, "sent again", slices.Concat(none, all), again, 5, 7)
	fitsAre(t, "sent again from another place", slices.Concat(none, all), append(slices.Clip(n), sendNote(4, 4)))
	fitsAre(t, "an ack of what was not sent", slices.Concat(none, all), append(slices.Clip(n), ackNote(13)))
	fitsAre(t, "the least", []impl.Profile{profile(1, 1), profile(1, 2)}, []impl.Note{sendNote(0, 1), ackNote(0), ackNote(1)}, 0, 1)
}

func TestFitsAlike(t *testing.T) {
	n := []impl.Note{sendNote(0, 4), sendNote(4, 4)}
	good, bad, wrong := profile(4, 2), profile(4, 1), profile(0, 0)
	fitsAre(t, "alike", []impl.Profile{good, good, good}, n, 0, 1, 2)
	fitsAre(t, "alike, none of which fits", []impl.Profile{bad, bad, wrong, wrong}, n)
	fitsAre(t, "alike, parted by others", []impl.Profile{bad, good, wrong, bad, good, good, bad}, n, 1, 4, 5)
	fitsAre(t, "numbers changed for each other", []impl.Profile{profile(2, 4), good, profile(2, 4)}, n, 1)
}

func TestFitsManyProfiles(t *testing.T) {
	n := []impl.Note{sendNote(0, 4), sendNote(4, 4)}
	good, bad := profile(4, 2), profile(4, 1)
	var all []int64
	for i := range int64(50) {
		all = append(all, i)
	}
	fitsAre(t, "49 alike", manyProfiles(49, good), n, all[:49]...)
	fitsAre(t, "50 alike", manyProfiles(50, good), n, all...)
	fitsAre(t, "50, the last of which fits", append(manyProfiles(49, bad), good), n, 49)
	fitsAre(t, "51 alike", manyProfiles(51, good), n)
	fitsAre(t, "51, the last of which does not fit", append(manyProfiles(50, good), bad), n)
	fitsAre(t, "51, the last of which is none", append(manyProfiles(50, good), impl.Profile{}), n)
	fitsAre(t, "51 and no notes", manyProfiles(51, good), nil)
	fitsAre(t, "1000", manyProfiles(1000, good), n)
	var unlike []impl.Profile
	for i := range int64(51) {
		unlike = append(unlike, profile(4+i/10, 1+i%10))
	}
	for _, many := range []int{49, 50, 51} {
		got := fitIs(t, "profiles that differ", unlike[:many], n)
		if (len(got) > 0) != (many < 51) {
			t.Errorf("%d: %v", many, got)
		}
	}
}

func TestFitsWithoutReno(t *testing.T) {
	for _, n := range [][]impl.Note{nil, {sendNote(0, 1)}, {ackNote(0)}} {
		wrong := wrongProfiles()
		fitsAre(t, "alone", wrong[:1], n)
		fitsAre(t, "all of them", wrong, n)
		for _, p := range wrong {
			fitsAre(t, "amid others", []impl.Profile{p, profile(1, 1), p, profile(maxMss, 10), p}, n, 1, 3)
		}
		fitsAre(t, "at the limits", []impl.Profile{profile(1, 1), profile(1, 10), profile(maxMss, 1), profile(maxMss, 10)}, n, 0, 1, 2, 3)
	}
}

func TestFitsNotes(t *testing.T) {
	l := []impl.Profile{profile(4, 4), profile(200, 10), {}, profile(4, 4)}
	fitsAre(t, "299 notes", l, manyNotes(299, ackNote(0)), 0, 1, 3)
	fitsAre(t, "300 notes", l, manyNotes(300, ackNote(0)), 0, 1, 3)
	fitsAre(t, "301 notes", l, manyNotes(301, ackNote(0)))
	fitsAre(t, "300 notes, the last of which is wrong", l, append(manyNotes(299, ackNote(0)), ackNote(1)))
	fitsAre(t, "301 notes, the last of which is wrong", l, append(manyNotes(300, ackNote(0)), ackNote(1)))
	for _, n := range wrongNotes() {
		fitsAre(t, "a note that is not right", l, []impl.Note{n})
		fitsAre(t, "the first is not right", l, []impl.Note{n, sendNote(0, 4)})
		fitsAre(t, "the last is not right", l, []impl.Note{sendNote(0, 4), ackNote(4), n})
	}
}

func TestWinBoundsKnown(t *testing.T) {
	n := []impl.Note{sendNote(0, 4), sendNote(4, 4), ackNote(4), ackNote(8), sendNote(8, 4), sendNote(12, 4), sendNote(8, 4)}
	l := []impl.Profile{profile(4, 3), profile(4, 1), profile(4, 10), profile(4, 2), profile(8, 1), profile(4, 10), {}}
	fitsAre(t, "known", l, n, 0, 2, 3, 5)
	for at, want := range [][]int64{{8, 40}, {8, 40}, {12, 44}, {16, 48}, {16, 48}, {16, 48}, {4, 4}} {
		boundsAre(t, "known", l, n, int64(at), want[0], want[1])
		boundsAre(t, "of one", l[3:5], n, int64(at), want[0], want[0])
		boundsAre(t, "of those alike", []impl.Profile{l[2], l[1], l[2]}, n, int64(at), want[1], want[1])
		noBounds(t, "of none", l[1:2], n, int64(at))
		noBounds(t, "of no profiles", nil, n, int64(at))
		noBounds(t, "of 51", manyProfiles(51, l[0]), n, int64(at))
		boundsAre(t, "of 50", append(manyProfiles(49, l[3]), l[2]), n, int64(at), want[0], want[1])
	}
	for _, at := range append([]int64{-1, 7, 8, 299, 300, 1 << 32}, extremes...) {
		noBounds(t, "no such note", l, n, at)
	}
	// What fits up to a note need not fit by all of them.
	fitsAre(t, "ahead of what is sent again", l, n[:6], 0, 2, 3, 4, 5)
	boundsAre(t, "ahead of what is sent again, of 8", l[4:5], n[:6], 5, 16, 16)
	noBounds(t, "with what is sent again, of 8", l[4:5], n, 5)
	boundsAre(t, "the greatest", []impl.Profile{profile(maxMss, 10), profile(maxMss, 9)}, n[:1], 0, 9*maxMss, 10*maxMss)
	noBounds(t, "no notes", l, nil, 0)
}

// wantAgain asks of each note whether any one ahead of it ends beyond where it begins.
func wantAgain(n []impl.Note) []int64 {
	var l []int64
	for i, x := range n {
		ahead := func(y impl.Note) bool { return y.Kind == impl.NtSend && x.From < y.From+y.N }
		if notesRight(n) && x.Kind == impl.NtSend && slices.ContainsFunc(n[:i], ahead) {
			l = append(l, int64(i))
		}
	}
	return l
}

func wantGoodput(n []impl.Note) int64 {
	acks := []int64{0}
	for _, x := range n {
		if notesRight(n) && x.Kind == impl.NtAck {
			acks = append(acks, x.From)
		}
	}
	return slices.Max(acks)
}

func seenIs(t *testing.T, name string, n []impl.Note, goodput int64, again ...int64) {
	t.Helper()
	if l := impl.Again(n); !slices.Equal(l, again) || !slices.Equal(l, wantAgain(n)) {
		t.Errorf("%s: %+v: again %v, not %v", name, n, l, again)
	}
	if most := impl.Goodput(n); most != goodput || most != wantGoodput(n) {
		t.Errorf("%s: %+v: %d, not %d", name, n, most, goodput)
	}
}

func TestAgain(t *testing.T) {
	seenIs(t, "nothing", nil, 0)
	seenIs(t, "nothing", []impl.Note{}, 0)
	seenIs(t, "from 0", []impl.Note{sendNote(0, 1)}, 0)
	seenIs(t, "just where one ends", []impl.Note{sendNote(0, 4), sendNote(4, 4), sendNote(8, 4)}, 0)
	seenIs(t, "one byte ahead of it", []impl.Note{sendNote(0, 4), sendNote(3, 4)}, 0, 1)
	seenIs(t, "one byte behind it", []impl.Note{sendNote(0, 4), sendNote(5, 4)}, 0)
	seenIs(t, "from where one begins", []impl.Note{sendNote(7, 4), sendNote(7, 4), sendNote(7, 1)}, 0, 1, 2)
	seenIs(t, "from ahead of where one begins", []impl.Note{sendNote(7, 4), sendNote(2, 1), sendNote(0, 1)}, 0, 1, 2)
	seenIs(t, "one byte within one that is not the last", []impl.Note{sendNote(0, 8), sendNote(0, 2), sendNote(7, 1)}, 0, 1, 2)
	seenIs(t, "just where one that is not the last ends", []impl.Note{sendNote(0, 8), sendNote(0, 2), sendNote(8, 1)}, 0, 1)
	seenIs(t, "far beyond one, then where an other ended", []impl.Note{sendNote(0, 4), sendNote(100, 4), sendNote(4, 4), sendNote(104, 4)}, 0, 2)
	seenIs(t, "those that were sent again count too", []impl.Note{sendNote(4, 4), sendNote(0, 200), sendNote(199, 1), sendNote(200, 1)}, 0, 1, 2)
	seenIs(t, "acks between", []impl.Note{ackNote(50), sendNote(0, 4), ackNote(3, span(6, 9)), sendNote(4, 4), ackNote(8), sendNote(7, 2)}, 50, 5)
	seenIs(t, "acks alone", []impl.Note{ackNote(9), ackNote(3), ackNote(0)}, 9)
	seenIs(t, "the greatest", []impl.Note{sendNote(10000, 200), sendNote(10000, 200), sendNote(9999, 1)}, 0, 1, 2)
}

func TestGoodput(t *testing.T) {
	seenIs(t, "one ack", []impl.Note{ackNote(5)}, 5)
	seenIs(t, "an ack of nothing", []impl.Note{ackNote(0)}, 0)
	seenIs(t, "acks that go back", []impl.Note{ackNote(5), ackNote(9), ackNote(8), ackNote(0)}, 9)
	seenIs(t, "acks that go on", []impl.Note{ackNote(0), ackNote(5), ackNote(9)}, 9)
	seenIs(t, "acks alike", []impl.Note{ackNote(9), ackNote(9), ackNote(9)}, 9)
	seenIs(t, "ranges and sends are none", []impl.Note{sendNote(10000, 200), ackNote(7, span(8, 20000))}, 7)
	seenIs(t, "sends alone", []impl.Note{sendNote(0, 200), sendNote(200, 200)}, 0)
	seenIs(t, "the greatest", []impl.Note{ackNote(20000), ackNote(19999)}, 20000)
}

func TestSeenOfWrongNotes(t *testing.T) {
	ahead := []impl.Note{sendNote(0, 4), sendNote(0, 4), ackNote(4)}
	seenIs(t, "right", ahead, 4, 1)
	for _, x := range wrongNotes() {
		seenIs(t, "alone", []impl.Note{x}, 0)
		seenIs(t, "the last", append(slices.Clip(ahead), x), 0)
		seenIs(t, "the first", slices.Concat([]impl.Note{x}, ahead), 0)
		seenIs(t, "in the midst", slices.Concat(ahead[:2], []impl.Note{x}, ahead[2:]), 0)
	}
	many := append(manyNotes(297, ackNote(1)), ahead...)
	seenIs(t, "300", many, 4, 298)
	seenIs(t, "301", append(many, ackNote(1)), 0)
	seenIs(t, "301 sends", manyNotes(301, sendNote(0, 4)), 0)
	if l := impl.Again(manyNotes(300, sendNote(0, 4))); len(l) != 299 || l[0] != 1 || l[298] != 299 {
		t.Errorf("300 sends: %v", l)
	}
}

// Any small notes and profiles are answered as wanted, right or not.
func TestFitsOfAnyNumbers(t *testing.T) {
	next := steady(102)
	numbers := append([]int64{-1, 0, 1, 2, 3, 10, 11, maxMss, maxMss + 1}, extremes...)
	number := func() int64 {
		if next()>>20%8 == 0 {
			return numbers[next()>>20%int64(len(numbers))]
		}
		return 1 + next()>>20%3
	}
	some, none := 0, 0
	for range 10000 {
		var l []impl.Profile
		for range next() >> 20 % 5 {
			l = append(l, profile(number(), number()))
		}
		var n []impl.Note
		for range next() >> 20 % 6 {
			x := sendNote(next()>>20%4, 1+next()>>20%3)
			if next()>>20%2 == 0 {
				x = ackNote(next() >> 20 % 4)
			}
			if next()>>20%30 == 0 {
				x.N = numbers[next()>>20%int64(len(numbers))]
			}
			n = append(n, x)
		}
		if len(fitIs(t, "any numbers", l, n)) > 0 {
			some++
		} else {
			none++
		}
		seenIs(t, "any numbers", n, wantGoodput(n), wantAgain(n)...)
	}
	if some < 500 || none < 500 {
		t.Errorf("some fit %d times, none %d times", some, none)
	}
}
