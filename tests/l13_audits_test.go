package tests

import (
	"slices"
	"testing"

	"loop.example/g00559/impl"
)

func TestAuditsConstants(t *testing.T) {
	if impl.AuNone != 0 || impl.AuForm != 1 || impl.AuFar != 2 || impl.AuLong != 3 {
		t.Errorf("%d %d %d %d", impl.AuNone, impl.AuForm, impl.AuFar, impl.AuLong)
	}
	if impl.AuMend != 4 || impl.AuPlace != 5 || impl.AuAck != 6 {
		t.Errorf("%d %d %d", impl.AuMend, impl.AuPlace, impl.AuAck)
	}
}

func manyNotes(many int, n impl.Note) []impl.Note {
	return slices.Repeat([]impl.Note{n}, many)
}

func TestNotesOk(t *testing.T) {
	right := rightNotes()
	for _, l := range [][]impl.Note{nil, {}, right, manyNotes(300, right[0]), manyNotes(300, right[9])} {
		if !impl.NotesOk(l) {
			t.Errorf("%+v", l)
		}
	}
	for _, n := range right {
		if !impl.NotesOk([]impl.Note{n}) {
			t.Errorf("%+v", n)
		}
		if impl.NotesOk(manyNotes(301, n)) {
			t.Errorf("301 times %+v", n)
		}
	}
	for _, n := range wrongNotes() {
		for _, l := range [][]impl.Note{{n}, {n, right[0]}, {right[0], n, right[1]}, append(manyNotes(299, right[0]), n)} {
			if impl.NotesOk(l) {
				t.Errorf("%+v", n)
			}
		}
	}
}

// wantNote is the code of a note, by what kind of note it is.
func wantNote(r *impl.Reno, b *impl.Board, due *bool, n impl.Note) int64 {
	left := b.Next - b.Una
	again := n.Kind == impl.NtSend && n.From != b.Next
	switch {
	case *due && !again:
		return impl.AuMend
	case n.Kind == impl.NtAck && n.From > b.Next:
		return impl.AuAck
	case n.Kind == impl.NtAck:
		*due = wantHear(r, b, n)
	case again && (left == 0 || n.From != b.Una):
		return impl.AuPlace
	case n.N > r.Mss, again && n.N > left, again && n.N < r.Mss && n.N < left:
		return impl.AuLong
	case again:
		if !*due {
			*r = wantReno(*r, impl.Event{Kind: impl.EvLate, Flight: left, Next: b.Next})
		}
		*due = false
	case left+n.N > r.Win:
		return impl.AuFar
	default:
		b.Next += n.N
	}
	return impl.AuNone
}

// wantAudit answers the windows, too.
func wantAudit(mss, many int64, l []impl.Note) (impl.Finding, []int64) {
	r := impl.Reno{Mss: mss, Win: many * mss, Limit: maxWin, Phase: impl.PhSlow}
	var b impl.Board
	var wins []int64
	due := false
	for i, n := range l {
		if code := wantNote(&r, &b, &due, n); code != impl.AuNone {
			return impl.Finding{Code: code, At: int64(i)}, wins
		}
		wins = append(wins, r.Win)
	}
	return impl.Finding{}, wins
}

func auditIs(t *testing.T, name string, mss, many int64, l []impl.Note, want impl.Finding, wins []int64) {
	t.Helper()
	if f := impl.Audit(mss, many, l); f != want {
		t.Errorf("%s: %+v\n%+v\nnot %+v", name, l, f, want)
	}
	if w := impl.WinsOf(mss, many, l); !slices.Equal(w, wins) {
		t.Errorf("%s: %+v\n%v\nnot %v", name, l, w, wins)
	}
}

// Promise 13: what a sender of a world did is found to be right; the windows are those that it had.
func TestPromise13WhatASenderDidIsRight(t *testing.T) {
	next := steady(70)
	notes := 0
	for range 200 {
		p := aPlay(t, int(next()>>20%300), next, noLook)
		auditIs(t, "a play", p.w.Reno.Mss, p.many, p.w.Notes, impl.Finding{}, p.wins)
		notes += len(p.w.Notes)
		if c, ok := impl.WorldCalm(p.w); ok {
			if f := impl.Audit(p.w.Reno.Mss, p.many, c.Notes); f != (impl.Finding{}) {
				t.Errorf("%+v: %+v", c.Notes, f)
			}
		}
	}
	if notes < 5000 {
		t.Errorf("only %d notes", notes)
	}
}

// Promise 13: one that sends new bytes beyond its window is found out, one that sends up to it is not.
func TestPromise13BeyondTheWindowIsFoundOut(t *testing.T) {
	next := steady(71)
	far, up := 0, 0
	for range 60 {
		aPlay(t, 200, next, func(p play) {
			mss, b := p.w.Reno.Mss, p.w.Board
			room := p.w.Reno.Win - (b.Next - b.Una)
			with := func(n int64) []impl.Note { return append(slices.Clip(p.w.Notes), sendNote(b.Next, n)) }
			if len(p.w.Notes) == 300 || next()>>20%5 > 0 {
				return
			}
			if room < mss {
				far++
				at := int64(len(p.w.Notes))
				auditIs(t, "one more than the window", mss, p.many, with(max(room+1, 1)), impl.Finding{Code: impl.AuFar, At: at}, p.wins)
				auditIs(t, "a segment more than the window", mss, p.many, with(mss), impl.Finding{Code: impl.AuFar, At: at}, p.wins)
			}
			if room > 0 {
				up++
				auditIs(t, "up to the window", mss, p.many, with(min(room, mss)), impl.Finding{}, append(slices.Clip(p.wins), p.w.Reno.Win))
			}
		})
	}
	if far < 100 || up < 100 {
		t.Errorf("%d were beyond the window, %d up to it", far, up)
	}
}

// spoiled has one of the notes changed, left out, told twice, or told at another place.
func spoiled(l []impl.Note, next func() int64) []impl.Note {
	l = cloneNotes(l)
	at := int(next() >> 20 % int64(len(l)))
	other := int(next() >> 20 % int64(len(l)))
	switch next() >> 20 % 8 {
	case 0:
		return slices.Delete(l, at, at+1)
	case 1:
		return slices.Insert(l[:len(l)-1], at, l[at])
	case 2:
		l[at], l[other] = l[other], l[at]
	case 3:
		l[at].From = max(l[at].From+next()>>20%5-2, 0)
	case 4:
		if l[at].Kind == impl.NtSend {
			l[at].N = min(max(l[at].N+next()>>20%5-2, 1), 200)
		}
	case 5:
		l[at] = l[other]
	case 6:
		l[at] = ackNote(l[other].From, l[other].Sacks...)
	case 7:
		l[at] = sendNote(l[other].From, max(l[at].N, l[other].N, 1))
	}
	return l
}

// Promise 13: what is wrong is told at the first place, whatever stands behind it.
func TestPromise13TheFirstPlaceIsTold(t *testing.T) {
	next := steady(72)
	told := map[int64]int{}
	for range 150 {
		p := aPlay(t, int(1+next()>>20%200), next, noLook)
		mss := p.w.Reno.Mss
		for range 40 {
			l := p.w.Notes
			for range 1 + next()>>20%3 {
				if len(l) > 0 {
					l = spoiled(l, next)
				}
			}
			f, wins := wantAudit(mss, p.many, l)
			auditIs(t, "spoiled", mss, p.many, l, f, wins)
			told[f.Code]++
			if f.Code == impl.AuNone {
				continue
			}
			auditIs(t, "ahead of what is wrong", mss, p.many, l[:f.At], impl.Finding{}, wins)
			auditIs(t, "up to what is wrong", mss, p.many, l[:f.At+1], f, wins)
			auditIs(t, "other notes behind it", mss, p.many, append(slices.Clone(l[:f.At+1]), rightNotes()[:min(10, 299-f.At)]...), f, wins)
		}
	}
	for code := int64(impl.AuNone); code <= impl.AuAck; code++ {
		if told[code] == 0 && code != impl.AuForm {
			t.Errorf("%d was not told: %v", code, told)
		}
	}
}

// Any right notes of small numbers are found as wanted.
func TestPromise13AnyNotes(t *testing.T) {
	next := steady(73)
	told := map[int64]int{}
	for range 20000 {
		mss, many := 1+next()>>20%3, 1+next()>>20%3
		var l []impl.Note
		sent := int64(0)
		for range next() >> 20 % 16 {
			n := ackNote(next() >> 20 % (sent + 2))
			if next()>>20%3 == 0 {
				n.From = 0
			}
			if next()>>20%2 == 0 {
				n = sendNote(sent, 1+next()>>20%mss)
				if next()>>20%4 == 0 {
					n = sendNote(next()>>20%(sent+2), 1+next()>>20%(mss+1))
				}
				sent = max(sent, n.From+n.N)
			} else if from := next() >> 20 % (sent + 1); next()>>20%2 == 0 {
				n.Sacks = []impl.Range{span(from, from+1+next()>>20%4)}
			}
			l = append(l, n)
		}
		f, wins := wantAudit(mss, many, l)
		auditIs(t, "any notes", mss, many, l, f, wins)
		told[f.Code]++
	}
	for code := int64(impl.AuNone); code <= impl.AuAck; code++ {
		if told[code] == 0 && code != impl.AuForm {
			t.Errorf("%d was not told: %v", code, told)
		}
	}
}

// An auditCase is of the notes of ahead, all right, and of those of l; wins are behind those of l.
type auditCase struct {
	name string
	l    []impl.Note
	code int64
	wins []int64
}

// auditsAre asks that in each case what is wrong is the first note of l that has no window.
func auditsAre(t *testing.T, mss, many int64, ahead []impl.Note, winsAhead []int64, l []auditCase) {
	t.Helper()
	auditIs(t, "ahead", mss, many, ahead, impl.Finding{}, winsAhead)
	for _, c := range l {
		f := impl.Finding{Code: c.code}
		if c.code != impl.AuNone {
			f.At = int64(len(ahead) + len(c.wins))
		}
		auditIs(t, c.name, mss, many, slices.Concat(ahead, c.l), f, slices.Concat(winsAhead, c.wins))
	}
}

func TestAuditNewBytes(t *testing.T) {
	auditsAre(t, 4, 2, nil, nil, []auditCase{
		{"none", nil, impl.AuNone, nil},
		{"a whole segment", []impl.Note{sendNote(0, 4)}, impl.AuNone, []int64{8}},
		{"a byte", []impl.Note{sendNote(0, 1)}, impl.AuNone, []int64{8}},
		{"one more than Mss", []impl.Note{sendNote(0, 5)}, impl.AuLong, nil},
		{"one more than Mss and than the window", []impl.Note{sendNote(0, 9)}, impl.AuLong, nil},
		{"not from 0", []impl.Note{sendNote(1, 4)}, impl.AuPlace, nil},
		{"not from 0, and one more than Mss", []impl.Note{sendNote(1, 5)}, impl.AuPlace, nil},
	})
	auditsAre(t, 4, 2, []impl.Note{sendNote(0, 4), sendNote(4, 3)}, []int64{8, 8}, []auditCase{
		{"just the window", []impl.Note{sendNote(7, 1)}, impl.AuNone, []int64{8}},
		{"one more than the window", []impl.Note{sendNote(7, 2)}, impl.AuFar, nil},
		{"one more than the window, at the last", []impl.Note{sendNote(7, 1), sendNote(8, 1)}, impl.AuFar, []int64{8}},
		{"beyond the window and longer than Mss", []impl.Note{sendNote(7, 5)}, impl.AuLong, nil},
		{"beyond Next", []impl.Note{sendNote(8, 1)}, impl.AuPlace, nil},
		{"ahead of Next", []impl.Note{sendNote(6, 1)}, impl.AuPlace, nil},
		{"an ack makes room", []impl.Note{ackNote(2), sendNote(7, 4)}, impl.AuNone, []int64{10, 10}},
		{"an ack makes not so much room", []impl.Note{ackNote(1), sendNote(7, 3), sendNote(10, 1)}, impl.AuFar, []int64{9, 9}},
		{"an ack of all", []impl.Note{ackNote(7), sendNote(7, 4), sendNote(11, 4), sendNote(15, 4)}, impl.AuNone, []int64{12, 12, 12, 12}},
		{"an ack of all, and one more", []impl.Note{ackNote(7), sendNote(7, 4), sendNote(11, 4), sendNote(15, 4), sendNote(19, 1)}, impl.AuFar, []int64{12, 12, 12, 12}},
	})
}

func TestAuditAgainThoughNothingIsDue(t *testing.T) {
	ahead := []impl.Note{sendNote(0, 4), sendNote(4, 4), sendNote(8, 4), sendNote(12, 2)}
	auditsAre(t, 4, 4, ahead, []int64{16, 16, 16, 16}, []auditCase{
		{"from Una", []impl.Note{sendNote(0, 4)}, impl.AuNone, []int64{4}},
		{"from Una, twice", []impl.Note{sendNote(0, 4), sendNote(0, 4)}, impl.AuNone, []int64{4, 4}},
		{"from Una, one less than Mss", []impl.Note{sendNote(0, 3)}, impl.AuLong, nil},
		{"from Una, one more than Mss", []impl.Note{sendNote(0, 5)}, impl.AuLong, nil},
		{"from one beyond Una", []impl.Note{sendNote(1, 4)}, impl.AuPlace, nil},
		{"from the second segment", []impl.Note{sendNote(4, 4)}, impl.AuPlace, nil},
		{"from the second segment, too long", []impl.Note{sendNote(4, 5)}, impl.AuPlace, nil},
		{"from ahead of Una", []impl.Note{ackNote(4), sendNote(0, 4)}, impl.AuPlace, []int64{20}},
		{"from beyond Next", []impl.Note{sendNote(15, 4)}, impl.AuPlace, nil},
		{"from one beyond Next", []impl.Note{sendNote(15, 1)}, impl.AuPlace, nil},
		{"then new bytes, beyond the window now", []impl.Note{sendNote(0, 4), sendNote(14, 1)}, impl.AuFar, []int64{4}},
		{"then an ack: the window grows by it", []impl.Note{sendNote(0, 4), ackNote(4)}, impl.AuNone, []int64{4, 8}},
		{"of half the flight: the window grows slower from there", []impl.Note{sendNote(0, 4), ackNote(2), ackNote(4), ackNote(6), ackNote(13)}, impl.AuNone, []int64{4, 6, 8, 8, 12}},
		{"what is left, less than Mss", []impl.Note{ackNote(12), sendNote(12, 2)}, impl.AuNone, []int64{20, 4}},
		{"what is left, one less", []impl.Note{ackNote(12), sendNote(12, 1)}, impl.AuLong, []int64{20}},
		{"what is left, one more", []impl.Note{ackNote(12), sendNote(12, 3)}, impl.AuLong, []int64{20}},
		{"what is left, Mss", []impl.Note{ackNote(12), sendNote(12, 4)}, impl.AuLong, []int64{20}},
		{"what is left, just Mss", []impl.Note{ackNote(10), sendNote(10, 4)}, impl.AuNone, []int64{20, 4}},
		{"what is left, one more than Mss", []impl.Note{ackNote(9), sendNote(9, 5)}, impl.AuLong, []int64{20}},
		{"Mss of one more that is left", []impl.Note{ackNote(9), sendNote(9, 4)}, impl.AuNone, []int64{20, 4}},
		{"Una is Next: new bytes", []impl.Note{ackNote(14), sendNote(14, 4)}, impl.AuNone, []int64{20, 20}},
		{"Una is Next: from ahead of it", []impl.Note{ackNote(14), sendNote(10, 4)}, impl.AuPlace, []int64{20}},
		{"the second of two acks alike", []impl.Note{ackNote(0), ackNote(0), sendNote(0, 4)}, impl.AuNone, []int64{16, 16, 4}},
	})
}

// dueNotes are four segments of which the first is missed: three acks alike, so that it is due.
func dueNotes() ([]impl.Note, []int64) {
	l := []impl.Note{sendNote(0, 4), sendNote(4, 4), sendNote(8, 4), sendNote(12, 4), ackNote(0, span(4, 8)), ackNote(0, span(4, 12)), ackNote(0, span(4, 16))}
	return l, []int64{16, 16, 16, 16, 16, 16, 20}
}

func TestAuditWhatIsDue(t *testing.T) {
	ahead, wins := dueNotes()
	auditsAre(t, 4, 4, ahead, wins, []auditCase{
		{"is sent", []impl.Note{sendNote(0, 4)}, impl.AuNone, []int64{20}},
		{"is sent, and again though it is due no more", []impl.Note{sendNote(0, 4), sendNote(0, 4)}, impl.AuNone, []int64{20, 4}},
		{"is sent too short", []impl.Note{sendNote(0, 3)}, impl.AuLong, nil},
		{"is sent too long", []impl.Note{sendNote(0, 5)}, impl.AuLong, nil},
		{"is sent from another place", []impl.Note{sendNote(4, 4)}, impl.AuPlace, nil},
		{"is sent from another place and too long", []impl.Note{sendNote(4, 5)}, impl.AuPlace, nil},
		{"is sent from beyond Next", []impl.Note{sendNote(17, 4)}, impl.AuPlace, nil},
		{"new bytes ahead of it", []impl.Note{sendNote(16, 4)}, impl.AuMend, nil},
		{"new bytes ahead of it, too long", []impl.Note{sendNote(16, 5)}, impl.AuMend, nil},
		{"new bytes ahead of it, beyond the window", []impl.Note{sendNote(16, 200)}, impl.AuMend, nil},
		{"an ack ahead of it", []impl.Note{ackNote(0)}, impl.AuMend, nil},
		{"an ack of all ahead of it", []impl.Note{ackNote(16)}, impl.AuMend, nil},
		{"an ack from beyond Next ahead of it", []impl.Note{ackNote(17)}, impl.AuMend, nil},
		{"then new bytes, just the window", []impl.Note{sendNote(0, 4), sendNote(16, 4)}, impl.AuNone, []int64{20, 20}},
		{"then new bytes, one more than the window", []impl.Note{sendNote(0, 4), sendNote(16, 4), sendNote(20, 1)}, impl.AuFar, []int64{20, 20}},
		{"then one more alike: nothing is due", []impl.Note{sendNote(0, 4), ackNote(0), sendNote(16, 4)}, impl.AuNone, []int64{20, 24, 24}},
		{"then one more alike: sent again though nothing is due", []impl.Note{sendNote(0, 4), ackNote(0), sendNote(0, 4)}, impl.AuNone, []int64{20, 24, 4}},
		{"then an ack that ends mending: nothing is due", []impl.Note{sendNote(0, 4), ackNote(16), sendNote(16, 4), sendNote(20, 4)}, impl.AuNone, []int64{20, 8, 8, 8}},
		{"then an ack that does not: due again", []impl.Note{sendNote(0, 4), ackNote(15), sendNote(16, 1)}, impl.AuMend, []int64{20, 9}},
		{"then an ack that does not: sent", []impl.Note{sendNote(0, 4), ackNote(15), sendNote(15, 1), sendNote(16, 4)}, impl.AuNone, []int64{20, 9, 9, 9}},
		{"then an ack that does not: sent longer than is left", []impl.Note{sendNote(0, 4), ackNote(15), sendNote(15, 4)}, impl.AuLong, []int64{20, 9}},
		{"then an ack that does not: the old place", []impl.Note{sendNote(0, 4), ackNote(4), sendNote(0, 4)}, impl.AuPlace, []int64{20, 20}},
		{"waiting ends mending: an ack makes nothing due", []impl.Note{sendNote(0, 4), sendNote(0, 4), ackNote(4), ackNote(8)}, impl.AuNone, []int64{20, 4, 8, 8}},
	})
	l, _ := dueNotes()
	auditIs(t, "two acks alike, then new bytes", 4, 4, append(l[:6:6], sendNote(16, 1)), impl.Finding{Code: impl.AuFar, At: 6}, wins[:6])
}

func TestAuditAcks(t *testing.T) {
	auditsAre(t, 4, 2, nil, nil, []auditCase{
		{"of nothing, when nothing was sent", []impl.Note{ackNote(0), ackNote(0), ackNote(0), ackNote(0), sendNote(0, 4)}, impl.AuNone, []int64{8, 8, 8, 8, 8}},
		{"of one byte, when nothing was sent", []impl.Note{ackNote(1)}, impl.AuAck, nil},
		{"of very much", []impl.Note{ackNote(20000)}, impl.AuAck, nil},
	})
	auditsAre(t, 4, 2, []impl.Note{sendNote(0, 4), sendNote(4, 4)}, []int64{8, 8}, []auditCase{
		{"up to Next", []impl.Note{ackNote(8)}, impl.AuNone, []int64{12}},
		{"one beyond Next", []impl.Note{ackNote(9)}, impl.AuAck, nil},
		{"beyond Next at the last", []impl.Note{ackNote(8), ackNote(9)}, impl.AuAck, []int64{12}},
		{"from ahead of Una", []impl.Note{ackNote(4), ackNote(3), ackNote(3), ackNote(3), ackNote(0)}, impl.AuNone, []int64{12, 12, 12, 12, 12}},
		{"from Una, and Next is Una", []impl.Note{ackNote(8), ackNote(8), ackNote(8), ackNote(8), ackNote(8)}, impl.AuNone, []int64{12, 12, 12, 12, 12}},
		{"from ahead of Una between those alike", []impl.Note{ackNote(4), ackNote(4), ackNote(4), ackNote(3), ackNote(4), sendNote(4, 4)}, impl.AuNone, []int64{12, 12, 12, 12, 20, 20}},
		{"with ranges from beyond Next", []impl.Note{ackNote(0, span(4, 9)), ackNote(0, span(19999, 20000)), ackNote(8)}, impl.AuNone, []int64{8, 8, 12}},
		{"three alike: what is due is not sent, and nothing more is seen", []impl.Note{ackNote(0), ackNote(0), ackNote(0)}, impl.AuNone, []int64{8, 8, 20}},
		{"three alike, and a fourth", []impl.Note{ackNote(0), ackNote(0), ackNote(0), ackNote(0)}, impl.AuMend, []int64{8, 8, 20}},
	})
}

// More ranges than a board can have change nothing of what is found.
func TestAuditManyRanges(t *testing.T) {
	var l []impl.Note
	var wins []int64
	for i := range int64(100) {
		l, wins = append(l, sendNote(i, 1)), append(wins, 100)
	}
	for i := range int64(45) {
		win := 80 + 10*(i-2)
		if i < 2 {
			win = 100
		}
		l, wins = append(l, ackNote(0, span(2*i+1, 2*i+2))), append(wins, win)
		if i == 2 {
			l, wins = append(l, sendNote(0, 10)), append(wins, win)
		}
	}
	auditIs(t, "45 ranges", 10, 10, l, impl.Finding{}, wins)
	auditIs(t, "45 ranges, and an ack of all", 10, 10, append(l, ackNote(100), sendNote(100, 10)), impl.Finding{}, append(wins, 50, 50))
}

func TestAuditForm(t *testing.T) {
	ahead, wins := dueNotes()
	form := impl.Finding{Code: impl.AuForm}
	auditIs(t, "right", 4, 4, ahead, impl.Finding{}, wins)
	for _, n := range append([]int64{-1, 0}, extremes...) {
		auditIs(t, "Mss", n, 4, ahead, form, nil)
		auditIs(t, "many", 4, n, ahead, form, nil)
		auditIs(t, "no notes", n, n, nil, form, nil)
	}
	auditIs(t, "Mss of one too many", maxMss+1, 1, nil, form, nil)
	auditIs(t, "11 segments", 1, 11, nil, form, nil)
	auditIs(t, "the greatest of both", maxMss, 10, []impl.Note{sendNote(0, 200), sendNote(200, 200), ackNote(400)}, impl.Finding{}, []int64{100000, 100000, 100400})
	auditIs(t, "the greatest Mss, sent again", maxMss, 1, []impl.Note{sendNote(0, 200), sendNote(0, 200)}, impl.Finding{}, []int64{maxMss, maxMss})
	auditIs(t, "the greatest Mss, half sent again", maxMss, 1, []impl.Note{sendNote(0, 200), sendNote(200, 200), sendNote(0, 200)}, impl.Finding{Code: impl.AuLong, At: 2}, []int64{maxMss, maxMss})
	auditIs(t, "the least of both", 1, 1, []impl.Note{sendNote(0, 1), sendNote(1, 1)}, impl.Finding{Code: impl.AuFar, At: 1}, []int64{1})
	for _, n := range wrongNotes() {
		auditIs(t, "a wrong note, the first", 4, 4, append([]impl.Note{n}, ahead...), form, nil)
		auditIs(t, "a wrong note in the midst", 4, 4, slices.Concat(ahead[:3], []impl.Note{n}, ahead[3:]), form, nil)
		auditIs(t, "a wrong note, the last", 4, 4, append(slices.Clip(ahead), n), form, nil)
		auditIs(t, "a wrong note behind what is wrong", 4, 4, []impl.Note{sendNote(7, 4), n}, form, nil)
	}
	auditIs(t, "300 notes", 4, 4, manyNotes(300, ackNote(0)), impl.Finding{}, slices.Repeat([]int64{16}, 300))
	auditIs(t, "301 notes", 4, 4, manyNotes(301, ackNote(0)), form, nil)
	auditIs(t, "301 notes, the first of which is wrong", 4, 4, manyNotes(301, ackNote(1)), form, nil)
	auditIs(t, "300 notes, the last of which is wrong", 4, 4, append(manyNotes(299, ackNote(0)), ackNote(1)), impl.Finding{Code: impl.AuAck, At: 299}, slices.Repeat([]int64{16}, 299))
}
