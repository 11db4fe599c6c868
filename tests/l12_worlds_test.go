package tests

import (
	"slices"
	"strings"
	"testing"

	"loop.example/g00559/impl"
)

func sendNote(from, n int64) impl.Note {
	return impl.Note{Kind: impl.NtSend, From: from, N: n}
}

func ackNote(from int64, sacks ...impl.Range) impl.Note {
	return impl.Note{Kind: impl.NtAck, From: from, Sacks: sacks}
}

func span(from, to int64) impl.Range {
	return impl.Range{From: from, To: to}
}

func sameNote(a, b impl.Note) bool {
	return a.Kind == b.Kind && a.From == b.From && a.N == b.N && slices.Equal(a.Sacks, b.Sacks)
}

func sameNotes(a, b []impl.Note) bool {
	return slices.EqualFunc(a, b, sameNote)
}

func sameWorld(a, b impl.World) bool {
	numbers := a.Total == b.Total && a.Reno == b.Reno && sameBoard(a.Board, b.Board)
	return numbers && slices.Equal(a.Got, b.Got) && slices.Equal(a.Down, b.Down) && sameNotes(a.Up, b.Up) && sameNotes(a.Notes, b.Notes)
}

func cloneNotes(l []impl.Note) []impl.Note {
	c := slices.Clone(l)
	for i := range c {
		c[i].Sacks = slices.Clone(c[i].Sacks)
	}
	return c
}

func cloneWorld(w impl.World) impl.World {
	w.Board.Sacked = slices.Clone(w.Board.Sacked)
	w.Got = slices.Clone(w.Got)
	w.Down = slices.Clone(w.Down)
	w.Up = cloneNotes(w.Up)
	w.Notes = cloneNotes(w.Notes)
	return w
}

// streamPiece is a piece of the stream.
func streamPiece(from, to int64) impl.Piece {
	all := strings.Repeat("abcdefghijklmnopqrstuvwxyz", int(to/26)+1)
	return impl.Piece{From: from, Data: all[from:to]}
}

// places has each place of a stream by itself: whether it is there.
type places []bool

func placesOf(room int64, l []impl.Range) places {
	p := make(places, room)
	for _, r := range l {
		p.fill(r.From, r.To)
	}
	return p
}

func (p places) fill(from, to int64) {
	for at := from; at < to; at++ {
		p[at] = true
	}
}

func (p places) ranges() []impl.Range {
	var l []impl.Range
	for at, there := range p {
		if !there {
			continue
		}
		if at == 0 || !p[at-1] {
			l = append(l, span(int64(at), int64(at)))
		}
		l[len(l)-1].To++
	}
	return l
}

func rangesOfPieces(l []impl.Piece) []impl.Range {
	var r []impl.Range
	for _, p := range l {
		r = append(r, span(p.From, p.From+int64(len(p.Data))))
	}
	return r
}

// wantHear tells whether one then sends from Una.
func wantHear(r *impl.Reno, b *impl.Board, ack impl.Note) bool {
	una, next := b.Una, b.Next
	if ack.From < una || ack.From > next || una == next {
		return false
	}
	told := placesOf(next+1, b.Sacked)
	e := impl.Event{Kind: impl.EvDup, Ack: ack.From, Flight: next - una, Next: next}
	if ack.From > una {
		e.Kind, e.N, b.Una = impl.EvAck, ack.From-una, ack.From
		for at := range ack.From + 1 {
			told[at] = false
		}
	}
	b.Sacked = told.ranges()
	for _, s := range ack.Sacks {
		if s.From > b.Una && s.To <= next {
			told.fill(s.From, s.To)
		}
	}
	if l := told.ranges(); len(l) < 41 {
		b.Sacked = l
	}
	mended := r.Phase == impl.PhMend
	*r = wantReno(*r, e)
	if r.Phase != impl.PhMend {
		return false
	}
	return !mended || e.N > 0
}

func wantSegment(w *impl.World, from int64) {
	n := int64(0)
	for n < w.Reno.Mss && from+n < w.Board.Next {
		n++
	}
	w.Down = append(w.Down, span(from, from+n))
	w.Notes = append(w.Notes, sendNote(from, n))
}

func wantSend(w *impl.World) int64 {
	from := w.Board.Next
	to := from
	for to < w.Total && to < from+w.Reno.Mss {
		to++
	}
	if to == from || to > w.Board.Una+w.Reno.Win {
		return impl.WcNone
	}
	w.Board.Next = to
	wantSegment(w, from)
	return impl.WcOk
}

func wantDown(w *impl.World, s impl.Step) int64 {
	if s.At < 0 || s.At >= int64(len(w.Down)) {
		return impl.WcNone
	}
	r := w.Down[s.At]
	w.Down = slices.Delete(w.Down, int(s.At), int(s.At)+1)
	if s.Drop {
		return impl.WcOk
	}
	got := placesOf(w.Total, rangesOfPieces(w.Got))
	got.fill(r.From, r.To)
	ack := ackNote(0)
	w.Got = nil
	for _, r := range got.ranges() {
		w.Got = append(w.Got, streamPiece(r.From, r.To))
		if r.From == 0 {
			ack.From = r.To
		} else if len(ack.Sacks) < 3 {
			ack.Sacks = append(ack.Sacks, r)
		}
	}
	w.Up = append(w.Up, ack)
	return impl.WcOk
}

func wantUp(w *impl.World, s impl.Step) int64 {
	if s.At < 0 || s.At >= int64(len(w.Up)) {
		return impl.WcNone
	}
	ack := w.Up[s.At]
	w.Up = slices.Delete(w.Up, int(s.At), int(s.At)+1)
	if s.Drop {
		return impl.WcOk
	}
	w.Notes = append(w.Notes, ack)
	if wantHear(&w.Reno, &w.Board, ack) {
		wantSegment(w, w.Board.Una)
	}
	return impl.WcOk
}

func wantLate(w *impl.World) int64 {
	flight := w.Board.Next - w.Board.Una
	if flight == 0 {
		return impl.WcNone
	}
	w.Reno = wantReno(w.Reno, impl.Event{Kind: impl.EvLate, Flight: flight, Next: w.Board.Next})
	wantSegment(w, w.Board.Una)
	return impl.WcOk
}

// wantDo has a step of a right world done place by place.
func wantDo(w impl.World, s impl.Step) (impl.World, int64) {
	after := cloneWorld(w)
	code := int64(impl.WcForm)
	switch s.Kind {
	case impl.WsSend:
		code = wantSend(&after)
	case impl.WsDown:
		code = wantDown(&after, s)
	case impl.WsUp:
		code = wantUp(&after, s)
	case impl.WsLate:
		code = wantLate(&after)
	}
	if code == impl.WcOk && max(len(after.Down), len(after.Up), len(after.Got), len(after.Notes)-240) > 60 {
		code = impl.WcFull
	}
	if code != impl.WcOk {
		return w, code
	}
	return after, code
}

func wantCalm(w impl.World) (impl.World, bool) {
	for w.Board.Una != w.Total {
		code := int64(impl.WcNone)
		after := w
		for _, kind := range []int64{impl.WsUp, impl.WsDown, impl.WsSend, impl.WsLate} {
			if code == impl.WcNone {
				after, code = wantDo(w, impl.Step{Kind: kind})
			}
		}
		if code != impl.WcOk {
			return impl.World{}, false
		}
		w = after
	}
	return w, true
}

// emptySends counts the ranges without bytes that are Down, and were noted.
func emptySends(w impl.World) int {
	many := 0
	for _, r := range w.Down {
		if r.From == r.To {
			many++
		}
	}
	for _, n := range w.Notes {
		if n.Kind == impl.NtSend && n.N == 0 {
			many++
		}
	}
	return many
}

// asRightAsItMayBe asks that a world is right, but for what was sent without bytes, with which it is not.
func asRightAsItMayBe(w impl.World) bool {
	bare := cloneWorld(w)
	bare.Down = slices.DeleteFunc(bare.Down, func(r impl.Range) bool { return r.From == r.To })
	bare.Notes = slices.DeleteFunc(bare.Notes, func(n impl.Note) bool { return n.Kind == impl.NtSend && n.N == 0 })
	return impl.WorldOk(bare) && impl.WorldOk(w) == (emptySends(w) == 0)
}

// doesAsWanted answers what the world is behind the step.
func doesAsWanted(t *testing.T, w impl.World, s impl.Step) (impl.World, int64) {
	t.Helper()
	want, code := wantDo(w, s)
	after, told := impl.WorldDo(w, s)
	if told != code || !sameWorld(after, want) || !asRightAsItMayBe(after) {
		t.Fatalf("%+v\nwith %+v: %d\n%+v\nnot %d\n%+v", w, s, told, after, code, want)
	}
	return after, code
}

// midWorld is in the midst of its stream: a segment that is missing, one that comes twice, one at the end; acks from beyond Una, from Una and from ahead of it.
func midWorld() impl.World {
	return impl.World{
		Total: 40,
		Reno:  impl.Reno{Mss: 4, Win: 16, Limit: maxWin, Phase: impl.PhSlow},
		Board: impl.Board{Una: 8, Next: 20, Sacked: []impl.Range{span(14, 16)}},
		Got:   []impl.Piece{streamPiece(0, 10), streamPiece(12, 16)},
		Down:  []impl.Range{span(8, 12), span(0, 4), span(16, 20)},
		Up:    []impl.Note{ackNote(10), ackNote(8, span(12, 16)), ackNote(5, span(12, 16))},
		Notes: []impl.Note{sendNote(0, 4), ackNote(8, span(14, 16))},
	}
}

type worldChange func(w *impl.World)

func changed(w impl.World, l ...worldChange) impl.World {
	w = cloneWorld(w)
	for _, change := range l {
		change(&w)
	}
	return w
}

func withTotal(n int64) worldChange {
	return func(w *impl.World) { w.Total = n }
}

func withWin(n int64) worldChange {
	return func(w *impl.World) { w.Reno.Win = n }
}

func withDown(many int) worldChange {
	return func(w *impl.World) {
		for len(w.Down) < many {
			w.Down = append(w.Down, span(8, 12))
		}
	}
}

func withUp(many int) worldChange {
	return func(w *impl.World) {
		for len(w.Up) < many {
			w.Up = append(w.Up, ackNote(9))
		}
	}
}

func withNotes(many int) worldChange {
	return func(w *impl.World) {
		for len(w.Notes) < many {
			w.Notes = append(w.Notes, sendNote(3, 5))
		}
	}
}

// withGot has so many pieces, a byte each, and all that is sent up to the last one.
func withGot(many int) worldChange {
	return func(w *impl.World) {
		*w = impl.World{Total: 3000, Reno: w.Reno, Board: impl.Board{Next: 1000}}
		for i := range int64(many) {
			w.Got = append(w.Got, streamPiece(3*i+3, 3*i+4))
		}
	}
}

func withReno(r impl.Reno) worldChange {
	return func(w *impl.World) { w.Reno = r }
}

func TestWorldsConstants(t *testing.T) {
	if impl.WsSend != 1 || impl.WsDown != 2 || impl.WsUp != 3 || impl.WsLate != 4 {
		t.Errorf("%d %d %d %d", impl.WsSend, impl.WsDown, impl.WsUp, impl.WsLate)
	}
	if impl.WcOk != 0 || impl.WcForm != 1 || impl.WcNone != 2 || impl.WcFull != 3 {
		t.Errorf("%d %d %d %d", impl.WcOk, impl.WcForm, impl.WcNone, impl.WcFull)
	}
	if impl.NtSend != 1 || impl.NtAck != 2 || impl.MaxNote != 300 {
		t.Errorf("%d %d %d", impl.NtSend, impl.NtAck, impl.MaxNote)
	}
}

func TestWorldNew(t *testing.T) {
	for _, total := range []int64{0, 1, 2, 2999, 3000} {
		for _, mss := range []int64{1, 2, 199, 200} {
			for many := int64(1); many <= 10; many++ {
				want := impl.World{Total: total, Reno: impl.Reno{Mss: mss, Win: mss * many, Limit: maxWin, Phase: impl.PhSlow}}
				if w, ok := impl.WorldNew(total, mss, many); !ok || !sameWorld(w, want) || !impl.WorldOk(w) {
					t.Errorf("%d, %d of %d: %+v %v", total, many, mss, w, ok)
				}
			}
		}
	}
	for _, n := range append([]int64{-1}, extremes...) {
		noNewWorld(t, n, 1, 1)
		noNewWorld(t, 1, n, 1)
		noNewWorld(t, 1, 1, n)
		noNewWorld(t, n, n, n)
	}
	noNewWorld(t, 3001, 1, 1)
	noNewWorld(t, 3000, 0, 1)
	noNewWorld(t, 3000, 201, 1)
	noNewWorld(t, 3000, maxMss, 1)
	noNewWorld(t, 3000, maxMss+1, 1)
	noNewWorld(t, 3000, 200, 0)
	noNewWorld(t, 3000, 200, 11)
}

func noNewWorld(t *testing.T, total, mss, many int64) {
	t.Helper()
	if w, ok := impl.WorldNew(total, mss, many); ok || !sameWorld(w, impl.World{}) {
		t.Errorf("%d, %d of %d: %+v %v", total, many, mss, w, ok)
	}
}

// rightWorlds are at the limits.
func rightWorlds() []impl.World {
	w := midWorld()
	l := []impl.World{
		w,
		changed(w, withTotal(20)), changed(w, withTotal(3000)),
		changed(w, withDown(60)), changed(w, withUp(60)), changed(w, withNotes(300)),
		changed(w, withDown(60), withUp(60), withNotes(300)),
		changed(w, withGot(60)),
		changed(w, withReno(impl.Reno{Mss: 200, Win: 200, Limit: 400, Phase: impl.PhSlow})),
		changed(w, withReno(impl.Reno{Mss: 4, Win: maxWin, Limit: maxWin, Phase: impl.PhAvoid, Over: maxWin, Gained: maxWin - 1})),
		changed(w, withReno(impl.Reno{Mss: 4, Win: 4, Limit: 8, Phase: impl.PhMend, Dup: 3, Over: 21})),
	}
	for _, change := range []worldChange{
		func(w *impl.World) { w.Board.Una = 10 },
		func(w *impl.World) { w.Board.Una = 0 },
		func(w *impl.World) { w.Board.Sacked = nil },
		func(w *impl.World) { w.Board.Sacked = []impl.Range{span(12, 16)} },
		func(w *impl.World) { w.Board.Sacked = []impl.Range{span(9, 10), span(12, 13), span(14, 16)} },
		func(w *impl.World) { w.Got[1] = streamPiece(12, 20) },
		func(w *impl.World) { w.Got = append(w.Got, streamPiece(19, 20)) },
		func(w *impl.World) { w.Down = nil },
		func(w *impl.World) {
			w.Down = []impl.Range{span(0, 1), span(0, 4), span(19, 20), span(3, 7), span(3, 7)}
		},
		func(w *impl.World) { w.Up = nil },
		func(w *impl.World) {
			w.Up = []impl.Note{ackNote(0), ackNote(10, span(0, 10), span(12, 16), span(12, 16))}
		},
		func(w *impl.World) { w.Up = []impl.Note{ackNote(10, span(15, 16), span(12, 13), span(9, 10))} },
		func(w *impl.World) { w.Notes = nil },
		func(w *impl.World) { w.Notes = rightNotes() },
	} {
		l = append(l, changed(w, change))
	}
	return l
}

// wrongWorlds: but for the first, which is zero, each is wrong in one part.
func wrongWorlds() []impl.World {
	w := midWorld()
	l := []impl.World{
		{},
		changed(w, withTotal(19)), changed(w, withTotal(3001)), changed(w, withTotal(-1)),
		changed(w, withDown(61)), changed(w, withUp(61)), changed(w, withNotes(301)), changed(w, withGot(61)),
		changed(w, withReno(impl.Reno{Mss: 201, Win: 201, Limit: 402, Phase: impl.PhSlow})),
		changed(w, withReno(impl.Reno{})),
		changed(w, withWin(maxWin)), changed(w, withWin(3)),
	}
	changes := []worldChange{
		func(w *impl.World) { w.Board.Una = 11 },
		func(w *impl.World) { w.Board.Una = 21 },
		func(w *impl.World) { w.Board.Una = -1 },
		func(w *impl.World) { w.Board.Next = 15 },
		func(w *impl.World) { w.Board.Next = 41 },
		func(w *impl.World) { w.Board.Sacked = []impl.Range{span(11, 13)} },
		func(w *impl.World) { w.Board.Sacked = []impl.Range{span(11, 12)} },
		func(w *impl.World) { w.Board.Sacked = []impl.Range{span(15, 17)} },
		func(w *impl.World) { w.Board.Sacked = []impl.Range{span(9, 13)} },
		func(w *impl.World) { w.Board.Sacked = []impl.Range{span(14, 16), span(18, 19)} },
		func(w *impl.World) { w.Board.Sacked = []impl.Range{span(8, 10)} },
		func(w *impl.World) { w.Board.Sacked = []impl.Range{span(14, 14)} },
		func(w *impl.World) { w.Got = nil },
		func(w *impl.World) { w.Got = w.Got[1:] },
		func(w *impl.World) { w.Got[0] = streamPiece(0, 7) },
		func(w *impl.World) { w.Got[0] = streamPiece(1, 10) },
		func(w *impl.World) { w.Got[0].Data = "abcdefghiX" },
		func(w *impl.World) { w.Got[0].Data = "Xbcdefghij" },
		func(w *impl.World) { w.Got[1].Data = "abcd" },
		func(w *impl.World) { w.Got[1].Data = "" },
		func(w *impl.World) { w.Got = []impl.Piece{streamPiece(0, 10), streamPiece(10, 16)} },
		func(w *impl.World) { w.Got = []impl.Piece{w.Got[1], w.Got[0]} },
		func(w *impl.World) { w.Got = append(w.Got, streamPiece(18, 21)) },
		func(w *impl.World) { w.Got = append(w.Got, impl.Piece{From: -1, Data: "z"}) },
	}
	for _, r := range append(wrongRanges(), span(8, 13), span(17, 21), span(20, 21), span(0, 5)) {
		changes = append(changes, func(w *impl.World) { w.Down[1] = r })
	}
	for _, n := range append(wrongNotes(), sendNote(0, 4), ackNote(11), ackNote(16), ackNote(10, span(12, 17)), ackNote(10, span(11, 16)), ackNote(10, span(9, 13)), ackNote(10, span(12, 16), span(10, 11))) {
		changes = append(changes, func(w *impl.World) { w.Up[0] = n }, func(w *impl.World) { w.Up[2] = n })
	}
	for _, n := range wrongNotes() {
		changes = append(changes, func(w *impl.World) { w.Notes[0] = n }, func(w *impl.World) { w.Notes[1] = n })
	}
	for _, change := range changes {
		l = append(l, changed(w, change))
	}
	return l
}

// wrongRanges are empty, turned round, or begin ahead of 0.
func wrongRanges() []impl.Range {
	l := []impl.Range{{}, span(5, 5), span(5, 4), span(-1, 3), span(-1, 0)}
	for _, n := range extremes {
		l = append(l, span(n, n), span(n, 5), span(5, -n), span(n, -n), span(n, n+1))
	}
	return slices.DeleteFunc(l, func(r impl.Range) bool { return r.From >= 0 && r.To > r.From && r.To < 5000 })
}

// rightNotes are at the limits.
func rightNotes() []impl.Note {
	return []impl.Note{
		sendNote(0, 1), sendNote(10000, 200), sendNote(10000, 1), sendNote(0, 200),
		{Kind: impl.NtSend, From: 1, N: 1, Sacks: []impl.Range{}},
		ackNote(0), ackNote(20000), ackNote(5, span(0, 1)), ackNote(5, span(19999, 20000)),
		ackNote(0, span(0, 20000), span(0, 20000), span(7, 9)),
	}
}

// wrongNotes: each is wrong by one number, or by its ranges.
func wrongNotes() []impl.Note {
	l := []impl.Note{
		{}, {Kind: 3}, {Kind: -1}, {Kind: 3, N: 1},
		sendNote(0, 0), sendNote(0, 201), sendNote(0, -1), sendNote(-1, 1), sendNote(10001, 1),
		{Kind: impl.NtSend, N: 1, Sacks: []impl.Range{span(1, 2)}},
		ackNote(-1), ackNote(20001), {Kind: impl.NtAck, N: 1}, {Kind: impl.NtAck, N: -1},
		ackNote(0, span(1, 2), span(3, 4), span(5, 6), span(7, 8)),
		ackNote(0, span(19999, 20001)), ackNote(0, span(20000, 20000)), ackNote(0, span(20000, 20001)),
	}
	for _, r := range wrongRanges() {
		l = append(l, ackNote(0, r), ackNote(0, span(1, 2), span(3, 4), r))
	}
	for _, n := range extremes {
		l = append(l, sendNote(n, 1), sendNote(0, n), ackNote(n), impl.Note{Kind: impl.NtAck, N: n}, impl.Note{Kind: n, N: 1}, impl.Note{Kind: n})
	}
	return l
}

func anyStep() []impl.Step {
	var l []impl.Step
	for kind := int64(-1); kind <= 5; kind++ {
		for _, at := range []int64{0, 1, 2, 3, -1, 59, 60} {
			l = append(l, impl.Step{Kind: kind, At: at}, impl.Step{Kind: kind, At: at, Drop: true})
		}
	}
	for _, n := range extremes {
		l = append(l, impl.Step{Kind: n}, impl.Step{Kind: impl.WsDown, At: n}, impl.Step{Kind: impl.WsUp, At: n}, impl.Step{Kind: impl.WsSend, At: n})
	}
	return l
}

func TestWorldOk(t *testing.T) {
	for i, w := range rightWorlds() {
		if !impl.WorldOk(w) {
			t.Errorf("%d: %+v", i, w)
			continue
		}
		for _, s := range anyStep() {
			doesAsWanted(t, w, s)
		}
		calmIs(t, w)
	}
	for i, w := range wrongWorlds() {
		if impl.WorldOk(w) {
			t.Errorf("%d: %+v", i, w)
		}
		for _, s := range anyStep() {
			if n, code := impl.WorldDo(w, s); code != impl.WcForm || !sameWorld(n, impl.World{}) {
				t.Errorf("%d with %+v: %+v %d", i, s, n, code)
			}
		}
		for _, l := range [][]impl.Step{nil, {{Kind: impl.WsSend}}, make([]impl.Step, 301)} {
			noWorldPlay(t, w, l)
		}
		if n, ok := impl.WorldCalm(w); ok || !sameWorld(n, impl.World{}) {
			t.Errorf("%d: %+v %v", i, n, ok)
		}
	}
}

// A doCase without a change leaves the world as it is.
type doCase struct {
	name string
	w    impl.World
	s    impl.Step
	code int64
	want worldChange
}

func doAre(t *testing.T, l []doCase) {
	t.Helper()
	for _, c := range l {
		want := cloneWorld(c.w)
		if c.want != nil {
			c.want(&want)
		}
		w, code := impl.WorldDo(c.w, c.s)
		if code != c.code || !sameWorld(w, want) || !impl.WorldOk(c.w) || !asRightAsItMayBe(w) {
			t.Errorf("%s: %d\n%+v\nnot %d\n%+v", c.name, code, w, c.code, want)
		}
	}
}

// segment is sent from there: last in Down, and noted.
func segment(w *impl.World, from, n int64) {
	w.Down = append(w.Down, span(from, from+n))
	w.Notes = append(w.Notes, sendNote(from, n))
}

func sentNew(n int64) worldChange {
	return func(w *impl.World) {
		segment(w, w.Board.Next, n)
		w.Board.Next += n
	}
}

func TestWorldDoSend(t *testing.T) {
	w := midWorld()
	send := impl.Step{Kind: impl.WsSend}
	next := func(n int64) worldChange { return func(w *impl.World) { w.Board.Next = n } }
	una := func(w *impl.World) { w.Board.Una = 7 }
	none, full := int64(impl.WcNone), int64(impl.WcFull)
	mends := impl.Reno{Mss: 4, Win: 16, Limit: 8, Phase: impl.PhMend, Dup: 3, Over: 20}
	doAre(t, []doCase{
		{"just the window", w, send, impl.WcOk, sentNew(4)},
		{"one more than the window", changed(w, withWin(15)), send, none, nil},
		{"one more than the window, as Una is one less", changed(w, una), send, none, nil},
		{"one less than the window", changed(w, withWin(17)), send, impl.WcOk, sentNew(4)},
		{"just the window, of a Next one more", changed(w, withWin(17), next(21)), send, impl.WcOk, sentNew(4)},
		{"a last piece of Mss", changed(w, withTotal(24)), send, impl.WcOk, sentNew(4)},
		{"a last piece of one less than Mss", changed(w, withTotal(23)), send, impl.WcOk, sentNew(3)},
		{"a last piece of a byte", changed(w, withTotal(21)), send, impl.WcOk, sentNew(1)},
		{"a last piece that is just the window", changed(w, withTotal(23), withWin(15)), send, impl.WcOk, sentNew(3)},
		{"a last piece that is one more than the window", changed(w, withTotal(23), withWin(14)), send, none, nil},
		{"none left", changed(w, withTotal(20)), send, none, nil},
		{"none left, and all is full", changed(w, withTotal(20), withNotes(300), withDown(60)), send, none, nil},
		{"beyond the window, and all is full", changed(w, withWin(15), withNotes(300), withDown(60)), send, none, nil},
		{"the 60th Down", changed(w, withDown(59)), send, impl.WcOk, sentNew(4)},
		{"the 61st Down", changed(w, withDown(60)), send, full, nil},
		{"the 300th note", changed(w, withNotes(299)), send, impl.WcOk, sentNew(4)},
		{"the 301st note", changed(w, withNotes(300)), send, full, nil},
		{"with 60 Up", changed(w, withUp(60)), send, impl.WcOk, sentNew(4)},
		{"with a place and a drop", w, impl.Step{Kind: impl.WsSend, At: -7, Drop: true}, impl.WcOk, sentNew(4)},
		{"while it mends", changed(w, withReno(mends)), send, impl.WcOk, sentNew(4)},
		{"kind 0", w, impl.Step{}, impl.WcForm, nil},
		{"kind 5", w, impl.Step{Kind: 5}, impl.WcForm, nil},
		{"kind -1, and all is full", changed(w, withNotes(300), withDown(60), withUp(60)), impl.Step{Kind: -1}, impl.WcForm, nil},
	})
	w, _ = impl.WorldNew(0, 200, 10)
	doAre(t, []doCase{{"nothing at all", w, send, none, nil}})
	w, _ = impl.WorldNew(3000, 200, 1)
	doAre(t, []doCase{{"the first of many", w, send, impl.WcOk, sentNew(200)}})
}

// cameDown has the pieces that were got, and the ack of them.
func cameDown(at int, ack impl.Note, got ...impl.Piece) worldChange {
	return func(w *impl.World) {
		w.Down = slices.Delete(w.Down, at, at+1)
		w.Up = append(w.Up, ack)
		w.Got = got
	}
}

func lostDown(at int) worldChange {
	return func(w *impl.World) { w.Down = slices.Delete(w.Down, at, at+1) }
}

func TestWorldDoDown(t *testing.T) {
	w := midWorld()
	down := func(at int64) impl.Step { return impl.Step{Kind: impl.WsDown, At: at} }
	lose := func(at int64) impl.Step { return impl.Step{Kind: impl.WsDown, At: at, Drop: true} }
	none, full := int64(impl.WcNone), int64(impl.WcFull)
	l := []doCase{
		{"fills a hole", w, down(0), impl.WcOk, cameDown(0, ackNote(16), streamPiece(0, 16))},
		{"is there already", w, down(1), impl.WcOk, cameDown(1, ackNote(10, span(12, 16)), w.Got...)},
		{"ends where all that was sent ends", w, down(2), impl.WcOk, cameDown(2, ackNote(10, span(12, 20)), w.Got[0], streamPiece(12, 20))},
		{"is lost", w, lose(0), impl.WcOk, lostDown(0)},
		{"the last is lost", w, lose(2), impl.WcOk, lostDown(2)},
		{"there is none at that place", w, down(3), none, nil},
		{"none to lose at that place", w, lose(3), none, nil},
		{"ahead of all places", w, down(-1), none, nil},
		{"none to lose ahead of all places", w, lose(-1), none, nil},
		{"the 60th Up", changed(w, withUp(59)), down(0), impl.WcOk, cameDown(0, ackNote(16), streamPiece(0, 16))},
		{"the 61st Up", changed(w, withUp(60)), down(0), full, nil},
		{"the 61st Up, but it is lost", changed(w, withUp(60)), lose(0), impl.WcOk, lostDown(0)},
		{"with 60 Up there is none", changed(w, withUp(60)), down(3), none, nil},
		{"with 300 notes and 60 Down", changed(w, withNotes(300), withDown(60)), down(0), impl.WcOk, cameDown(0, ackNote(16), streamPiece(0, 16))},
	}
	for _, n := range extremes {
		l = append(l, doCase{"far away", w, down(n), none, nil}, doCase{"none to lose far away", w, lose(n), none, nil})
	}
	doAre(t, l)
	empty, _ := impl.WorldNew(9, 1, 1)
	doAre(t, []doCase{{"nothing on its way", empty, down(0), none, nil}})
}

func TestWorldDoDownPieces(t *testing.T) {
	down := impl.Step{Kind: impl.WsDown}
	piece := func(i int64) impl.Piece { return streamPiece(3*i+3, 3*i+4) }
	pieces := func(from, to int64) []impl.Piece {
		var l []impl.Piece
		for i := from; i < to; i++ {
			l = append(l, piece(i))
		}
		return l
	}
	sacks := func(from, to int64) []impl.Range { return rangesOfPieces(pieces(from, to)) }
	waits := func(many int, from, to int64) impl.World {
		return changed(midWorld(), withGot(many), func(w *impl.World) { w.Down = []impl.Range{span(from, to)} })
	}
	ok, full := int64(impl.WcOk), int64(impl.WcFull)
	doAre(t, []doCase{
		{"the first of all", waits(0, 0, 4), down, ok, cameDown(0, ackNote(4), streamPiece(0, 4))},
		{"the first of all, late", waits(0, 1, 4), down, ok, cameDown(0, ackNote(0, span(1, 4)), streamPiece(1, 4))},
		{"two pieces, none at 0", waits(2, 9, 10), down, ok, cameDown(0, ackNote(0, sacks(0, 3)...), pieces(0, 3)...)},
		{"three pieces, none at 0", waits(3, 12, 13), down, ok, cameDown(0, ackNote(0, sacks(0, 3)...), pieces(0, 4)...)},
		{"a prefix of a byte and two pieces", waits(2, 0, 1), down, ok, cameDown(0, ackNote(1, sacks(0, 2)...), append([]impl.Piece{streamPiece(0, 1)}, pieces(0, 2)...)...)},
		{"a prefix and three pieces", waits(3, 0, 1), down, ok, cameDown(0, ackNote(1, sacks(0, 3)...), append([]impl.Piece{streamPiece(0, 1)}, pieces(0, 3)...)...)},
		{"a prefix and four pieces", waits(4, 0, 1), down, ok, cameDown(0, ackNote(1, sacks(0, 3)...), append([]impl.Piece{streamPiece(0, 1)}, pieces(0, 4)...)...)},
		{"a prefix that takes the first piece in", waits(5, 0, 3), down, ok, cameDown(0, ackNote(4, sacks(1, 4)...), append([]impl.Piece{streamPiece(0, 4)}, pieces(1, 5)...)...)},
		{"the 60th piece", waits(59, 180, 181), down, ok, cameDown(0, ackNote(0, sacks(0, 3)...), pieces(0, 60)...)},
		{"the 61st piece", waits(60, 183, 184), down, full, nil},
		{"the 61st piece, at 0", waits(60, 0, 1), down, full, nil},
		{"at 60 pieces one that touches", waits(60, 0, 3), down, ok, cameDown(0, ackNote(4, sacks(1, 4)...), append([]impl.Piece{streamPiece(0, 4)}, pieces(1, 60)...)...)},
		{"at 60 pieces one that is there", waits(60, 3, 4), down, ok, cameDown(0, ackNote(0, sacks(0, 3)...), pieces(0, 60)...)},
		{"at 60 pieces the 61st is lost", waits(60, 183, 184), impl.Step{Kind: impl.WsDown, Drop: true}, ok, lostDown(0)},
	})
}

// cameUp is an ack that is noted, and what more it changes.
func cameUp(at int, l ...worldChange) worldChange {
	return func(w *impl.World) {
		w.Notes = append(w.Notes, w.Up[at])
		w.Up = slices.Delete(w.Up, at, at+1)
		for _, change := range l {
			change(w)
		}
	}
}

func lostUp(at int) worldChange {
	return func(w *impl.World) { w.Up = slices.Delete(w.Up, at, at+1) }
}

func withBoard(una int64, sacked ...impl.Range) worldChange {
	return func(w *impl.World) { w.Board.Una, w.Board.Sacked = una, sacked }
}

func withSegment(from, n int64) worldChange {
	return func(w *impl.World) { segment(w, from, n) }
}

func withAcks(l ...impl.Note) worldChange {
	return func(w *impl.World) { w.Up = l }
}

func worldReno(win, limit, phase, dup, over int64) impl.Reno {
	return impl.Reno{Mss: 4, Win: win, Limit: limit, Phase: phase, Dup: dup, Over: over}
}

func up(at int64) impl.Step {
	return impl.Step{Kind: impl.WsUp, At: at}
}

func TestWorldDoUp(t *testing.T) {
	w := midWorld()
	drop := func(at int64) impl.Step { return impl.Step{Kind: impl.WsUp, At: at, Drop: true} }
	none, full := int64(impl.WcNone), int64(impl.WcFull)
	slow := func(win, dup int64) worldChange { return withReno(worldReno(win, maxWin, impl.PhSlow, dup, 0)) }
	allAcked := changed(w, func(w *impl.World) {
		w.Got = []impl.Piece{streamPiece(0, 20)}
		w.Board = impl.Board{Una: 20, Next: 20}
		w.Up = []impl.Note{ackNote(20, span(3, 5))}
	})
	l := []doCase{
		{"from beyond Una", w, up(0), impl.WcOk, cameUp(0, withBoard(10, span(14, 16)), slow(18, 0))},
		{"from Una", w, up(1), impl.WcOk, cameUp(1, withBoard(8, span(12, 16)), slow(16, 1))},
		{"from ahead of Una", w, up(2), impl.WcOk, cameUp(2)},
		{"from just ahead of Una", changed(w, withAcks(ackNote(7, span(12, 16)))), up(0), impl.WcOk, cameUp(0)},
		{"from just beyond Una", changed(w, withAcks(ackNote(9, span(12, 16)))), up(0), impl.WcOk, cameUp(0, withBoard(9, span(12, 16)), slow(17, 0))},
		{"from Una, and Next is Una", allAcked, up(0), impl.WcOk, cameUp(0)},
		{"from Una, and Next is Una, with 60 Down", changed(allAcked, withDown(60)), up(0), impl.WcOk, cameUp(0)},
		{"from ahead of Una, and Next is Una", changed(allAcked, withAcks(ackNote(19))), up(0), impl.WcOk, cameUp(0)},
		{"from Una, of a world in which nothing was sent", impl.World{Total: 9, Reno: w.Reno, Up: []impl.Note{ackNote(0)}}, up(0), impl.WcOk, cameUp(0)},
		{"is lost", w, drop(0), impl.WcOk, lostUp(0)},
		{"the last is lost", w, drop(2), impl.WcOk, lostUp(2)},
		{"there is none at that place", w, up(3), none, nil},
		{"none to lose at that place", w, drop(3), none, nil},
		{"ahead of all places", w, up(-1), none, nil},
		{"none at that place, and all is full", changed(w, withNotes(300), withDown(60)), up(3), none, nil},
		{"the 300th note", changed(w, withNotes(299)), up(1), impl.WcOk, cameUp(1, withBoard(8, span(12, 16)), slow(16, 1))},
		{"the 301st note", changed(w, withNotes(300)), up(1), full, nil},
		{"the 301st note, from ahead of Una", changed(w, withNotes(300)), up(2), full, nil},
		{"the 301st note, but it is lost", changed(w, withNotes(300)), drop(1), impl.WcOk, lostUp(1)},
		{"with 60 Down and 60 Up", changed(w, withDown(60), withUp(60)), up(1), impl.WcOk, cameUp(1, withBoard(8, span(12, 16)), slow(16, 1))},
	}
	for _, n := range extremes {
		l = append(l, doCase{"far away", w, up(n), none, nil}, doCase{"none to lose far away", w, drop(n), none, nil})
	}
	doAre(t, l)
}

func TestWorldDoUpThirdAckAlike(t *testing.T) {
	w := changed(midWorld(), withReno(worldReno(16, maxWin, impl.PhSlow, 2, 0)))
	full := int64(impl.WcFull)
	mends := func(at int) worldChange {
		return cameUp(at, withBoard(8, span(12, 16)), withReno(worldReno(20, 8, impl.PhMend, 3, 20)), withSegment(8, 4))
	}
	short := changed(w, withAcks(ackNote(8)), func(w *impl.World) { w.Board = impl.Board{Una: 8, Next: 11} }, func(w *impl.World) { w.Got, w.Down = w.Got[:1], nil })
	second := withReno(worldReno(16, maxWin, impl.PhSlow, 1, 0))
	secondBehind := cameUp(1, withBoard(8, span(12, 16)), withReno(worldReno(16, maxWin, impl.PhSlow, 2, 0)))
	doAre(t, []doCase{
		{"sends from Una", w, up(1), impl.WcOk, mends(1)},
		{"sends less than Mss", short, up(0), impl.WcOk, cameUp(0, withReno(worldReno(20, 8, impl.PhMend, 3, 11)), withSegment(8, 3))},
		{"the 299th and the 300th note", changed(w, withNotes(298)), up(1), impl.WcOk, mends(1)},
		{"the 301st note is what it sends", changed(w, withNotes(299)), up(1), full, nil},
		{"the 60th Down", changed(w, withDown(59)), up(1), impl.WcOk, mends(1)},
		{"the 61st Down", changed(w, withDown(60)), up(1), full, nil},
		{"the second ack alike sends nothing", changed(w, second), up(1), impl.WcOk, secondBehind},
		{"the second ack alike, the 300th note", changed(w, second, withNotes(299)), up(1), impl.WcOk, secondBehind},
		{"the second ack alike, 60 Down", changed(w, second, withDown(60)), up(1), impl.WcOk, secondBehind},
		{"half of what was on its way, the sacked bytes too", changed(w, func(w *impl.World) {
			w.Reno.Mss, w.Down = 2, []impl.Range{span(8, 10)}
		}), up(1), impl.WcOk, cameUp(1, withBoard(8, span(12, 16)), withReno(impl.Reno{Mss: 2, Win: 12, Limit: 6, Phase: impl.PhMend, Dup: 3, Over: 20}), withSegment(8, 2))},
	})
}

func TestWorldDoUpWhileItMends(t *testing.T) {
	mend := func(win, over int64) worldChange { return withReno(worldReno(win, 8, impl.PhMend, 3, over)) }
	w := changed(midWorld(), mend(20, 20))
	ended := withReno(worldReno(8, 8, impl.PhAvoid, 0, 20))
	all := changed(w, func(w *impl.World) { w.Got = []impl.Piece{streamPiece(0, 20)} })
	full := int64(impl.WcFull)
	doAre(t, []doCase{
		{"one more alike", w, up(1), impl.WcOk, cameUp(1, withBoard(8, span(12, 16)), mend(24, 20))},
		{"one more alike, all but full", changed(w, withNotes(299), withDown(60)), up(1), impl.WcOk, cameUp(1, withBoard(8, span(12, 16)), mend(24, 20))},
		{"from ahead of Una", w, up(2), impl.WcOk, cameUp(2)},
		{"does not end it", w, up(0), impl.WcOk, cameUp(0, withBoard(10, span(14, 16)), mend(22, 20), withSegment(10, 4))},
		{"does not end it, the 300th note", changed(w, withNotes(298)), up(0), impl.WcOk, cameUp(0, withBoard(10, span(14, 16)), mend(22, 20), withSegment(10, 4))},
		{"does not end it, the 301st note", changed(w, withNotes(299)), up(0), full, nil},
		{"does not end it, the 61st Down", changed(w, withDown(60)), up(0), full, nil},
		{"one ahead of Over", changed(all, withAcks(ackNote(19))), up(0), impl.WcOk, cameUp(0, withBoard(19), mend(13, 20), withSegment(19, 1))},
		{"four ahead of Over", changed(all, withAcks(ackNote(16))), up(0), impl.WcOk, cameUp(0, withBoard(16), mend(16, 20), withSegment(16, 4))},
		{"at Over", changed(all, withAcks(ackNote(20))), up(0), impl.WcOk, cameUp(0, withBoard(20), ended)},
		{"at Over, all but full", changed(all, withAcks(ackNote(20)), withNotes(299), withDown(60)), up(0), impl.WcOk, cameUp(0, withBoard(20), ended)},
		{"just at an Over ahead of Next", changed(w, mend(20, 10)), up(0), impl.WcOk, cameUp(0, withBoard(10, span(14, 16)), withReno(worldReno(8, 8, impl.PhAvoid, 0, 10)))},
		{"beyond an Over ahead of Next", changed(w, mend(20, 9)), up(0), impl.WcOk, cameUp(0, withBoard(10, span(14, 16)), withReno(worldReno(8, 8, impl.PhAvoid, 0, 9)))},
	})
}

// An ack of all that was sent, of a world whose Over is beyond Next: it mends on, and sends a range without bytes.
func TestWorldDoUpWithoutBytesToSend(t *testing.T) {
	mend := func(win, over int64) worldChange { return withReno(worldReno(win, 8, impl.PhMend, 3, over)) }
	w := changed(midWorld(), mend(20, 21), withAcks(ackNote(20)), func(w *impl.World) { w.Got = []impl.Piece{streamPiece(0, 20)} })
	mendsOn := cameUp(0, withBoard(20), mend(12, 21), withSegment(20, 0))
	full := int64(impl.WcFull)
	doAre(t, []doCase{
		{"one beyond Next", w, up(0), impl.WcOk, mendsOn},
		{"far beyond Next", changed(w, mend(20, maxWin)), up(0), impl.WcOk, cameUp(0, withBoard(20), mend(12, maxWin), withSegment(20, 0))},
		{"a byte was on its way", changed(w, withBoard(19)), up(0), impl.WcOk, cameUp(0, withBoard(20), mend(23, 21), withSegment(20, 0))},
		{"no new bytes are left", changed(w, withTotal(20)), up(0), impl.WcOk, mendsOn},
		{"with ranges", changed(w, withAcks(ackNote(20, span(3, 5)))), up(0), impl.WcOk, mendsOn},
		{"the second of Up", changed(w, withAcks(ackNote(9), ackNote(20))), up(1), impl.WcOk, cameUp(1, withBoard(20), mend(12, 21), withSegment(20, 0))},
		{"a byte less: that byte is sent", changed(w, withAcks(ackNote(19))), up(0), impl.WcOk, cameUp(0, withBoard(19), mend(13, 21), withSegment(19, 1))},
		{"Over is Next: it mends no more", changed(w, mend(20, 20)), up(0), impl.WcOk, cameUp(0, withBoard(20), withReno(worldReno(8, 8, impl.PhAvoid, 0, 20)))},
		{"it did not mend", changed(w, withReno(worldReno(16, maxWin, impl.PhSlow, 2, 21))), up(0), impl.WcOk, cameUp(0, withBoard(20), withReno(worldReno(20, maxWin, impl.PhSlow, 0, 21)))},
		{"all was acked ahead of it", changed(w, withBoard(20)), up(0), impl.WcOk, cameUp(0)},
		{"is lost", w, impl.Step{Kind: impl.WsUp, Drop: true}, impl.WcOk, lostUp(0)},
		{"the 60th Down", changed(w, withDown(59)), up(0), impl.WcOk, mendsOn},
		{"the 61st Down", changed(w, withDown(60)), up(0), full, nil},
		{"the 299th and the 300th note", changed(w, withNotes(298)), up(0), impl.WcOk, mendsOn},
		{"the 301st note", changed(w, withNotes(299)), up(0), full, nil},
		{"the 301st note is the ack", changed(w, withNotes(300)), up(0), full, nil},
	})
}

// tellWorld has 40 ranges Sacked, and more of that kind in Got.
func tellWorld() impl.World {
	w := changed(midWorld(), withGot(50))
	w.Got = append([]impl.Piece{streamPiece(0, 2)}, w.Got...)
	for _, p := range rangesOfPieces(w.Got[1:41]) {
		w.Board.Sacked = append(w.Board.Sacked, p)
	}
	return w
}

func TestWorldDoUpRanges(t *testing.T) {
	w := tellWorld()
	slow := func(win, dup int64) worldChange { return withReno(worldReno(win, maxWin, impl.PhSlow, dup, 0)) }
	told := func(from int64, sacks ...impl.Range) impl.World { return changed(w, withAcks(ackNote(from, sacks...))) }
	whole := w.Board.Sacked
	mid := changed(midWorld(), func(w *impl.World) { w.Got = []impl.Piece{streamPiece(0, 20)} })
	doAre(t, []doCase{
		{"the 41st range", told(0, span(123, 124)), up(0), impl.WcOk, cameUp(0, slow(16, 1))},
		{"the 41st range, with one that is there", told(0, span(3, 4), span(123, 124)), up(0), impl.WcOk, cameUp(0, slow(16, 1))},
		{"just one that is there", told(0, span(3, 4)), up(0), impl.WcOk, cameUp(0, slow(16, 1))},
		{"the 41st range, from beyond Una", told(2, span(123, 124)), up(0), impl.WcOk, cameUp(0, withBoard(2, whole...), slow(18, 0))},
		{"one that begins at Una", changed(mid, withAcks(ackNote(8, span(8, 12)))), up(0), impl.WcOk, cameUp(0, slow(16, 1))},
		{"one that begins just beyond Una", changed(mid, withAcks(ackNote(8, span(9, 12)))), up(0), impl.WcOk, cameUp(0, withBoard(8, span(9, 12), span(14, 16)), slow(16, 1))},
		{"one that begins ahead of Una", changed(mid, withAcks(ackNote(8, span(0, 12)))), up(0), impl.WcOk, cameUp(0, slow(16, 1))},
		{"one that begins at the ack", changed(mid, withAcks(ackNote(10, span(10, 12)))), up(0), impl.WcOk, cameUp(0, withBoard(10, span(14, 16)), slow(18, 0))},
		{"one that begins just beyond the ack", changed(mid, withAcks(ackNote(10, span(11, 12)))), up(0), impl.WcOk, cameUp(0, withBoard(10, span(11, 12), span(14, 16)), slow(18, 0))},
		{"three, of which two become one", changed(mid, withAcks(ackNote(8, span(10, 11), span(13, 14), span(17, 20)))), up(0), impl.WcOk, cameUp(0, withBoard(8, span(10, 11), span(13, 16), span(17, 20)), slow(16, 1))},
		{"an ack in what was told", changed(mid, withAcks(ackNote(15))), up(0), impl.WcOk, cameUp(0, withBoard(15), slow(20, 0))},
		{"an ack just ahead of what was told", changed(mid, withAcks(ackNote(14))), up(0), impl.WcOk, cameUp(0, withBoard(14, span(15, 16)), slow(20, 0))},
	})
}

func TestWorldDoLate(t *testing.T) {
	w := midWorld()
	late := impl.Step{Kind: impl.WsLate}
	none, full := int64(impl.WcNone), int64(impl.WcFull)
	behind := func(from, n int64) worldChange {
		return func(w *impl.World) {
			w.Reno = worldReno(4, 8, impl.PhSlow, 0, w.Board.Next)
			segment(w, from, n)
		}
	}
	allAcked := changed(w, func(w *impl.World) {
		w.Got, w.Board = []impl.Piece{streamPiece(0, 20)}, impl.Board{Una: 20, Next: 20}
	})
	acked := func(una int64) impl.World {
		return changed(allAcked, func(w *impl.World) { w.Board.Una = una })
	}
	small := func(w *impl.World) {
		w.Reno = impl.Reno{Mss: 2, Win: 16, Limit: 12, Phase: impl.PhAvoid, Dup: 1, Gained: 5, Over: 7}
		w.Down = nil
	}
	doAre(t, []doCase{
		{"nothing came", w, late, impl.WcOk, behind(8, 4)},
		{"with a place and a drop", w, impl.Step{Kind: impl.WsLate, At: 9, Drop: true}, impl.WcOk, behind(8, 4)},
		{"nothing on its way", allAcked, late, none, nil},
		{"nothing on its way, and all is full", changed(allAcked, withNotes(300), withDown(60)), late, none, nil},
		{"a byte on its way", acked(19), late, impl.WcOk, behind(19, 1)},
		{"one less than Mss on its way", acked(17), late, impl.WcOk, behind(17, 3)},
		{"just Mss on its way", acked(16), late, impl.WcOk, behind(16, 4)},
		{"one more than Mss on its way", acked(15), late, impl.WcOk, behind(15, 4)},
		{"while it mends", changed(w, withReno(worldReno(20, 8, impl.PhMend, 3, 18))), late, impl.WcOk, behind(8, 4)},
		{"the window is full", changed(w, withReno(worldReno(8, 8, impl.PhAvoid, 2, 18))), late, impl.WcOk, behind(8, 4)},
		{"half of what is on its way, the sacked bytes too", changed(w, small), late, impl.WcOk, func(w *impl.World) {
			w.Reno = impl.Reno{Mss: 2, Win: 2, Limit: 6, Phase: impl.PhSlow, Over: 20}
			segment(w, 8, 2)
		}},
		{"the 60th Down", changed(w, withDown(59)), late, impl.WcOk, behind(8, 4)},
		{"the 61st Down", changed(w, withDown(60)), late, full, nil},
		{"the 300th note", changed(w, withNotes(299)), late, impl.WcOk, behind(8, 4)},
		{"the 301st note", changed(w, withNotes(300)), late, full, nil},
		{"with 60 Up", changed(w, withUp(60)), late, impl.WcOk, behind(8, 4)},
	})
	empty, _ := impl.WorldNew(9, 4, 1)
	doAre(t, []doCase{{"nothing was sent", empty, late, none, nil}})
}

// moods are how often each kind of step comes, none among them: much is lost, all is sent ahead of what comes, little is late.
var moods = [][]int64{
	{0, 1, 1, 2, 2, 2, 3, 3, 3, 4, 5},
	{1, 1, 1, 1, 1, 1, 2, 2, 3, 4, 4},
	{1, 1, 1, 1, 2, 2, 2, 2, 3, 3, 3, 3, 1, 1, 1, 1, 2, 2, 2, 2, 3, 3, 3, 3, 4},
}

func hasSomeFor(w impl.World, kind int64) bool {
	flight := w.Board.Next - w.Board.Una
	switch kind {
	case impl.WsSend:
		return w.Board.Next < w.Total && flight+w.Reno.Mss <= w.Reno.Win
	case impl.WsDown:
		return len(w.Down) > 0
	case impl.WsUp:
		return len(w.Up) > 0
	}
	return flight > 0
}

// someStep is mostly one that can be done.
func someStep(w impl.World, mood []int64, next func() int64) impl.Step {
	s := impl.Step{Drop: next()>>20%int64(len(mood)/2) == 0}
	for range 4 {
		s.Kind = mood[next()>>20%int64(len(mood))]
		if hasSomeFor(w, s.Kind) {
			break
		}
	}
	waiting := max(len(w.Down), 1)
	if s.Kind == impl.WsUp {
		waiting = max(len(w.Up), 1)
	}
	switch next() >> 20 % 8 {
	case 0:
		s.At = among(-1, int64(waiting), next)
	case 1, 2:
		s.At = next() >> 20 % int64(waiting)
	}
	return s
}

// A play is what came of many steps: the codes, and the window behind each note.
type play struct {
	w     impl.World
	many  int64
	codes []int64
	wins  []int64
}

// aPlay plays so many steps of a new world, each held against what is wanted; look is called ahead of each of them.
func aPlay(t *testing.T, steps int, next func() int64, look func(p play)) play {
	t.Helper()
	mss, many := among(1, 200, next), 1+next()>>20%10
	mood := moods[next()>>20%3]
	w, ok := impl.WorldNew(min(mss*(1+next()>>20%150), 3000), mss, many)
	if !ok {
		t.Fatal(mss, many)
	}
	p := play{w: w, many: many}
	for range steps {
		look(p)
		s := someStep(p.w, mood, next)
		after, code := doesAsWanted(t, p.w, s)
		if s.Kind == impl.WsSend && code == impl.WcOk && (after.Board.Next-after.Board.Una > after.Reno.Win || after.Board.Next <= p.w.Board.Next) {
			t.Fatalf("%+v with %+v: %+v", p.w, s, after)
		}
		for range after.Notes[len(p.w.Notes):] {
			p.wins = append(p.wins, after.Reno.Win)
		}
		p.w, p.codes = after, append(p.codes, code)
	}
	return p
}

func noLook(p play) {}

// within is a part of r that is not empty.
func within(r impl.Range, next func() int64) impl.Range {
	from := among(r.From, r.To-1, next)
	return span(from, from+among(1, r.To-from, next))
}

// aSender is often one whose window just has room for a segment, or whose Over is near Next.
func aSender(b impl.Board, next func() int64) impl.Reno {
	r := aReno(next)
	for r.Mss > 200 {
		r = aReno(next)
	}
	if r.Phase == impl.PhMend && next()>>20%2 == 0 {
		r.Win = max(b.Next-b.Una+next()>>20%(r.Mss+2), r.Mss)
	}
	if next()>>20%4 > 0 {
		r.Over = among(b.Una, b.Next+1, next)
	}
	return r
}

// someOf is often none, few, or about as many as there may be.
func someOf(most int64, next func() int64) int64 {
	return []int64{0, 1, 3, most - 2, most - 1, most}[next()>>20%6]
}

// aWorld is a right one, such as no play comes to.
func aWorld(next func() int64) impl.World {
	w := impl.World{Total: among(0, 3000, next)}
	w.Board.Next = w.Total - among(0, w.Total, next)
	there := placesOf(w.Board.Next, nil)
	for range min(w.Board.Next, next()>>20%80) {
		r := within(span(0, w.Board.Next), next)
		there.fill(r.From, min(r.To, r.From+1+next()>>20%20))
	}
	if w.Board.Next > 0 && next()>>20%4 > 0 {
		there.fill(0, among(1, w.Board.Next, next))
	}
	got := there.ranges()
	for _, r := range got[:min(len(got), 60)] {
		w.Got = append(w.Got, streamPiece(r.From, r.To))
		if r.From == 0 {
			w.Board.Una = among(0, r.To, next)
		}
	}
	for _, r := range rangesOfPieces(w.Got) {
		r.From = max(r.From, w.Board.Una+1)
		if r.From < r.To && len(w.Board.Sacked) < 40 && next()>>20%4 > 0 {
			w.Board.Sacked = append(w.Board.Sacked, within(r, next))
		}
	}
	w.Reno = aSender(w.Board, next)
	return withQueues(w, next)
}

func withQueues(w impl.World, next func() int64) impl.World {
	if w.Board.Next > 0 {
		for range someOf(60, next) {
			r := within(span(0, w.Board.Next), next)
			w.Down = append(w.Down, span(r.From, min(r.To, r.From+w.Reno.Mss)))
		}
	}
	got := rangesOfPieces(w.Got)
	prefix := int64(len(impl.Prefix(w.Got)))
	for range someOf(60, next) {
		n := ackNote(min(prefix, max(0, w.Board.Una-1+next()>>20%3)))
		if next()>>20%3 == 0 {
			n.From = prefix - among(0, prefix, next)
		}
		for range min(int64(len(got)), next()>>20%4) {
			n.Sacks = append(n.Sacks, within(got[next()>>20%int64(len(got))], next))
		}
		w.Up = append(w.Up, n)
	}
	for range someOf(300, next) {
		w.Notes = append(w.Notes, rightNotes()[next()>>20%10])
	}
	return w
}

// Promise 12: worlds that no play comes to, too.
func TestPromise12AnyRightWorld(t *testing.T) {
	next := steady(63)
	told := map[impl.Step]int{}
	came := 0
	for i := range 3000 {
		w := aWorld(next)
		if !impl.WorldOk(w) {
			t.Fatalf("%+v", w)
		}
		for kind := range int64(6) {
			s := impl.Step{Kind: kind, At: among(0, 3, next), Drop: next()>>20%4 == 0}
			after, code := doesAsWanted(t, w, s)
			told[impl.Step{Kind: kind, At: code}]++
			if kind == impl.WsSend && code == impl.WcOk && after.Board.Next-after.Board.Una > w.Reno.Win {
				t.Fatalf("%+v\n%+v", w, after)
			}
		}
		if i%10 == 0 && calmIs(t, w) {
			came++
		}
	}
	for kind := int64(impl.WsSend); kind <= impl.WsLate; kind++ {
		for _, code := range []int64{impl.WcOk, impl.WcNone, impl.WcFull} {
			if told[impl.Step{Kind: kind, At: code}] < 20 {
				t.Errorf("kind %d: %d told %d times", kind, code, told[impl.Step{Kind: kind, At: code}])
			}
		}
	}
	if came < 20 {
		t.Errorf("only %d came", came)
	}
}

// Promise 12: new bytes are sent only when with them no more is on its way than the window.
func TestPromise12NewBytesAreWithinTheWindow(t *testing.T) {
	next := steady(60)
	told := map[int64]int{}
	for range 60 {
		for _, code := range aPlay(t, 600, next, noLook).codes {
			told[code]++
		}
	}
	if told[impl.WcOk] == 0 || told[impl.WcNone] == 0 || told[impl.WcForm] == 0 || told[impl.WcFull] == 0 {
		t.Errorf("%v", told)
	}
}

func calmIs(t *testing.T, w impl.World) bool {
	t.Helper()
	want, ok := wantCalm(w)
	c, told := impl.WorldCalm(w)
	if told != ok || !sameWorld(c, want) {
		t.Fatalf("%+v\n%v %+v\nnot %v %+v", w, told, c, ok, want)
	}
	if !ok {
		return false
	}
	if !asRightAsItMayBe(c) || c.Board.Una != c.Total || c.Board.Next != c.Total || impl.Prefix(c.Got) != streamPiece(0, w.Total).Data {
		t.Fatalf("%+v\n%+v", w, c)
	}
	return true
}

// Promise 12: when nothing more is lost all comes, byte for byte.
func TestPromise12AllComes(t *testing.T) {
	next := steady(61)
	came := 0
	for range 400 {
		if calmIs(t, aPlay(t, int(next()>>20%150), next, noLook).w) {
			came++
		}
	}
	if came < 300 {
		t.Errorf("only %d came", came)
	}
	for total := range int64(60) {
		w, _ := impl.WorldNew(total, 1+total%7, 1+total%3)
		if !calmIs(t, w) {
			t.Errorf("%d did not come", total)
		}
	}
	w, _ := impl.WorldNew(3000, 200, 10)
	if !calmIs(t, w) {
		t.Error("3000 did not come")
	}
}

func TestWorldCalmEnds(t *testing.T) {
	all := impl.World{Total: 20, Reno: worldReno(16, maxWin, impl.PhSlow, 0, 0), Board: impl.Board{Una: 20, Next: 20}, Got: []impl.Piece{streamPiece(0, 20)}}
	all = changed(all, withNotes(300), withDown(60), withUp(60))
	if c, ok := impl.WorldCalm(all); !ok || !sameWorld(c, all) {
		t.Errorf("%+v %v", c, ok)
	}
	third := changed(midWorld(), withReno(worldReno(16, maxWin, impl.PhSlow, 2, 0)), withAcks(ackNote(8)))
	sixty := changed(midWorld(), withGot(60))
	slow, _ := impl.WorldNew(3000, 1, 1)
	for i, w := range []impl.World{
		changed(midWorld(), withNotes(300)),
		changed(midWorld(), withNotes(298)),
		changed(third, withDown(60)),
		changed(sixty, func(w *impl.World) { w.Down = []impl.Range{span(200, 204)} }),
		slow,
	} {
		if calmIs(t, w) {
			t.Errorf("%d: %+v", i, w)
		}
	}
	if !calmIs(t, third) || !calmIs(t, midWorld()) {
		t.Error("did not come")
	}
}

// The steps of WorldCalm, one by one: acks ahead of segments, those ahead of new bytes, and those ahead of waiting.
func TestWorldCalmKnown(t *testing.T) {
	w, _ := impl.WorldNew(10, 4, 2)
	c, ok := impl.WorldCalm(w)
	want := []impl.Note{sendNote(0, 4), ackNote(4), sendNote(4, 4), ackNote(8), sendNote(8, 2), ackNote(10)}
	if !ok || !sameNotes(c.Notes, want) || c.Board.Una != 10 || len(c.Down)+len(c.Up) != 0 || c.Reno.Win != 18 {
		t.Errorf("%+v %v", c, ok)
	}
	w.Reno.Win = 4
	sent, _ := impl.WorldPlay(w, []impl.Step{{Kind: impl.WsSend}, {Kind: impl.WsDown, Drop: true}})
	c, ok = impl.WorldCalm(sent)
	want = []impl.Note{sendNote(0, 4), sendNote(0, 4), ackNote(4), sendNote(4, 4), ackNote(8), sendNote(8, 2), ackNote(10)}
	if !ok || !sameNotes(c.Notes, want) || c.Reno.Limit != 8 {
		t.Errorf("%+v %v", c, ok)
	}
}

func noWorldPlay(t *testing.T, w impl.World, l []impl.Step) {
	t.Helper()
	if n, codes := impl.WorldPlay(w, l); len(codes) != 0 || !sameWorld(n, impl.World{}) {
		t.Errorf("%d steps: %+v %v", len(l), n, codes)
	}
}

// worldPlayIs plays so many steps of a right world, and answers the world behind them.
func worldPlayIs(t *testing.T, first impl.World, many int, mood []int64, next func() int64) impl.World {
	t.Helper()
	want := first
	var l []impl.Step
	var codes []int64
	for range many {
		s := someStep(want, mood, next)
		after, code := wantDo(want, s)
		want, l, codes = after, append(l, s), append(codes, code)
	}
	w, told := impl.WorldPlay(first, l)
	if !sameWorld(w, want) || !slices.Equal(told, codes) || !asRightAsItMayBe(w) {
		t.Fatalf("%+v: %v\n%+v\nnot %v\n%+v", l, told, w, codes, want)
	}
	return w
}

func TestWorldPlay(t *testing.T) {
	next := steady(62)
	for _, many := range []int{0, 1, 2, 50, 299, 300} {
		for range 20 {
			mss := among(1, 200, next)
			first, _ := impl.WorldNew(min(mss*20, 3000), mss, 4)
			worldPlayIs(t, first, many, moods[many%3], next)
		}
	}
	for _, many := range []int{301, 302, 1000} {
		noWorldPlay(t, midWorld(), make([]impl.Step, many))
	}
}

// mendsOnWorld is about to send a range without bytes.
func mendsOnWorld() impl.World {
	return impl.World{
		Total: 12,
		Reno:  worldReno(20, 8, impl.PhMend, 3, maxWin),
		Board: impl.Board{Next: 4},
		Got:   []impl.Piece{streamPiece(0, 4)},
		Down:  []impl.Range{span(0, 4)},
		Up:    []impl.Note{ackNote(4)},
	}
}

// A range without bytes comes down as any other, but nothing more is known by it.
func TestWorldPlayWithoutBytes(t *testing.T) {
	down := func(at int64) impl.Step { return impl.Step{Kind: impl.WsDown, At: at} }
	send := impl.Step{Kind: impl.WsSend}
	heard := []impl.Note{ackNote(4), sendNote(4, 0)}
	for _, c := range []struct {
		name  string
		l     []impl.Step
		codes []int64
		down  []impl.Range
		got   []impl.Piece
		up    []impl.Note
		notes []impl.Note
	}{
		{"comes down", []impl.Step{up(0), down(1)}, []int64{0, 0}, []impl.Range{span(0, 4)}, []impl.Piece{streamPiece(0, 4)}, []impl.Note{ackNote(4)}, heard},
		{"is lost", []impl.Step{up(0), {Kind: impl.WsDown, At: 1, Drop: true}}, []int64{0, 0}, []impl.Range{span(0, 4)}, []impl.Piece{streamPiece(0, 4)}, nil, heard},
		{"is there once", []impl.Step{up(0), down(1), down(1)}, []int64{0, 0, impl.WcNone}, []impl.Range{span(0, 4)}, []impl.Piece{streamPiece(0, 4)}, []impl.Note{ackNote(4)}, heard},
		{"nothing is on its way by it", []impl.Step{up(0), {Kind: impl.WsLate}}, []int64{0, impl.WcNone}, []impl.Range{span(0, 4), span(4, 4)}, []impl.Piece{streamPiece(0, 4)}, nil, heard},
		{"its ack is of nothing new", []impl.Step{up(0), down(1), up(0)}, []int64{0, 0, 0}, []impl.Range{span(0, 4)}, []impl.Piece{streamPiece(0, 4)}, nil, append(slices.Clip(heard), ackNote(4))},
		{"new bytes come behind it", []impl.Step{up(0), send, down(2), down(1)}, []int64{0, 0, 0, 0}, []impl.Range{span(0, 4)}, []impl.Piece{streamPiece(0, 8)}, []impl.Note{ackNote(8), ackNote(8)}, append(slices.Clip(heard), sendNote(4, 4))},
		{"new bytes that come late", []impl.Step{up(0), send, send, down(3), down(1)}, []int64{0, 0, 0, 0, 0}, []impl.Range{span(0, 4), span(4, 8)}, []impl.Piece{streamPiece(0, 4), streamPiece(8, 12)}, []impl.Note{ackNote(4, span(8, 12)), ackNote(4, span(8, 12))}, append(slices.Clip(heard), sendNote(4, 4), sendNote(8, 4))},
		{"once more, behind new bytes", []impl.Step{up(0), send, down(2), up(0)}, []int64{0, 0, 0, 0}, []impl.Range{span(0, 4), span(4, 4), span(8, 8)}, []impl.Piece{streamPiece(0, 8)}, nil, append(slices.Clip(heard), sendNote(4, 4), ackNote(8), sendNote(8, 0))},
	} {
		w, codes := impl.WorldPlay(mendsOnWorld(), c.l)
		if !slices.Equal(codes, c.codes) || !slices.Equal(w.Down, c.down) || !slices.Equal(w.Got, c.got) || !sameNotes(w.Up, c.up) || !sameNotes(w.Notes, c.notes) {
			t.Errorf("%s: %v %+v", c.name, codes, w)
		}
	}
}

// A range without bytes is no piece more, but its ack is one more Up.
func TestWorldPlayWithoutBytesAtTheLimits(t *testing.T) {
	down := func(at int64) impl.Step { return impl.Step{Kind: impl.WsDown, At: at} }
	w := changed(mendsOnWorld(), withUp(60), func(w *impl.World) {
		for i := range w.Up {
			w.Up[i] = ackNote(4)
		}
	})
	after, codes := impl.WorldPlay(w, []impl.Step{up(0), down(0), down(0)})
	if !slices.Equal(codes, []int64{0, 0, impl.WcFull}) || len(after.Up) != 60 || !slices.Equal(after.Down, []impl.Range{span(4, 4)}) {
		t.Errorf("%v %+v", codes, after)
	}
	w = changed(mendsOnWorld(), withTotal(3000), withWin(1000), func(w *impl.World) { w.Reno.Mss, w.Down = 1, nil })
	l := []impl.Step{up(0)}
	for range 59 {
		l = append(l, impl.Step{Kind: impl.WsSend}, impl.Step{Kind: impl.WsDown, At: 1, Drop: true}, impl.Step{Kind: impl.WsSend}, down(1))
	}
	after, codes = impl.WorldPlay(w, append(l, down(0)))
	if slices.Max(codes) != impl.WcOk || len(after.Got) != 60 || len(after.Up) != 60 || len(after.Down) != 0 {
		t.Fatalf("%v %+v", codes, after)
	}
	if !sameNote(after.Up[59], ackNote(4, span(5, 6), span(7, 8), span(9, 10))) {
		t.Errorf("%+v", after.Up[59])
	}
}

// Promise 12: plays of worlds whose Over stays beyond all that they send.
func TestPromise12PlaysThatMendOn(t *testing.T) {
	next := steady(66)
	neverLate := []int64{1, 2, 2, 3, 3, 1, 2, 2, 3, 3, 1, 2, 2, 3, 3, 1, 2, 2, 3, 3}
	empty := 0
	for i := range 600 {
		mss := among(1, 200, next)
		w, _ := impl.WorldNew(min(mss*20, 3000), mss, 4)
		w.Reno.Phase, w.Reno.Dup, w.Reno.Over = impl.PhMend, 3, maxWin
		if next()>>20%2 == 0 {
			w.Reno.Over = among(1, w.Total+1, next)
		}
		empty += emptySends(worldPlayIs(t, w, int(next()>>20%150), append(moods, neverLate)[i%4], next))
		calmIs(t, w)
	}
	if empty < 200 {
		t.Errorf("only %d were sent without bytes", empty)
	}
}

// With what was sent without bytes a world is not right: each call that is given it answers so.
func TestWorldWithoutBytesIsNotRight(t *testing.T) {
	left, _ := impl.WorldDo(mendsOnWorld(), up(0))
	noted, _ := impl.WorldPlay(mendsOnWorld(), []impl.Step{up(0), {Kind: impl.WsDown, At: 1}})
	waits := changed(left, func(w *impl.World) { w.Notes = nil })
	for i, w := range []impl.World{left, noted, waits} {
		if impl.WorldOk(w) {
			t.Errorf("%d: %+v", i, w)
		}
		for _, s := range anyStep() {
			if n, code := impl.WorldDo(w, s); code != impl.WcForm || !sameWorld(n, impl.World{}) {
				t.Errorf("%d with %+v: %+v %d", i, s, n, code)
			}
		}
		noWorldPlay(t, w, nil)
		if n, ok := impl.WorldCalm(w); ok || !sameWorld(n, impl.World{}) {
			t.Errorf("%d: %+v %v", i, n, ok)
		}
	}
}

// All comes, too, when ranges without bytes come between; the last of them may be Down at the end.
func TestWorldCalmMendsOn(t *testing.T) {
	w := mendsOnWorld()
	if !calmIs(t, w) {
		t.Fatal("did not come")
	}
	c, _ := impl.WorldCalm(w)
	notes := []impl.Note{
		ackNote(4), sendNote(4, 0), ackNote(4), ackNote(4),
		sendNote(4, 4), ackNote(8), sendNote(8, 0), ackNote(8),
		sendNote(8, 4), ackNote(12), sendNote(12, 0),
	}
	if !sameNotes(c.Notes, notes) || !slices.Equal(c.Down, []impl.Range{span(12, 12)}) || len(c.Up) != 0 || c.Reno.Phase != impl.PhMend {
		t.Errorf("%+v", c)
	}
	if calmIs(t, changed(w, withNotes(299))) {
		t.Error("came with too many notes")
	}
}

// A step that can not be done leaves the world as it is for the next one.
func TestWorldPlayGoesOn(t *testing.T) {
	l := make([]impl.Step, 300)
	l[299] = impl.Step{Kind: impl.WsSend}
	w, codes := impl.WorldPlay(midWorld(), l)
	if !sameWorld(w, changed(midWorld(), sentNew(4))) || len(codes) != 300 || codes[299] != impl.WcOk {
		t.Errorf("%+v %v", w, codes)
	}
	for _, code := range codes[:299] {
		if code != impl.WcForm {
			t.Error(code)
		}
	}
}

// A segment that comes late, and twice, behind one that was lost.
func TestWorldPlayLateAndTwice(t *testing.T) {
	w, _ := impl.WorldNew(12, 4, 3)
	send, late := impl.Step{Kind: impl.WsSend}, impl.Step{Kind: impl.WsLate}
	down := func(at int64) impl.Step { return impl.Step{Kind: impl.WsDown, At: at} }
	w, codes := impl.WorldPlay(w, []impl.Step{send, send, send, late, down(2), down(1), down(0), down(0), send, down(0), up(1), up(0), up(0), up(0), up(0), late})
	want := []int64{0, 0, 0, 0, 0, 0, 0, 0, impl.WcNone, impl.WcNone, 0, 0, 0, 0, impl.WcNone, impl.WcNone}
	if !slices.Equal(codes, want) || impl.Prefix(w.Got) != "abcdefghijkl" || w.Board.Una != 12 || len(w.Board.Sacked) != 0 {
		t.Errorf("%v %+v", codes, w)
	}
	notes := []impl.Note{
		sendNote(0, 4), sendNote(4, 4), sendNote(8, 4), sendNote(0, 4),
		ackNote(0, span(4, 12)), ackNote(0, span(8, 12)), ackNote(12), ackNote(12),
	}
	if !sameNotes(w.Notes, notes) {
		t.Errorf("%+v", w.Notes)
	}
}
