package tests

import (
	"fmt"
	"regexp"
	"slices"
	"strconv"
	"strings"
	"testing"

	"loop.example/g00559/impl"
)

// wantText writes the lines of notes, right or not.
func wantText(l []impl.Note) string {
	var out strings.Builder
	for _, n := range l {
		if n.Kind == impl.NtSend {
			fmt.Fprintf(&out, "send %d %d\n", n.From, n.N)
			continue
		}
		fmt.Fprintf(&out, "ack %d", n.From)
		for _, r := range n.Sacks {
			fmt.Fprintf(&out, " %d-%d", r.From, r.To)
		}
		out.WriteByte(10)
	}
	return out.String()
}

var (
	sendLine = regexp.MustCompile(`^send (0|[1-9][0-9]{0,5}) (0|[1-9][0-9]{0,5})$`)
	ackLine  = regexp.MustCompile(`^ack (0|[1-9][0-9]{0,5})((?: (?:0|[1-9][0-9]{0,5})-(?:0|[1-9][0-9]{0,5}))*)$`)
)

func numberIn(s string) int64 {
	n, _ := strconv.Atoi(s)
	return int64(n)
}

// wantNotes reads notes line by line; what no expression fits, or is not right, is none.
func wantNotes(s string) ([]impl.Note, bool) {
	if s == "" {
		return nil, true
	}
	lines := strings.Split(s, "\n")
	last := len(lines) - 1
	if lines[last] != "" || last > 300 {
		return nil, false
	}
	var l []impl.Note
	for _, line := range lines[:last] {
		var n impl.Note
		if m := sendLine.FindStringSubmatch(line); m != nil {
			n = sendNote(numberIn(m[1]), numberIn(m[2]))
		} else if m := ackLine.FindStringSubmatch(line); m != nil {
			n = ackNote(numberIn(m[1]))
			for _, word := range strings.Fields(m[2]) {
				ends := strings.Split(word, "-")
				n.Sacks = append(n.Sacks, span(numberIn(ends[0]), numberIn(ends[1])))
			}
		}
		if !noteRight(n) {
			return nil, false
		}
		l = append(l, n)
	}
	return l, true
}

// comesBackFromText asks for notes that are right.
func comesBackFromText(t *testing.T, l []impl.Note) {
	t.Helper()
	s := impl.NotesText(l)
	if s != wantText(l) {
		t.Errorf("%+v: %q", l, s)
	}
	if m, ok := impl.ReadNotes(s); !ok || !sameNotes(m, l) {
		t.Errorf("%+v came back as %+v %v", l, m, ok)
	}
}

func noNotes(t *testing.T, name string, s string) {
	t.Helper()
	if l, ok := impl.ReadNotes(s); ok || len(l) != 0 {
		t.Errorf("%s: %q: %+v %v", name, s, l, ok)
	}
}

func TestNotesTextKnown(t *testing.T) {
	for _, c := range []struct {
		l    []impl.Note
		want string
	}{
		{nil, ""},
		{[]impl.Note{}, ""},
		{[]impl.Note{sendNote(0, 1)}, "send 0 1\n"},
		{[]impl.Note{sendNote(10000, 200)}, "send 10000 200\n"},
		{[]impl.Note{ackNote(0)}, "ack 0\n"},
		{[]impl.Note{{Kind: impl.NtAck, Sacks: []impl.Range{}}}, "ack 0\n"},
		{[]impl.Note{ackNote(20000)}, "ack 20000\n"},
		{[]impl.Note{ackNote(5, span(0, 1))}, "ack 5 0-1\n"},
		{[]impl.Note{ackNote(5, span(7, 10), span(19999, 20000), span(7, 8))}, "ack 5 7-10 19999-20000 7-8\n"},
		{[]impl.Note{sendNote(0, 10), ackNote(10), sendNote(10, 3)}, "send 0 10\nack 10\nsend 10 3\n"},
	} {
		if s := impl.NotesText(c.l); s != c.want {
			t.Errorf("%+v: %q, not %q", c.l, s, c.want)
		}
		if l, ok := impl.ReadNotes(c.want); !ok || !sameNotes(l, c.l) {
			t.Errorf("%q: %+v %v", c.want, l, ok)
		}
	}
}

func TestNotesComeBackFromText(t *testing.T) {
	right := rightNotes()
	comesBackFromText(t, nil)
	comesBackFromText(t, right)
	for _, n := range right {
		comesBackFromText(t, []impl.Note{n})
		comesBackFromText(t, manyNotes(300, n))
	}
	next := steady(80)
	for range 100 {
		comesBackFromText(t, aPlay(t, int(next()>>20%300), next, noLook).w.Notes)
	}
}

func TestNotesTextRefuses(t *testing.T) {
	right := rightNotes()
	for _, n := range wrongNotes() {
		for _, l := range [][]impl.Note{{n}, {n, right[0]}, {right[0], n, right[1]}, {right[0], n}, append(manyNotes(299, right[0]), n)} {
			if s := impl.NotesText(l); s != "" {
				t.Errorf("%+v: %q", l, s)
			}
		}
	}
	for _, n := range right {
		if s := impl.NotesText(manyNotes(301, n)); s != "" {
			t.Errorf("301 times %+v: %q", n, s)
		}
		noNotes(t, "301 lines", wantText(manyNotes(301, n)))
	}
}

func TestReadNotesRefuses(t *testing.T) {
	for _, line := range []string{
		"", " ", "\r", "0", "send", "ack", "send ", "ack ", "send 0", "send 0 ", "send  4",
		" send 0 4", "send  0 4", "send 0  4", "send 0 4 ", " ack 0", "ack  0", "ack 0 ", "ack 0  4-8", "ack 0 4-8 ",
		"send\t0 4", "send 0\t4", "send 0 4\r", "ack 0\r", "ack 0\t4-8", "ack 0 4-8\x00", "send 0\x004",
		"+send 0 4", "send +0 4", "send -0 4", "send -1 4", "send 0 +4", "send 0 -4", "ack +0", "ack -0", "ack -1",
		"ack 0 +4-8", "ack 0 4-+8", "ack 0 -4-8", "ack 0 4--8", "ack 0 -0-8",
		"send 00 4", "send 01 4", "send 0 04", "ack 00", "ack 07", "ack 0 04-8", "ack 0 4-08", "ack 0 00-8",
		"send 10001 1", "send 0 201", "send 0 0", "ack 20001", "ack 0 4-20001", "ack 0 20000-20001", "ack 0 4-4", "ack 0 8-4", "ack 0 0-0",
		"send 100000000000 4", "send 1000000000000 4", "send 0 9223372036854775807", "send 0 9223372036854775808", "send 18446744073709551616 4",
		"send 4294967296 4", "ack 4294967296", "ack 18446744073709551616", "ack 0 4-18446744073709551624", "ack 0 18446744073709551620-8",
		"send 000000000000 4", "send 0000000000000 4", "send 0 0000000000004", "ack -000000000001",
		"send 0x0 4", "send 0 4.0", "send 0 1e1", "send 1_0 4", "ack 0.", "send a 4", "send 0 a", "ack a", "ack 0 a-8", "ack 0 4-a",
		"send 0 4 4", "send 0 4 5-8", "send 0 4-8", "send 0-4", "ack 0 4", "ack 0 4-", "ack 0 -8", "ack 0 -", "ack 0 4-8-9", "ack 0-4", "ack 0 4-8-", "ack 0 4 - 8", "ack 0 4-8,9-10", "ack 0 4-8  9-10", "ack 0 1-2 3-4 5-6 7-8",
		"wait 1", "Send 0 4", "SEND 0 4", "sends 0 4", "sen 0 4", "send0 4", "Ack 0", "acks 0", "ac 0", "ack0", "0 send 4", "note 0 4", "1 0 4", "send 0 4 ack 0", "ack 0 send 0 4", "\xff 0 4", "send \u0660 4",
	} {
		noNotes(t, "alone", line+"\n")
		noNotes(t, "without its last byte", line+"x")
		noNotes(t, "ahead of a right one", line+"\nsend 0 4\n")
		noNotes(t, "amid right ones", "send 0 4\n"+line+"\nack 4 5-8\n")
		noNotes(t, "behind right ones", "send 0 4\nack 4\n"+line+"\n")
	}
}

func TestReadNotesWantsTheLastByte(t *testing.T) {
	for _, s := range []string{"send 0 4", "ack 0", "ack 0 4-8", "send 0 4\nack 4", "send 0 4\nack 4 5-6 7-8 9-10"} {
		noNotes(t, "the last byte 10", s)
		noNotes(t, "a byte 13 for it", s+"\r")
		noNotes(t, "an empty line", s+"\n\n")
		noNotes(t, "an empty line ahead", "\n"+s+"\n")
		noNotes(t, "a blank behind", s+"\n ")
		if l, ok := impl.ReadNotes(s + "\n"); !ok || impl.NotesText(l) != s+"\n" {
			t.Errorf("%q: %+v %v", s, l, ok)
		}
	}
}

// Whatever is read is the thing whose text it is.
func TestReadNotesOfAnyText(t *testing.T) {
	next := steady(81)
	words := []string{"send", "ack", "wait", "", "0", "4", "00", "-1", "200", "201", "10000", "10001", "20000", "20001", "4-8", "0-20000", "0-20001", "8-4", "4-", "-"}
	behind := []string{" ", " ", " ", " ", "\n", "\n", "  ", " \n", "\n\n", "", "-", "\t"}
	read := 0
	for range 100000 {
		var out strings.Builder
		for range next() >> 20 % 12 {
			if next()>>20%3 > 0 {
				out.WriteString([]string{"send 0 4\n", "ack 4\n", "ack 4 5-6 7-8\n", "send 4 ", "ack 9 "}[next()>>20%5])
				continue
			}
			out.WriteString(words[next()>>20%int64(len(words))] + behind[next()>>20%int64(len(behind))])
		}
		s := out.String()
		want, wantOk := wantNotes(s)
		l, ok := impl.ReadNotes(s)
		if ok != wantOk || !sameNotes(l, want) || ok && impl.NotesText(l) != s {
			t.Fatalf("%q: %+v %v", s, l, ok)
		}
		if ok && s != "" {
			read++
		}
	}
	if read < 1000 || read > 90000 {
		t.Errorf("%d were read", read)
	}
}

func aroundWrap(n int64) int64 {
	return (n%wrap + wrap) % wrap
}

// seenSegment writes the segment of a note by itself.
func seenSegment(time int64, n impl.Note, first, back int64) impl.Seg {
	if n.Kind == impl.NtSend {
		x := impl.Tcp{From: 1000, To: 80, Seq: aroundWrap(first + n.From), Ack: back, Flags: 24, Win: 65535, Data: streamPiece(n.From, n.From+n.N).Data}
		return impl.Seg{Time: time, Out: true, T: x}
	}
	x := impl.Tcp{From: 80, To: 1000, Seq: back, Ack: aroundWrap(first + n.From), Flags: 16, Win: 65535}
	for _, r := range n.Sacks {
		x.Sacks = append(x.Sacks, span(aroundWrap(first+r.From), aroundWrap(first+r.To)))
	}
	return impl.Seg{Time: time, T: x}
}

func seenFlow(l []impl.Note, first, back int64) impl.Flow {
	f := impl.Flow{Key: impl.Key{A: 1, APort: 1000, B: 2, BPort: 80}}
	for i, n := range l {
		f.Segs = append(f.Segs, seenSegment(int64(i), n, first, back))
	}
	return f
}

func seenPackets(l []impl.Note, first, back int64) []impl.Packet {
	var packets []impl.Packet
	for _, s := range seenFlow(l, first, back).Segs {
		a, b := int64(2), int64(1)
		if s.Out {
			a, b = 1, 2
		}
		packets = append(packets, rawPacket(s.Time, a, b, s.T))
	}
	return packets
}

func packetsAre(t *testing.T, name string, l []impl.Note, first, back int64) {
	t.Helper()
	if p, ok := impl.PacketsOf(l, first, back); !ok || !slices.Equal(p, seenPackets(l, first, back)) {
		t.Errorf("%s: %+v from %d and %d: %+v %v", name, l, first, back, p, ok)
	}
}

func noPackets(t *testing.T, name string, l []impl.Note, first, back int64) {
	t.Helper()
	if p, ok := impl.PacketsOf(l, first, back); ok || len(p) != 0 {
		t.Errorf("%s: %+v from %d and %d: %+v %v", name, l, first, back, p, ok)
	}
}

func notesAre(t *testing.T, name string, f impl.Flow, want []impl.Note) {
	t.Helper()
	if l, ok := impl.NotesOf(f); !ok || !sameNotes(l, want) {
		t.Errorf("%s: %+v\n%+v %v\nnot %+v", name, f, l, ok, want)
	}
}

func noNotesOf(t *testing.T, name string, f impl.Flow) {
	t.Helper()
	if l, ok := impl.NotesOf(f); ok || len(l) != 0 {
		t.Errorf("%s: %+v\n%+v %v", name, f, l, ok)
	}
}

// comesBackFromPackets asks for notes of a sender: the first one is from 0.
func comesBackFromPackets(t *testing.T, l []impl.Note, first, back int64) []impl.Note {
	t.Helper()
	packetsAre(t, "of a sender", l, first, back)
	p, _ := impl.PacketsOf(l, first, back)
	trace, at := impl.ReadTrace(impl.TraceBytes(p, first%2 == 0))
	flows := impl.FlowsOf(trace)
	if at != -1 || len(flows) != 1 || flows[0].Key != (impl.Key{A: 1, APort: 1000, B: 2, BPort: 80}) {
		t.Fatalf("%+v from %d and %d: %+v at %d", l, first, back, flows, at)
	}
	notesAre(t, "of a sender", flows[0], l)
	notes, _ := impl.NotesOf(flows[0])
	return notes
}

// Promise 14: what was seen of a sender comes back from the packets, wherever its numbers begin, and what is found of it is the same.
func TestPromise14WhatWasSeenComesBack(t *testing.T) {
	next := steady(82)
	found := map[int64]int{}
	for range 100 {
		p := aPlay(t, int(20+next()>>20%60), next, noLook)
		if len(p.w.Notes) == 0 {
			continue
		}
		l := p.w.Notes[:min(len(p.w.Notes), 60)]
		mss := p.w.Reno.Mss
		for range 10 {
			first, back := round[next()>>20%int64(len(round))], round[next()>>20%int64(len(round))]
			if next()>>20%2 == 0 {
				first = aroundWrap(-next() >> 20 % 500)
			}
			m := comesBackFromPackets(t, l, first, back)
			auditIs(t, "come back", mss, p.many, m, impl.Finding{}, p.wins[:len(l)])
			bad := append(cloneNotes(l[:1]), spoiled(l, next)...)
			m = comesBackFromPackets(t, bad[:min(len(bad), 60)], first, back)
			f, wins := wantAudit(mss, p.many, bad[:len(m)])
			auditIs(t, "spoiled, come back", mss, p.many, m, f, wins)
			found[f.Code]++
		}
	}
	if len(found) < 4 {
		t.Errorf("found %v", found)
	}
}

// Promise 14: all notes that there may be come back from what goes Out and what does not, wherever its numbers begin.
func TestPromise14ManyNotesComeBack(t *testing.T) {
	next := steady(83)
	most := 0
	for range 60 {
		p := aPlay(t, 600, next, noLook)
		for _, first := range append([]int64{next() % wrap, wrap - 7}, round...) {
			if len(p.w.Notes) > 0 {
				notesAre(t, "many", seenFlow(p.w.Notes, first, next()%wrap), p.w.Notes)
			}
		}
		most = max(most, len(p.w.Notes))
	}
	if most < 250 {
		t.Errorf("at most %d notes", most)
	}
}

// Promise 14: those of others do not come between.
func TestPromise14AmidOthers(t *testing.T) {
	next := steady(84)
	for range 50 {
		p := aPlay(t, 25, next, noLook)
		if len(p.w.Notes) == 0 {
			continue
		}
		var all []impl.Packet
		own, _ := impl.PacketsOf(p.w.Notes, wrap-5, 9)
		for i, x := range own {
			all = append(all, x, rawPacket(int64(i), 1, 2, impl.Tcp{From: 1001, To: 80, Data: "other"}))
		}
		flows := impl.FlowsOf(all)
		if len(flows) != 2 {
			t.Fatalf("%+v", flows)
		}
		notesAre(t, "amid others", flows[0], p.w.Notes)
	}
}

func TestPacketsOfKnown(t *testing.T) {
	l := []impl.Note{sendNote(0, 3), ackNote(1, span(2, 3)), sendNote(24, 4), ackNote(28)}
	p, ok := impl.PacketsOf(l, wrap-2, 5)
	if !ok || len(p) != 4 {
		t.Fatalf("%+v %v", p, ok)
	}
	for i, want := range []struct {
		a, b int64
		x    impl.Tcp
	}{
		{1, 2, impl.Tcp{From: 1000, To: 80, Seq: wrap - 2, Ack: 5, Flags: 24, Win: 65535, Data: "abc"}},
		{2, 1, impl.Tcp{From: 80, To: 1000, Seq: 5, Ack: wrap - 1, Flags: 16, Win: 65535, Sacks: []impl.Range{span(0, 1)}}},
		{1, 2, impl.Tcp{From: 1000, To: 80, Seq: 22, Ack: 5, Flags: 24, Win: 65535, Data: "yzab"}},
		{2, 1, impl.Tcp{From: 80, To: 1000, Seq: 5, Ack: 26, Flags: 16, Win: 65535}},
	} {
		if p[i] != rawPacket(int64(i), want.a, want.b, want.x) {
			t.Errorf("%d: %+v", i, p[i])
		}
	}
	notesAre(t, "known", impl.FlowsOf(p)[0], l)
}

func TestPacketsOfLimits(t *testing.T) {
	right := rightNotes()
	packetsAre(t, "none", nil, 0, 0)
	packetsAre(t, "none", []impl.Note{}, wrap-1, wrap-1)
	for _, n := range right {
		for _, first := range round {
			for _, back := range round {
				packetsAre(t, "one", []impl.Note{n}, first, back)
			}
		}
		packetsAre(t, "60", manyNotes(60, n), wrap-100, 7)
		noPackets(t, "61", manyNotes(61, n), wrap-100, 7)
		noPackets(t, "300", manyNotes(300, n), 0, 0)
	}
	packetsAre(t, "all", right, wrap-10000, wrap-1)
	for _, n := range notRound {
		noPackets(t, "first", right, n, 0)
		noPackets(t, "back", right, 0, n)
		noPackets(t, "first and back", right, n, n)
		noPackets(t, "first of none", nil, n, 0)
		noPackets(t, "back of none", nil, 0, n)
	}
	for _, n := range wrongNotes() {
		for _, l := range [][]impl.Note{{n}, {n, right[0]}, {right[0], n, right[1]}, {right[0], n}} {
			noPackets(t, "not right", l, 5, 6)
		}
	}
}

func out(seq int64, data string) impl.Seg {
	return impl.Seg{Out: true, T: impl.Tcp{Seq: seq, Data: data}}
}

func in(ack int64, data string, sacks ...impl.Range) impl.Seg {
	return impl.Seg{T: impl.Tcp{Ack: ack, Data: data, Sacks: sacks}}
}

func TestNotesOfKnown(t *testing.T) {
	for _, c := range []struct {
		name string
		segs []impl.Seg
		want []impl.Note
	}{
		{"one", []impl.Seg{out(7, "abc")}, []impl.Note{sendNote(0, 3)}},
		{"bytes that are not the stream's", []impl.Seg{out(7, "\x00\xff")}, []impl.Note{sendNote(0, 2)}},
		{"one again", []impl.Seg{out(7, "abc"), out(7, "ab")}, []impl.Note{sendNote(0, 3), sendNote(0, 2)}},
		{"with a gap", []impl.Seg{out(7, "abc"), out(107, "a")}, []impl.Note{sendNote(0, 3), sendNote(100, 1)}},
		{"without Data ahead", []impl.Seg{out(6, ""), out(7, "abc")}, []impl.Note{sendNote(0, 3)}},
		{"without Data from beyond, ahead", []impl.Seg{out(99, ""), out(7, "abc")}, []impl.Note{sendNote(0, 3)}},
		{"without Data amid", []impl.Seg{out(7, "abc"), out(0, ""), out(10, "d"), out(wrap-1, "")}, []impl.Note{sendNote(0, 3), sendNote(3, 1)}},
		{"an ack ahead", []impl.Seg{in(7, ""), out(7, "abc")}, []impl.Note{ackNote(0), sendNote(0, 3)}},
		{"an ack of what comes behind it", []impl.Seg{in(9, ""), out(7, "abc")}, []impl.Note{ackNote(2), sendNote(0, 3)}},
		{"an ack with Data", []impl.Seg{out(7, "abc"), in(10, "data")}, []impl.Note{sendNote(0, 3), ackNote(3)}},
		{"an ack with Data ahead", []impl.Seg{in(7, "data"), out(7, "abc")}, []impl.Note{ackNote(0), sendNote(0, 3)}},
		{"ranges", []impl.Seg{out(7, "abc"), in(7, "", span(8, 9), span(7, 20007), span(8, 9))}, []impl.Note{sendNote(0, 3), ackNote(0, span(1, 2), span(0, 20000), span(1, 2))}},
		{"numbers that come round", []impl.Seg{out(wrap-2, "abc"), out(1, "d"), in(wrap-1, "", span(0, 2)), in(2, "")}, []impl.Note{sendNote(0, 3), sendNote(3, 1), ackNote(1, span(2, 4)), ackNote(4)}},
		{"a range across 0", []impl.Seg{out(wrap-2, "abc"), in(wrap-2, "", span(wrap-1, 1))}, []impl.Note{sendNote(0, 3), ackNote(0, span(1, 3))}},
		{"at the limits", []impl.Seg{out(wrap-1, bytesOf(200)), out(9999, bytesOf(200)), in(19999, "", span(19998, 19999))}, []impl.Note{sendNote(0, 200), sendNote(10000, 200), ackNote(20000, span(19999, 20000))}},
	} {
		notesAre(t, c.name, impl.Flow{Segs: c.segs}, c.want)
		other := impl.Flow{Key: impl.Key{A: -1, APort: 99999, B: 7}, Segs: slices.Clone(c.segs)}
		for i := range other.Segs {
			other.Segs[i].Time = -int64(i)
			other.Segs[i].T.From, other.Segs[i].T.To, other.Segs[i].T.Flags, other.Segs[i].T.Win = 1, 65535, 63, 5
		}
		notesAre(t, c.name+", with other numbers that tell nothing", other, c.want)
	}
}

func TestNotesOfRefuses(t *testing.T) {
	noNotesOf(t, "no segments", impl.Flow{})
	noNotesOf(t, "no segments, with a Key", impl.Flow{Key: impl.Key{A: 1, APort: 1000, B: 2, BPort: 80}, Segs: []impl.Seg{}})
	for _, c := range []struct {
		name string
		segs []impl.Seg
	}{
		{"just an ack", []impl.Seg{in(7, "")}},
		{"just an ack with Data", []impl.Seg{in(7, "abc")}},
		{"just without Data", []impl.Seg{out(7, "")}},
		{"nothing Out with Data", []impl.Seg{out(7, ""), in(7, "abc"), out(8, ""), in(7, "")}},
		{"the first is not the least", []impl.Seg{out(7, "abc"), out(6, "a")}},
		{"the first is not the least, where numbers come round", []impl.Seg{out(0, "abc"), out(wrap-1, "a")}},
		{"the first of three is not the least", []impl.Seg{out(7, "abc"), out(10, "abc"), out(4, "abc")}},
		{"an ack ahead of the first", []impl.Seg{out(7, "abc"), in(6, "")}},
		{"an ack of the first is what went ahead of it", []impl.Seg{in(6, ""), out(7, "abc")}},
		{"beyond the greatest From", []impl.Seg{out(7, "abc"), out(10008, "a")}},
		{"beyond the greatest ack", []impl.Seg{out(7, "abc"), in(20008, "")}},
		{"half way round", []impl.Seg{out(7, "abc"), out(7+wrap/2, "a")}},
		{"one less than half way round", []impl.Seg{out(7, "abc"), out(6+wrap/2, "a")}},
		{"a range beyond the greatest", []impl.Seg{out(7, "abc"), in(7, "", span(8, 20008))}},
		{"a range ahead of the first", []impl.Seg{out(7, "abc"), in(7, "", span(6, 8))}},
		{"an empty range", []impl.Seg{out(7, "abc"), in(7, "", span(8, 8))}},
		{"a range that is turned", []impl.Seg{out(7, "abc"), in(7, "", span(9, 8))}},
		{"a third range that is not right", []impl.Seg{out(7, "abc"), in(7, "", span(8, 9), span(8, 9), span(8, 20008))}},
	} {
		noNotesOf(t, c.name, impl.Flow{Segs: c.segs})
	}
}

func TestNotesOfWrongSegments(t *testing.T) {
	ahead, behind := out(5, "abc"), in(8, "")
	for _, x := range append(wrongTcps(), impl.Tcp{Seq: 5, Data: bytesOf(201)}) {
		bare := x
		bare.Data = ""
		for _, s := range []impl.Seg{{Out: true, T: x}, {T: x}, {Out: true, T: bare}, {T: bare}} {
			if impl.TcpOk(s.T) {
				continue
			}
			for _, segs := range [][]impl.Seg{{s}, {s, ahead}, {ahead, s}, {ahead, s, behind}, {s, ahead, behind}, {ahead, behind, s}} {
				noNotesOf(t, "not right", impl.Flow{Segs: segs})
			}
		}
	}
}

func TestNotesOfMany(t *testing.T) {
	for _, n := range []impl.Note{sendNote(0, 1), ackNote(5), ackNote(5, span(7, 8), span(9, 10))} {
		l := append([]impl.Note{sendNote(0, 4)}, manyNotes(299, n)...)
		notesAre(t, "300", seenFlow(l, wrap-2, 5), l)
		noNotesOf(t, "301", seenFlow(append(l, n), wrap-2, 5))
	}
	// Segments that are no notes count for the limit, too.
	f := seenFlow(append([]impl.Note{sendNote(0, 4)}, manyNotes(298, ackNote(4))...), 9, 5)
	f.Segs = append(f.Segs, out(9, ""))
	notesAre(t, "300 segments", f, append([]impl.Note{sendNote(0, 4)}, manyNotes(298, ackNote(4))...))
	f.Segs = append(f.Segs, out(9, ""))
	noNotesOf(t, "301 segments", f)
}
