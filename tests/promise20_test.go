package tests

import (
	"math"
	"runtime"
	"slices"
	"strings"
	"testing"
	"time"

	"loop.example/g00559/impl"
)

// Promise 20: nothing is written into an argument, nor into the spare room behind it.
func TestPromise20ArgumentsStay(t *testing.T) {
	spare := impl.Packet{Time: 77, Data: "spare"}
	for _, big := range orders {
		for _, time := range []int64{0, wrap + 5, -1} {
			room := []impl.Packet{{Time: time, Data: "abc"}, {Time: 1, Data: "de"}, spare, spare}
			before := slices.Clone(room)
			impl.TraceBytes(room[:2], big)
			if !slices.Equal(room, before) {
				t.Errorf("%v: %v", big, room)
			}
		}
	}
}

// Promise 20: the ranges of a segment stay, and what is behind them.
func TestPromise20SegmentsStay(t *testing.T) {
	spare := impl.Range{From: 77, To: 78}
	for many := range 5 {
		room := []impl.Range{{From: 9, To: 3}, {From: 1, To: 1}, {From: 4, To: 5}, {From: 6, To: 7}, spare, spare}
		before := slices.Clone(room)
		x := impl.Tcp{From: 1, To: 2, Sacks: room[:many], Data: "abc"}
		impl.TcpOk(x)
		impl.TcpBytes(1, 2, x)
		if !slices.Equal(room, before) {
			t.Errorf("%d: %v", many, room)
		}
	}
}

// Promise 20: the same arguments give the same answers, whatever was done with those given before.
func TestPromise20SameAnswers(t *testing.T) {
	next := steady(8)
	for _, big := range orders {
		l := somePackets(20, next)
		s := impl.TraceBytes(l, big)
		a, _ := impl.ReadTrace(s)
		for i := range a {
			a[i] = impl.Packet{Time: -5, Data: "other"}
		}
		impl.ReadTrace(s[:len(s)-1])
		impl.ReadBlock(s[1:], big)
		if b, at := impl.ReadTrace(s); at != -1 || !slices.Equal(b, l) {
			t.Errorf("%v: %v at %d", big, b, at)
		}
		if x := impl.TraceBytes(l, big); x != s {
			t.Errorf("%v: %q", big, x)
		}
	}
	for _, n := range []int64{0, 1, 258, wrap - 1, wrap, 1<<48 - 1, -1, math.MaxInt64} {
		if impl.PutBe(n, 6) != impl.PutBe(n, 6) || impl.PutLe(n, 6) != impl.PutLe(n, 6) || impl.SeqAdd(n, 5) != impl.SeqAdd(n, 5) || impl.SeqDiff(n, 5) != impl.SeqDiff(n, 5) || impl.Unwrap(n, 5) != impl.Unwrap(n, 5) {
			t.Error(n)
		}
		s := impl.PutBe(n, 6)
		if impl.GetBe(s) != impl.GetBe(s) || impl.GetLe(s) != impl.GetLe(s) || impl.Sum16(s) != impl.Sum16(s) {
			t.Errorf("%q", s)
		}
	}
}

// Promise 20: heads come back the same, though the ranges of an answer are written over.
func TestPromise20SameHeads(t *testing.T) {
	next := steady(16)
	for range 50 {
		x := aTcp(next)
		a, b := next()%wrap, next()%wrap
		s := impl.TcpBytes(a, b, x)
		y, _ := impl.ReadTcp(a, b, s)
		for i := range y.Sacks {
			y.Sacks[i] = impl.Range{From: -1, To: -1}
		}
		impl.ReadTcp(b, a, s[1:])
		if z, ok := impl.ReadTcp(a, b, s); !ok || !sameSegment(x, z) || impl.TcpBytes(a, b, x) != s {
			t.Errorf("%+v %+v", x, z)
		}
		p := anIp(next)
		f := impl.Frame{To: text(6, next), From: text(6, next), Vlan: next()%4097 - 1, Kind: 0x0800, Body: impl.IpBytes(p)}
		head, frame := impl.IpBytes(p), impl.FrameBytes(f)
		impl.ReadIp(head[1:])
		impl.ReadFrame(frame[1:])
		q, _ := impl.ReadIp(head)
		g, _ := impl.ReadFrame(frame)
		if q != p || g != f || impl.IpBytes(p) != head || impl.FrameBytes(f) != frame {
			t.Errorf("%+v %+v", q, g)
		}
	}
}

// Every function answers at every argument and none panics.
func TestNothingPanics(t *testing.T) {
	next := steady(9)
	numbers := append([]int64{-1, 0, 1, 6, 7, wrap - 1, wrap, maxTime, maxTime + 1}, extremes...)
	for _, a := range numbers {
		for _, b := range numbers {
			impl.PutBe(a, b)
			impl.PutLe(a, b)
			impl.SeqAdd(a, b)
			impl.SeqDiff(a, b)
			impl.Unwrap(a, b)
		}
		impl.BlockBytes(impl.Block{Kind: a, Body: "abcd"}, a > 0)
		impl.TraceBytes([]impl.Packet{{Time: a}}, a > 0)
	}
	for _, big := range orders {
		s := impl.TraceBytes(somePackets(3, next), big)
		for range 2000 {
			b := []byte(s)
			for range 1 + next()%4 {
				b[next()%int64(len(b))] = byte(next() >> 40)
			}
			bad := string(b[:next()%int64(len(b)+1)])
			impl.ReadTrace(string(b))
			l, at := impl.ReadTrace(bad)
			if at < -1 || at > int64(len(bad)) || at >= 0 && len(l) != 0 {
				t.Errorf("%d packets at %d", len(l), at)
			}
			impl.ReadBlock(bad, big)
			impl.Sum16(bad)
			impl.GetBe(bad)
			impl.GetLe(bad)
		}
	}
}

// cutAndTurned is s with a few bytes that are others, and often without its end.
func cutAndTurned(s string, next func() int64) string {
	b := []byte(s)
	for range next() % 4 {
		b[next()%int64(len(b))] = byte(next() >> 40)
	}
	if next()%2 == 0 {
		b = b[:next()%int64(len(b)+1)]
	}
	return string(b)
}

// Whatever is read as a head is right; whatever is not is zero.
func TestHeadsOfAnyBytes(t *testing.T) {
	next := steady(17)
	for range 5000 {
		p, x := anIp(next), aTcp(next)
		f := impl.Frame{To: ownAddress, From: otherAddress, Vlan: next()%4097 - 1, Kind: 0x8100 + next()%2, Body: "body"}
		s := cutAndTurned(rawFrame(f), next)
		if f, ok := impl.ReadFrame(s); ok && impl.FrameBytes(f) != s || !ok && f != (impl.Frame{}) {
			t.Errorf("%q: %+v", s, f)
		}
		s = cutAndTurned(rawIp(p, 20+len(p.Body)), next)
		if len(s) >= 20 {
			s = withSum(s[:20]) + s[20:]
		}
		if p, ok := impl.ReadIp(s); ok && (!impl.IpOk(p) || !strings.HasPrefix(s, impl.IpBytes(p))) || !ok && p != (impl.Ip{}) {
			t.Errorf("%q: %+v", s, p)
		}
		s = cutAndTurned(rawTcp(1, 2, x, sackOptions(x.Sacks)), next)
		if len(s) >= 20 {
			s = withSegmentSum(1, 2, s)
		}
		if x, ok := impl.ReadTcp(1, 2, s); ok && !impl.TcpOk(x) || !ok && !sameSegment(x, impl.Tcp{}) {
			t.Errorf("%q: %+v", s, x)
		}
	}
}

// Promise 20: packets and the ranges of their segments stay, and what is behind them.
func TestPromise20PacketsStay(t *testing.T) {
	next := steady(22)
	room := somePairs(70, next)
	before := slices.Clone(room)
	for many := range 62 {
		impl.FlowsOf(room[:many])
	}
	if !slices.Equal(room, before) {
		t.Error("packets")
	}
	ranges := []impl.Range{{From: 9, To: 3}, {From: 1, To: 1}, {From: 4, To: 5}, {From: 6, To: 7}, {From: 77, To: 78}}
	kept := slices.Clone(ranges)
	for many := range 5 {
		impl.PacketOf(5, 1, 2, impl.Tcp{Sacks: ranges[:many], Data: "abc"})
		impl.KeyOf(impl.Ip{}, impl.Tcp{Sacks: ranges[:many]})
	}
	if !slices.Equal(ranges, kept) {
		t.Errorf("%v", ranges)
	}
}

// Promise 20: flows share nothing with those given before, nor with each other.
func TestPromise20FlowsShareNothing(t *testing.T) {
	ranges := []impl.Range{{From: 1, To: 2}, {From: 3, To: 4}}
	one := rawPacket(5, 1, 2, impl.Tcp{From: 7, To: 8, Sacks: ranges})
	other := rawPacket(6, 1, 2, impl.Tcp{From: 8, To: 8, Sacks: ranges})
	l := []impl.Packet{one, other, one, other, one}
	want := flowsText(wantFlows(l))
	for f := range 2 {
		for i := range impl.FlowsOf(l)[f].Segs {
			a := impl.FlowsOf(l)
			rest := wantFlows(l)
			segs := a[f].Segs
			segs[i].T.Sacks[0].From = 99
			_ = append(segs[i].T.Sacks, impl.Range{From: 99})
			_ = append(segs, impl.Seg{Time: 99})
			rest[f].Segs[i].T.Sacks[0].From = 99
			if flowsText(a) != flowsText(rest) {
				t.Errorf("flow %d, segment %d: %s", f, i, flowsText(a))
			}
			if b := impl.FlowsOf(l); flowsText(b) != want {
				t.Errorf("flow %d, segment %d: %s", f, i, flowsText(b))
			}
		}
	}
}

// Promise 20: pieces stay, and what is behind them, though the answer is written over.
func TestPromise20PiecesStay(t *testing.T) {
	room := []impl.Piece{{From: 2, Data: "cd"}, {From: 6, Data: "gh"}, {From: 10, Data: "kl"}, {From: 77, Data: "spare"}, {From: 78, Data: "spare"}}
	before := slices.Clone(room)
	for many := range 4 {
		l := room[:many]
		for from := range int64(16) {
			for n := range 16 {
				x := impl.Piece{From: from, Data: bytesOf(n)}
				m, ok := impl.Added(l, x)
				again, _ := impl.Added(l, x)
				for i := range m {
					m[i] = impl.Piece{From: -1, Data: "other"}
				}
				_ = append(m, impl.Piece{From: -1, Data: "other"}, impl.Piece{From: -1, Data: "other"})
				if last, same := impl.Added(l, x); same != ok || !slices.Equal(last, again) {
					t.Errorf("%d pieces and %+v: %+v, then %+v", many, x, again, last)
				}
			}
		}
		h := impl.Holes(l, 20)
		h[0] = impl.Range{From: -1, To: -1}
		if g := impl.Holes(l, 20); g[0] == h[0] {
			t.Errorf("%d pieces: %v", many, g)
		}
		impl.Prefix(l)
		impl.Known(l)
		impl.PiecesOk(l)
	}
	if !slices.Equal(room, before) {
		t.Errorf("%+v", room)
	}
}

// Whatever can be taken apart is in a flow, whatever can not is in none.
func TestFlowsOfAnyBytes(t *testing.T) {
	next := steady(23)
	for range 300 {
		l := somePairs(60, next)
		for i := range l {
			if next()>>20%4 == 0 {
				l[i].Data = cutAndTurned(l[i].Data, next)
			}
		}
		flowsAre(t, "any bytes", l, wantFlows(l))
		for _, p := range l {
			ip, x, ok := impl.Dissect(p)
			if !ok {
				notDissected(t, "any bytes", p)
				continue
			}
			if f, _ := impl.ReadFrame(p.Data); f.Kind != 0x0800 || ip.Proto != 6 || !impl.IpOk(ip) || !impl.TcpOk(x) {
				t.Errorf("%+v is %+v %+v", p, ip, x)
			}
		}
	}
}

// piecesRight asks of each piece by itself what a list of them must be.
func piecesRight(l []impl.Piece) bool {
	for i, p := range l {
		if p.From < 0 || p.From > 6000 || p.Data == "" || len(p.Data) > 6000 {
			return false
		}
		if i > 0 && p.From < l[i-1].From+int64(len(l[i-1].Data))+1 {
			return false
		}
	}
	return len(l) <= 60
}

// Lists that are right by chance are answered, those that are not have the fixed answers.
func TestStreamsOfAnyPieces(t *testing.T) {
	next := steady(24)
	numbers := append([]int64{-1, 0, 1, 299, 300, 301, 5000, 5001, 6000, 6001, 20000, 20001}, extremes...)
	number := func() int64 {
		if next()>>20%3 == 0 {
			return numbers[next()>>20%int64(len(numbers))]
		}
		return next() >> 20 % 7000
	}
	right := 0
	for range 20000 {
		l := make([]impl.Piece, next()>>20%4)
		for i := range l {
			l[i] = impl.Piece{From: number(), Data: bytesOf(int(max(0, min(number(), 6100))))}
		}
		x := impl.Piece{From: number(), Data: bytesOf(int(max(0, min(number(), 400))))}
		ok := piecesRight(l)
		if impl.PiecesOk(l) != ok {
			t.Fatalf("%d pieces: %v", len(l), !ok)
		}
		m, added := impl.Added(l, x)
		if added && (!ok || !piecesRight(m) || x.From < 0 || x.From > 5000 || x.Data == "" || len(x.Data) > 300) || !added && len(m) != 0 {
			t.Errorf("%d pieces and %d bytes from %d: %d %v", len(l), len(x.Data), x.From, len(m), added)
		}
		if added {
			right++
		}
		if h := impl.Holes(l, number()); !ok && (len(h) != 0 || impl.Prefix(l) != "" || impl.Known(l) != 0) {
			t.Errorf("%d pieces: %v", len(l), h)
		}
	}
	if right < 100 {
		t.Errorf("only %d were added", right)
	}
}

// Promise 20: boards and what they are told stay, and what is behind them, though the answer is written over.
func TestPromise20BoardsStay(t *testing.T) {
	spare := impl.Range{From: 77, To: 78}
	room := []impl.Range{{From: 4, To: 6}, {From: 9, To: 12}, {From: 20, To: 21}, spare, spare, spare, spare}
	told := []impl.Range{{From: 14, To: 16}, {From: 5, To: 10}, {From: 16, To: 20}, spare, spare}
	before, toldBefore := slices.Clone(room), slices.Clone(told)
	for many := range 4 {
		b := impl.Board{Next: 30, Sacked: room[:many]}
		calls := []func() (impl.Board, bool){func() (impl.Board, bool) { return impl.BoardSent(b, 5) }}
		for ack := range int64(32) {
			calls = append(calls, func() (impl.Board, bool) { return impl.BoardAck(b, ack) })
		}
		for few := range 5 {
			calls = append(calls, func() (impl.Board, bool) { return impl.BoardSack(b, told[:few]) })
		}
		for i, call := range calls {
			a, ok := call()
			kept := impl.Board{Una: a.Una, Next: a.Next, Sacked: slices.Clone(a.Sacked)}
			other, _ := call()
			for j := range a.Sacked {
				a.Sacked[j] = impl.Range{From: -1, To: -1}
			}
			_ = append(a.Sacked, impl.Range{From: -1}, impl.Range{From: -1})
			if last, same := call(); same != ok || !sameBoard(last, kept) || !sameBoard(other, kept) {
				t.Errorf("%d ranges, call %d: %+v, then %+v", many, i, kept, last)
			}
		}
		impl.BoardOk(b)
		impl.Flight(b)
		impl.LostAt(b, 1, 1)
	}
	if !slices.Equal(room, before) || !slices.Equal(told, toldBefore) {
		t.Errorf("%v %v", room, told)
	}
}

// Promise 20: a clock keeps nothing from one call to another.
func TestPromise20SameClocks(t *testing.T) {
	next := steady(36)
	for range 500 {
		r := aClock(next)
		ms := aMeasure(r, next)
		s, late := impl.RttStep(r, ms), impl.RttLate(r)
		impl.RttStep(s, maxRto)
		impl.RttStep(impl.Rtt{}, 5)
		impl.RttLate(late)
		if impl.RttStep(r, ms) != s || impl.RttLate(r) != late || impl.RttNew() != (impl.Rtt{Rto: 1000}) {
			t.Errorf("%+v behind %d: %+v, then %+v", r, ms, s, impl.RttStep(r, ms))
		}
	}
}

// boardRight asks of each range by itself what those of a board must be.
func boardRight(b impl.Board) bool {
	if b.Una < 0 || b.Una > maxWin || b.Next < b.Una || b.Next > maxWin || len(b.Sacked) > 40 {
		return false
	}
	least := b.Una + 1
	for _, r := range b.Sacked {
		if r.From < least || r.To <= r.From || r.To > b.Next {
			return false
		}
		least = r.To + 1
	}
	return true
}

// Boards that are right by chance are answered, those that are not have the fixed answers.
func TestBoardsOfAnyNumbers(t *testing.T) {
	next := steady(37)
	numbers := append([]int64{-1, 0, 1, 10000, 10001, maxWin - 1, maxWin, maxWin + 1}, extremes...)
	number := func() int64 {
		if next()>>20%8 == 0 {
			return numbers[next()>>20%int64(len(numbers))]
		}
		return next() >> 20 % 40
	}
	ranges := func(many int64) []impl.Range {
		l := make([]impl.Range, many)
		for i := range l {
			l[i] = impl.Range{From: number(), To: number()}
		}
		return l
	}
	right := 0
	for range 50000 {
		b := impl.Board{Una: number(), Next: number(), Sacked: ranges(next() >> 20 % 3)}
		ok := boardRight(b)
		if impl.BoardOk(b) != ok || (impl.Flight(b) == -1) == ok {
			t.Fatalf("%+v: %v", b, !ok)
		}
		if ok {
			right++
		}
		at := number()
		if lost := impl.LostAt(b, at, number()); lost && (!ok || at < b.Una || at >= b.Next || inRanges(b.Sacked, at)) {
			t.Errorf("%+v at %d", b, at)
		}
		for i, call := range []func() (impl.Board, bool){
			func() (impl.Board, bool) { return impl.BoardSent(b, number()) },
			func() (impl.Board, bool) { return impl.BoardAck(b, number()) },
			func() (impl.Board, bool) { return impl.BoardSack(b, ranges(next()>>20%5)) },
		} {
			if a, did := call(); did && (!ok || !boardRight(a)) || !did && !sameBoard(a, impl.Board{}) {
				t.Errorf("%+v, call %d: %+v %v", b, i, a, did)
			}
		}
	}
	if right < 1000 {
		t.Errorf("only %d were right", right)
	}
}

// Promise 20: the events stay, and what is behind them; a sender keeps nothing from one call to another.
func TestPromise20EventsStay(t *testing.T) {
	next := steady(44)
	spare := impl.Event{Kind: 77, N: 78}
	for range 200 {
		r := aReno(next)
		room := append(someEvents(r, 20, next), spare, spare)
		room[next()>>20%20].Kind = 1 + next()>>20%4
		before := slices.Clone(room)
		for many := range 21 {
			s, n := impl.RenoPlay(r, room[:many])
			impl.RenoPlay(s, room[:many])
			impl.RenoPlay(impl.Reno{}, room[:many])
			for _, e := range room {
				impl.RenoStep(s, e)
			}
			if again, m := impl.RenoPlay(r, room[:many]); again != s || m != n {
				t.Errorf("%+v with %d events: %+v %d, then %+v %d", r, many, s, n, again, m)
			}
		}
		if !slices.Equal(room, before) {
			t.Errorf("%+v", room)
		}
	}
}

// Promise 20: roots and windows by the cube keep nothing from one call to another.
func TestPromise20SameCubes(t *testing.T) {
	next := steady(53)
	for range 2000 {
		n, win, at := among(0, maxCubed, next), among(0, maxWin, next), among(0, 10000, next)
		root, k, now := impl.CubeRoot(n), impl.CubicK(win), impl.CubicWin(win, at)
		impl.CubeRoot(maxCubed - n)
		impl.CubicK(-1)
		impl.CubicWin(maxWin-win, 10000-at)
		if impl.CubeRoot(n) != root || impl.CubicK(win) != k || impl.CubicWin(win, at) != now {
			t.Errorf("%d, %d at %d", n, win, at)
		}
	}
}

// renoRight asks of each number by itself what that of a sender must be.
func renoRight(r impl.Reno) bool {
	if r.Mss < 1 || r.Mss > 10000 || r.Win < r.Mss || r.Win > maxWin {
		return false
	}
	if r.Limit < 2*r.Mss || r.Limit > maxWin || r.Over < 0 || r.Over > maxWin {
		return false
	}
	if r.Phase == impl.PhMend {
		return r.Dup == 3 && r.Gained == 0
	}
	if r.Dup != 0 && r.Dup != 1 && r.Dup != 2 {
		return false
	}
	slow := r.Phase == impl.PhSlow && r.Win < r.Limit && r.Gained == 0
	avoids := r.Phase == impl.PhAvoid && r.Win >= r.Limit && r.Gained >= 0 && r.Gained <= r.Win-1
	return slow || avoids
}

func eventRight(e impl.Event) bool {
	if e.Flight < 0 || e.Flight > maxWin || e.Ack < 0 || e.Ack > e.Next || e.Next > maxWin {
		return false
	}
	if e.Kind == impl.EvAck {
		return e.N > 0 && e.N <= maxWin
	}
	return (e.Kind == impl.EvDup || e.Kind == impl.EvLate) && e.N == 0
}

// Senders that are right by chance are answered, those that are not have the fixed answers.
func TestRenosOfAnyNumbers(t *testing.T) {
	next := steady(45)
	numbers := append([]int64{-1, 0, 1, 2, 3, 4, 10, 10000, 10001, maxWin - 1, maxWin, maxWin + 1}, extremes...)
	number := func() int64 { return numbers[next()>>20%int64(len(numbers))] }
	right, stepped := 0, 0
	for range 100000 {
		r := aReno(next)
		e := anEvent(r, next)
		for _, at := range []*int64{&r.Mss, &r.Win, &r.Limit, &r.Phase, &r.Dup, &r.Over, &r.Gained, &e.Kind, &e.N, &e.Ack, &e.Flight, &e.Next} {
			if next()>>20%12 == 0 {
				*at = number()
			}
		}
		ok := renoRight(r)
		if impl.RenoOk(r) != ok {
			t.Fatalf("%+v: %v", r, !ok)
		}
		s, did := impl.RenoStep(r, e)
		if did != (ok && eventRight(e)) || did && s != wantReno(r, e) || !did && s != (impl.Reno{}) {
			t.Fatalf("%+v with %+v: %+v %v", r, e, s, did)
		}
		p, n := impl.RenoPlay(r, []impl.Event{e})
		switch {
		case !ok && (n != -1 || p != (impl.Reno{})), did && (n != 1 || p != s), ok && !did && (n != 0 || p != r):
			t.Fatalf("%+v with %+v: %+v %d", r, e, p, n)
		}
		if ok {
			right++
		}
		if did {
			stepped++
		}
	}
	if right < 1000 || right > 99000 || stepped < 1000 || stepped == right {
		t.Errorf("%d were right, %d of them with the event", right, stepped)
	}
}

// Roots and windows by the cube are answered at every number.
func TestCubesOfAnyNumbers(t *testing.T) {
	next := steady(54)
	numbers := append([]int64{-1, 0, 1, 10000, 10001, maxWin, maxWin + 1, maxCubed, maxCubed + 1}, extremes...)
	number := func() int64 {
		if next()>>20%4 == 0 {
			return numbers[next()>>20%int64(len(numbers))]
		}
		return next()>>20%20000 - 5000
	}
	for range 50000 {
		n, at := number(), number()
		if r := impl.CubeRoot(n); (r == -1) != (n < 0 || n > maxCubed) || r < -1 {
			t.Errorf("%d: %d", n, r)
		}
		none := n < 0 || n > maxWin
		if k := impl.CubicK(n); (k == -1) != none || k < -1 {
			t.Errorf("%d: %d", n, k)
		}
		if w := impl.CubicWin(n, at); (w == -1) != (none || at < 0 || at > 10000) || w < -1 {
			t.Errorf("%d at %d: %d", n, at, w)
		}
	}
}

// spareWorld has the lists of w with spare room behind them, in which there is something.
func spareWorld(w impl.World) impl.World {
	spare := span(77, 78)
	note := ackNote(76, spare)
	w.Board.Sacked = append(w.Board.Sacked, spare, spare)[:len(w.Board.Sacked)]
	w.Got = append(w.Got, streamPiece(76, 78), streamPiece(79, 80))[:len(w.Got)]
	w.Down = append(w.Down, spare, spare)[:len(w.Down)]
	w.Up = append(w.Up, note, note)[:len(w.Up)]
	w.Notes = append(w.Notes, note, note)[:len(w.Notes)]
	for _, l := range [][]impl.Note{w.Up, w.Notes} {
		for i, n := range l {
			l[i].Sacks = append(n.Sacks, spare, spare)[:len(n.Sacks)]
		}
	}
	return w
}

// wholeWorld is w with all the room of its lists.
func wholeWorld(w impl.World) impl.World {
	w.Board.Sacked = w.Board.Sacked[:cap(w.Board.Sacked)]
	w.Got = w.Got[:cap(w.Got)]
	w.Down = w.Down[:cap(w.Down)]
	w.Up = wholeNotes(w.Up)
	w.Notes = wholeNotes(w.Notes)
	return w
}

func wholeNotes(l []impl.Note) []impl.Note {
	l = slices.Clone(l[:cap(l)])
	for i, n := range l {
		l[i].Sacks = n.Sacks[:cap(n.Sacks)]
	}
	return l
}

// overwritten writes over all lists of w, with their spare room, one by one, and asks whether the others stay.
func overwritten(t *testing.T, w impl.World) {
	t.Helper()
	lists := func(w impl.World) []*[]impl.Range {
		l := []*[]impl.Range{&w.Board.Sacked, &w.Down}
		for _, notes := range [][]impl.Note{w.Up, w.Notes} {
			for i := range notes {
				l = append(l, &notes[i].Sacks)
			}
		}
		return l
	}
	var kept [][]impl.Range
	for _, l := range lists(w) {
		kept = append(kept, slices.Clone(*l))
	}
	for i, l := range lists(w) {
		if !slices.Equal(*l, kept[i]) {
			t.Fatalf("%+v: %v was %v", w, *l, kept[i])
		}
		whole := (*l)[:cap(*l)]
		for j := range whole {
			whole[j] = span(-9, -9)
		}
	}
	for _, l := range [][]impl.Note{w.Up[:cap(w.Up)], w.Notes[:cap(w.Notes)]} {
		for i := range l {
			l[i] = sendNote(-9, -9)
		}
	}
	for i := range w.Got[:cap(w.Got)] {
		w.Got[:cap(w.Got)][i] = impl.Piece{From: -9}
	}
}

// Promise 20: worlds stay, and what is behind their lists, though the answers are written over; no two lists of one answer share any.
func TestPromise20WorldsStay(t *testing.T) {
	next := steady(64)
	for round := range 300 {
		w := spareWorld(aWorld(next))
		if round%20 == 0 {
			w = spareWorld(mendsOnWorld())
		}
		for i := range w.Up {
			w.Up[i].Sacks = w.Up[0].Sacks
		}
		before := cloneWorld(wholeWorld(w))
		steps := make([]impl.Step, 8, 10)
		for i := range steps {
			steps[i] = impl.Step{Kind: 1 + next()>>20%4, At: next() >> 20 % 2}
		}
		stepsBefore := slices.Clone(steps[:10])
		calls := []func() (impl.World, []int64){
			func() (impl.World, []int64) { return impl.WorldPlay(w, steps) },
			func() (impl.World, []int64) { return impl.WorldPlay(w, nil) },
			func() (impl.World, []int64) { c, _ := impl.WorldCalm(w); return c, nil },
		}
		for _, s := range append(slices.Clone(steps), impl.Step{Kind: 9}) {
			calls = append(calls, func() (impl.World, []int64) { n, code := impl.WorldDo(w, s); return n, []int64{code} })
		}
		for i, call := range calls {
			a, codes := call()
			kept, keptCodes := cloneWorld(a), slices.Clone(codes)
			other, _ := call()
			overwritten(t, a)
			for j := range codes {
				codes[j] = -9
			}
			if last, again := call(); !sameWorld(last, kept) || !sameWorld(other, kept) || !slices.Equal(again, keptCodes) {
				t.Fatalf("call %d: %+v\nthen %+v", i, kept, last)
			}
		}
		impl.WorldOk(w)
		if !sameWorld(wholeWorld(w), before) || !slices.Equal(steps[:10], stepsBefore) {
			t.Fatalf("%+v\nnot %+v", wholeWorld(w), before)
		}
	}
}

// Promise 20: notes stay, and what is behind them; an audit keeps nothing from one call to another.
func TestPromise20NotesStay(t *testing.T) {
	next := steady(74)
	for range 100 {
		p := aPlay(t, 100, next, noLook)
		w := spareWorld(p.w)
		before := cloneNotes(wholeNotes(w.Notes))
		for many := range w.Notes {
			l := w.Notes[:many]
			f, wins := impl.Audit(w.Reno.Mss, p.many, l), impl.WinsOf(w.Reno.Mss, p.many, l)
			kept := slices.Clone(wins)
			for i := range wins {
				wins[i] = -9
			}
			impl.NotesOk(l)
			impl.Audit(0, 0, w.Notes)
			impl.WinsOf(1, 1, w.Notes)
			if impl.Audit(w.Reno.Mss, p.many, l) != f || !slices.Equal(impl.WinsOf(w.Reno.Mss, p.many, l), kept) {
				t.Errorf("%+v: %+v %v", l, f, kept)
			}
		}
		if !sameNotes(wholeNotes(w.Notes), before) {
			t.Errorf("%+v", w.Notes)
		}
	}
}

// Promise 20: nothing goes on behind a call.
func TestPromise20NothingGoesOn(t *testing.T) {
	nothingGoesOn(t, func() {
		for _, w := range append(rightWorlds(), wrongWorlds()...) {
			for _, s := range anyStep() {
				impl.WorldDo(w, s)
			}
			impl.WorldCalm(w)
		}
	})
}

func nothingGoesOn(t *testing.T, calls func()) {
	t.Helper()
	before := runtime.NumGoroutine()
	calls()
	// One that has come to its end may be counted a little longer.
	for range 1000 {
		if runtime.NumGoroutine() <= before {
			return
		}
		time.Sleep(time.Millisecond)
	}
	t.Errorf("%d go on", runtime.NumGoroutine()-before)
}

func noteRight(n impl.Note) bool {
	if n.Kind == impl.NtSend {
		return n.From >= 0 && n.From < 10001 && n.N > 0 && n.N < 201 && len(n.Sacks) == 0
	}
	for _, r := range n.Sacks {
		if r.From < 0 || r.To > 20000 || r.To <= r.From {
			return false
		}
	}
	return n.Kind == impl.NtAck && n.From >= 0 && n.From < 20001 && n.N == 0 && len(n.Sacks) < 4
}

// inGot asks of each place by itself whether it is there.
func inGot(got []impl.Range, r impl.Range) bool {
	for at := r.From; at < r.To; at++ {
		if !inRanges(got, at) {
			return false
		}
	}
	return true
}

// worldRight asks of each part by itself what that of a world must be.
func worldRight(w impl.World) bool {
	if w.Total < 0 || w.Total > 3000 || !renoRight(w.Reno) || w.Reno.Mss > 200 || !boardRight(w.Board) || w.Board.Next > w.Total || !piecesRight(w.Got) {
		return false
	}
	got := rangesOfPieces(w.Got)
	for i, r := range got {
		if r.To > w.Board.Next || w.Got[i] != streamPiece(r.From, r.To) {
			return false
		}
	}
	prefix := int64(0)
	for inRanges(got, prefix) {
		prefix++
	}
	for _, r := range w.Board.Sacked {
		if !inGot(got, r) {
			return false
		}
	}
	for _, r := range w.Down {
		if r.From < 0 || r.To > w.Board.Next || r.To <= r.From || r.To > r.From+w.Reno.Mss {
			return false
		}
	}
	for _, n := range w.Up {
		if !noteRight(n) || n.Kind == impl.NtSend || n.From > prefix {
			return false
		}
		for _, r := range n.Sacks {
			if !inGot(got, r) {
				return false
			}
		}
	}
	for _, n := range w.Notes {
		if !noteRight(n) {
			return false
		}
	}
	return w.Board.Una <= prefix && len(w.Down) < 61 && len(w.Up) < 61 && len(w.Notes) < 301
}

// numbersOf are those of a world that may be changed, each by itself.
func numbersOf(w *impl.World) []*int64 {
	l := []*int64{&w.Total, &w.Board.Una, &w.Board.Next, &w.Reno.Mss, &w.Reno.Win, &w.Reno.Phase}
	for _, ranges := range [][]impl.Range{w.Board.Sacked, w.Down} {
		for i := range ranges {
			l = append(l, &ranges[i].From, &ranges[i].To)
		}
	}
	for i := range w.Got {
		l = append(l, &w.Got[i].From)
	}
	for _, notes := range [][]impl.Note{w.Up, w.Notes} {
		for i := range notes {
			l = append(l, &notes[i].Kind, &notes[i].From, &notes[i].N)
			for j := range notes[i].Sacks {
				l = append(l, &notes[i].Sacks[j].From, &notes[i].Sacks[j].To)
			}
		}
	}
	return l
}

// Worlds that are right by chance are answered, those that are not have the fixed answers.
func TestWorldsOfAnyNumbers(t *testing.T) {
	next := steady(65)
	numbers := append([]int64{-1, 0, 1, 2, 3, 60, 200, 201, 3000, 3001, 10000, 10001, 20000, 20001, maxWin}, extremes...)
	right := 0
	for range 10000 {
		w := cloneWorld(aWorld(next))
		l := numbersOf(&w)
		at := l[next()>>20%int64(len(l))]
		if next()>>20%4 == 0 {
			at = l[next()>>20%6]
		}
		if next()>>20%3 == 0 {
			*at = numbers[next()>>20%int64(len(numbers))]
		} else {
			*at += next()>>20%5 - 2
		}
		ok := worldRight(w)
		if impl.WorldOk(w) != ok {
			t.Fatalf("%+v: %v", w, !ok)
		}
		s := impl.Step{Kind: 1 + next()>>20%4, At: next() >> 20 % 3}
		if ok {
			right++
			doesAsWanted(t, w, s)
			continue
		}
		if n, code := impl.WorldDo(w, s); code != impl.WcForm || !sameWorld(n, impl.World{}) {
			t.Fatalf("%+v: %+v %d", w, n, code)
		}
		noWorldPlay(t, w, []impl.Step{s})
		if n, did := impl.WorldCalm(w); did || !sameWorld(n, impl.World{}) {
			t.Fatalf("%+v: %+v", w, n)
		}
	}
	if right < 1000 || right > 9000 {
		t.Errorf("%d were right", right)
	}
}

// Notes that are right by chance are audited, those that are not have the fixed answers.
func TestAuditsOfAnyNumbers(t *testing.T) {
	next := steady(75)
	numbers := append([]int64{-1, 0, 1, 2, 3, 4, 5, 200, 201, 10000, 10001, 20000, 20001}, extremes...)
	number := func() int64 {
		if next()>>20%3 == 0 {
			return numbers[next()>>20%int64(len(numbers))]
		}
		return 1 + next()>>20%2
	}
	right := 0
	for range 50000 {
		var l []impl.Note
		for range next() >> 20 % 4 {
			n := impl.Note{Kind: number(), From: number(), N: number()}
			if n.Kind == impl.NtAck {
				n.N = numbers[next()>>20%3]
			}
			for range max(next()>>20%5-2, 0) {
				n.Sacks = append(n.Sacks, span(number(), number()+1))
			}
			l = append(l, n)
		}
		ok := !slices.ContainsFunc(l, func(n impl.Note) bool { return !noteRight(n) })
		if impl.NotesOk(l) != ok {
			t.Fatalf("%+v: %v", l, !ok)
		}
		mss, many := number(), number()
		if !ok || mss < 1 || mss > 10000 || many < 1 || many > 10 {
			auditIs(t, "not right", mss, many, l, impl.Finding{Code: impl.AuForm}, nil)
			continue
		}
		right++
		f, wins := wantAudit(mss, many, l)
		auditIs(t, "right", mss, many, l, f, wins)
	}
	if right < 1000 || right > 49000 {
		t.Errorf("%d were right", right)
	}
}

// spareFlow has the lists of f with spare room behind them, in which there is something.
func spareFlow(f impl.Flow) impl.Flow {
	spare := impl.Seg{Time: 77, Out: true, T: impl.Tcp{Seq: 78, Data: "spare"}}
	f.Segs = append(f.Segs, spare, spare)[:len(f.Segs)]
	for i, s := range f.Segs {
		f.Segs[i].T.Sacks = append(s.T.Sacks, span(77, 78), span(78, 79))[:len(s.T.Sacks)]
	}
	return f
}

// wholeFlow is a copy of f with all the room of its lists.
func wholeFlow(f impl.Flow) []impl.Seg {
	segs := slices.Clone(f.Segs[:cap(f.Segs)])
	for i, s := range segs {
		segs[i].T.Sacks = slices.Clone(s.T.Sacks[:cap(s.T.Sacks)])
	}
	return segs
}

func sameSegs(a, b []impl.Seg) bool {
	return slices.EqualFunc(a, b, func(x, y impl.Seg) bool { return x.Time == y.Time && x.Out == y.Out && sameSegment(x.T, y.T) })
}

// Promise 20: notes stay, and what is behind them, when they become a text or packets, though the answers are written over.
func TestPromise20LogsStay(t *testing.T) {
	next := steady(91)
	for range 50 {
		p := aPlay(t, 60, next, noLook)
		w := spareWorld(p.w)
		before := cloneNotes(wholeNotes(w.Notes))
		for many := range w.Notes {
			l := w.Notes[:many]
			s := impl.NotesText(l)
			impl.NotesText(w.Notes)
			packets, ok := impl.PacketsOf(l, wrap-9, 5)
			kept := slices.Clone(packets)
			for i := range packets[:cap(packets)] {
				packets[:cap(packets)][i] = impl.Packet{Time: -9}
			}
			again, same := impl.PacketsOf(l, wrap-9, 5)
			if same != ok || !slices.Equal(again, kept) || impl.NotesText(l) != s {
				t.Errorf("%+v: %+v, then %+v", l, kept, again)
			}
			read, _ := impl.ReadNotes(s)
			overwritten(t, impl.World{Notes: read})
			if last, ok := impl.ReadNotes(s); !ok || !sameNotes(last, l) {
				t.Errorf("%q: %+v", s, last)
			}
		}
		if !sameNotes(wholeNotes(w.Notes), before) {
			t.Errorf("%+v", w.Notes)
		}
	}
}

// Promise 20: the segments of a flow stay, and what is behind them, though the notes are written over.
func TestPromise20FlowsStay(t *testing.T) {
	next := steady(92)
	for range 50 {
		p := aPlay(t, 100, next, noLook)
		f := spareFlow(seenFlow(p.w.Notes, wrap-50, 5))
		before := wholeFlow(f)
		for many := range f.Segs {
			part := impl.Flow{Segs: f.Segs[:many]}
			notes, ok := impl.NotesOf(part)
			kept := cloneNotes(notes)
			overwritten(t, impl.World{Notes: notes})
			impl.NotesOf(f)
			if again, same := impl.NotesOf(part); same != ok || !sameNotes(again, kept) {
				t.Errorf("%+v: %+v, then %+v", part, kept, again)
			}
		}
		if !sameSegs(wholeFlow(f), before) {
			t.Errorf("%+v", f)
		}
	}
}

// Promise 20: samples stay, and what is behind them, though the answers are written over.
func TestPromise20SamplesStay(t *testing.T) {
	next := steady(93)
	for range 500 {
		room := append(falling(1+next()>>20%12), sample(77, 78), sample(78, 77))
		room[next()>>20%int64(len(room))].Time += next() >> 20 % 3
		before := slices.Clone(room)
		for many := range len(room) - 1 {
			x := sample(30+next()>>20%3, 1000-next()>>20%15)
			width := 1 + next()>>20%30
			b := impl.Bbr{Phase: 1 + next()>>20%3, Best: room[:many], Rtt: 1 + next()>>20%3, Still: 3}
			if b.Phase == impl.BbUp {
				b.Still = 0
			}
			for i, call := range []func() []impl.Sample{
				func() []impl.Sample { l, _ := impl.FilterAdd(room[:many], x, width); return l },
				func() []impl.Sample { n, _ := impl.BbrStep(b, x, 5, 0); return n.Best },
			} {
				l := call()
				kept := slices.Clone(l)
				for j := range l[:cap(l)] {
					l[:cap(l)][j] = sample(-9, -9)
				}
				if again := call(); !slices.Equal(again, kept) {
					t.Errorf("call %d, %+v: %+v, then %+v", i, room[:many], kept, again)
				}
			}
			best, win := impl.FilterBest(room[:many]), impl.BbrWin(b)
			impl.FilterOk(room)
			impl.BbrOk(b)
			impl.BbrNew(7)
			if impl.FilterBest(room[:many]) != best || impl.BbrWin(b) != win {
				t.Errorf("%+v: %d %d", b, best, win)
			}
		}
		if !slices.Equal(room, before) {
			t.Errorf("%+v, not %+v", room, before)
		}
	}
}

// Promise 20: options stay, and what is behind them, though the answers are written over.
func TestPromise20OptionsStay(t *testing.T) {
	for _, l := range append(rightOptions(), wrongOptions()...) {
		room := append(slices.Clone(l), option(77, "spare"), option(78, "spare"))
		before := slices.Clone(room)
		s := impl.OptsBytes(room[:len(l)])
		read, ok := impl.ReadOpts(s)
		kept := slices.Clone(read)
		for i := range read[:cap(read)] {
			read[:cap(read)][i] = option(-9, "other")
		}
		impl.ReadOpts(s + "\x02")
		impl.OptsOk(room)
		impl.OptOf(room[:len(l)], 2)
		if again, same := impl.ReadOpts(s); same != ok || !slices.Equal(again, kept) || impl.OptsBytes(room[:len(l)]) != s {
			t.Errorf("%+v: %+v, then %+v", l, kept, again)
		}
		if !slices.Equal(room, before) {
			t.Errorf("%+v, not %+v", room, before)
		}
	}
}

// What is no flow of a sender is answered, too: notes that come of it are right.
func TestNotesOfAnyFlow(t *testing.T) {
	next := steady(94)
	numbers := append([]int64{-1, 0, 1, 2, 10000, 10001, 20000, 20001, wrap/2 - 1, wrap / 2, wrap - 1, wrap}, extremes...)
	number := func() int64 {
		if next()>>20%40 == 0 {
			return numbers[next()>>20%int64(len(numbers))]
		}
		return aroundWrap(next()>>20%30 - 5)
	}
	right := 0
	for range 50000 {
		var f impl.Flow
		for range next() >> 20 % 5 {
			s := impl.Seg{Time: number(), Out: next()>>20%2 == 0, T: impl.Tcp{Seq: number(), Ack: number(), Data: bytesOf(int(next() >> 20 % 3))}}
			for range max(next()>>20%5-2, 0) {
				from := number()
				s.T.Sacks = append(s.T.Sacks, span(from, from+next()>>20%3))
			}
			f.Segs = append(f.Segs, s)
		}
		want, ok := wantNotesOf(f)
		if !ok {
			noNotesOf(t, "any flow", f)
			continue
		}
		right++
		notesAre(t, "any flow", f, want)
	}
	if right < 1000 || right > 49000 {
		t.Errorf("%d were right", right)
	}
}

// placeOf is a number's place behind first, the nearest way round.
func placeOf(n, first int64) int64 {
	at := aroundWrap(n - first)
	if at >= wrap/2 {
		at -= wrap
	}
	return at
}

// wantNotesOf asks of a short flow, segment by segment, what its notes must be.
func wantNotesOf(f impl.Flow) ([]impl.Note, bool) {
	first := int64(-1)
	for _, s := range slices.Backward(f.Segs) {
		if !impl.TcpOk(s.T) {
			return nil, false
		}
		if s.Out && len(s.T.Data) > 0 {
			first = s.T.Seq
		}
	}
	if first < 0 {
		return nil, false
	}
	var l []impl.Note
	for _, s := range f.Segs {
		var n impl.Note
		switch {
		case !s.Out:
			n = ackNote(placeOf(s.T.Ack, first))
			for _, r := range s.T.Sacks {
				n.Sacks = append(n.Sacks, span(placeOf(r.From, first), placeOf(r.To, first)))
			}
		case s.T.Data == "":
			continue
		default:
			n = sendNote(placeOf(s.T.Seq, first), int64(len(s.T.Data)))
		}
		if !noteRight(n) {
			return nil, false
		}
		l = append(l, n)
	}
	return l, true
}

// Packets of any numbers are right, or none.
func TestPacketsOfAnyNumbers(t *testing.T) {
	next := steady(95)
	numbers := append([]int64{-1, 0, 1, 200, 201, 10000, 10001, 20000, 20001, wrap - 1, wrap}, extremes...)
	number := func() int64 {
		if next()>>20%10 == 0 {
			return numbers[next()>>20%int64(len(numbers))]
		}
		return 1 + next()>>20%9
	}
	right := 0
	for range 20000 {
		var l []impl.Note
		for range next() >> 20 % 4 {
			n := sendNote(number(), number())
			if next()>>20%2 == 0 {
				n = ackNote(number(), span(number(), 10+number()))
			}
			l = append(l, n)
		}
		first, back := number(), number()
		if slices.ContainsFunc(l, func(n impl.Note) bool { return !noteRight(n) }) || aroundWrap(first) != first || aroundWrap(back) != back {
			noPackets(t, "any numbers", l, first, back)
			continue
		}
		right++
		packetsAre(t, "any numbers", l, first, back)
	}
	if right < 1000 || right > 19000 {
		t.Errorf("%d were right", right)
	}
}

// Promise 20: profiles and notes stay, and what is behind them, though the answers are written over.
func TestPromise20ProfilesStay(t *testing.T) {
	next := steady(103)
	for range 30 {
		p := aPlay(t, 60, next, noLook)
		w := spareWorld(p.w)
		notesBefore := cloneNotes(wholeNotes(w.Notes))
		room := append(nearProfiles(w.Reno.Mss, p.many, next), profile(77, 7), profile(78, 8))
		before := slices.Clone(room)
		l := room[:len(room)-2]
		for many := range w.Notes {
			n := w.Notes[:many]
			fits, again := impl.Fits(l, n), impl.Again(n)
			least, most, ok := impl.WinBounds(l, n, int64(many-1))
			goodput := impl.Goodput(n)
			keptFits, keptAgain := slices.Clone(fits), slices.Clone(again)
			for _, answer := range [][]int64{fits[:cap(fits)], again[:cap(again)]} {
				for i := range answer {
					answer[i] = -9
				}
			}
			impl.Fits(room, w.Notes)
			impl.WinBounds(room[:1], w.Notes, 0)
			impl.Again(w.Notes)
			impl.Goodput(nil)
			if !slices.Equal(impl.Fits(l, n), keptFits) || !slices.Equal(impl.Again(n), keptAgain) || impl.Goodput(n) != goodput {
				t.Errorf("%+v of %+v: %v %v %d", l, n, keptFits, keptAgain, goodput)
			}
			if a, b, same := impl.WinBounds(l, n, int64(many-1)); a != least || b != most || same != ok {
				t.Errorf("%+v of %+v: %d %d %v, then %d %d %v", l, n, least, most, ok, a, b, same)
			}
		}
		if !slices.Equal(room, before) || !sameNotes(wholeNotes(w.Notes), notesBefore) {
			t.Errorf("%+v, not %+v; %+v", room, before, w.Notes)
		}
	}
}

// Promise 20: fragments stay, and what is behind them, though the answers are written over.
func TestPromise20FragmentsStay(t *testing.T) {
	next := steady(113)
	for range 300 {
		body := letters(int(1+next()>>20%480), next)
		size := 8 * (1 + next()>>20%37)
		l, _ := impl.FragsOf(body, size)
		kept := slices.Clone(l)
		for i := range l[:cap(l)] {
			l[:cap(l)][i] = last(-9, "other")
		}
		if again, ok := impl.FragsOf(body, size); !ok || !slices.Equal(again, kept) {
			t.Errorf("%q by %d: %+v, then %+v", body, size, kept, again)
		}
		room := append(mixed(slices.Concat(kept, kept), next), last(0, "spare"), more(601, "spare"))
		before := slices.Clone(room)
		for many := range len(room) + 1 {
			s, ok := impl.Whole(room[:many])
			impl.Whole(room)
			impl.FragOk(room[max(many-1, 0)])
			if again, same := impl.Whole(room[:many]); again != s || same != ok {
				t.Errorf("%+v: %q %v, then %q %v", room[:many], s, ok, again, same)
			}
		}
		if !slices.Equal(room, before) {
			t.Errorf("%+v, not %+v", room, before)
		}
	}
}

// Promise 20: the same script says the same, whatever was run ahead of it, or is run at the same time.
func TestPromise20SameScripts(t *testing.T) {
	next := steady(124)
	for range 40 {
		l, _ := mixedLines(40, next)
		text := scriptOf(l...)
		kept := strings.Clone(text)
		said := impl.RunScript(text)
		impl.RunScript(scriptOf("world 3000 200 10", "send", "send"))
		impl.RunScript(scriptOf("world 3000 200 10", "send") + "late")
		impl.RunScript(strings.Repeat(text, 2))
		if again := impl.RunScript(text); again != said || text != kept {
			t.Errorf("%q said %q, then %q", text, said, again)
		}
		if first := impl.RunScript("show\naudit\nsend\n"); first != "show 0 0 1 1 0 0 0\naudit 0 0\nno 2\n" {
			t.Errorf("behind %q: %q", text, first)
		}
		answers := make(chan string)
		for range 4 {
			go func() { answers <- impl.RunScript(text) }()
		}
		for range 4 {
			if again := <-answers; again != said {
				t.Errorf("%q said %q, and %q at the same time", text, said, again)
			}
		}
	}
}

// Promise 20: nothing goes on behind a script.
func TestPromise20NoScriptGoesOn(t *testing.T) {
	next := steady(125)
	nothingGoesOn(t, func() {
		for range 100 {
			l, _ := mixedLines(40, next)
			impl.RunScript(scriptOf(l...))
		}
	})
}

// Scripts of any bytes say what is wanted.
func TestScriptsOfAnyBytes(t *testing.T) {
	next := steady(126)
	bytes := []byte("\n\n  01239-x\t\r\x00\xffsu")
	long, other := 0, 0
	for range 20000 {
		l, _ := mixedLines(int(1+next()>>20%41), next)
		b := []byte(scriptOf(l...))
		for range next() >> 20 % 6 {
			at := next() >> 20 % int64(len(b))
			b[at] = bytes[next()>>20%int64(len(bytes))]
		}
		if next()>>20%10 == 0 {
			b = b[:next()>>20%int64(len(b)+1)]
		}
		text := string(b)
		want := wantScript(text)
		scriptIs(t, "any bytes", text, want)
		if want == tooLong {
			long++
		} else {
			other++
		}
	}
	if long < 1000 || other < 10000 {
		t.Errorf("%d were too long, %d were not", long, other)
	}
	for range 5000 {
		s := text(int(next()>>20%60), next)
		scriptIs(t, "any bytes", s, wantScript(s))
		scriptIs(t, "any bytes, ended", s+"\n", wantScript(s+"\n"))
	}
}
