package tests

import (
	"reflect"
	"slices"
	"strings"
	"testing"

	"loop.example/g00559/impl"
)

// segmentSum is the sum of a segment with what stands for its packet.
func segmentSum(a, b int64, s string) int64 {
	return sumOf(number(a, 4, true) + number(b, 4, true) + "\x00\x06" + number(int64(len(s)), 2, true) + s)
}

// withSegmentSum writes the sum of a segment of at least 20 bytes into it.
func withSegmentSum(a, b int64, s string) string {
	s = s[:16] + "\x00\x00" + s[18:]
	return s[:16] + number(segmentSum(a, b, s), 2, true) + s[18:]
}

// rawTcp writes a segment, right or not, with these bytes for options (four times a number).
func rawTcp(a, b int64, t impl.Tcp, options string) string {
	ahead := number(int64(20+len(options))/4*16, 1, true)
	head := number(t.From, 2, true) + number(t.To, 2, true) + number(t.Seq, 4, true) + number(t.Ack, 4, true) + ahead + number(t.Flags, 1, true) + number(t.Win, 2, true)
	return withSegmentSum(a, b, head+"\x00\x00\x00\x00"+options+t.Data)
}

// sackOption writes ranges with their kind and length, and nothing ahead of them.
func sackOption(l ...impl.Range) string {
	s := "\x05" + number(int64(2+8*len(l)), 1, true)
	for _, r := range l {
		s += number(r.From, 4, true) + number(r.To, 4, true)
	}
	return s
}

func sackOptions(l []impl.Range) string {
	if len(l) == 0 {
		return ""
	}
	return "\x01\x01" + sackOption(l...)
}

// sameSegment: an empty list and nil are the same.
func sameSegment(x, y impl.Tcp) bool {
	same := slices.Equal(x.Sacks, y.Sacks)
	x.Sacks, y.Sacks = nil, nil
	return same && reflect.DeepEqual(x, y)
}

func segmentComesBack(t *testing.T, a, b int64, x impl.Tcp) {
	t.Helper()
	if !impl.TcpOk(x) {
		t.Errorf("not right: %+v", x)
	}
	s := impl.TcpBytes(a, b, x)
	if s != rawTcp(a, b, x, sackOptions(x.Sacks)) {
		t.Errorf("%+v: %q", x, s)
	}
	if y, ok := impl.ReadTcp(a, b, s); !ok || !sameSegment(x, y) {
		t.Errorf("%+v came back as %+v %v", x, y, ok)
	}
}

func aTcp(next func() int64) impl.Tcp {
	x := impl.Tcp{From: next() % 65536, To: next() % 65536, Seq: next() % wrap, Ack: next() % wrap, Flags: next() % 64, Win: next() % 65536, Data: text(int(next()%201), next)}
	for range next() % 4 {
		x.Sacks = append(x.Sacks, impl.Range{From: next() % wrap, To: next() % wrap})
	}
	return x
}

// Promise 5: right segments come back from their bytes, between the same addresses.
func TestPromise05SegmentsComeBack(t *testing.T) {
	next := steady(14)
	for n := 0; n <= 200; n++ {
		for sacks := range 4 {
			x := aTcp(next)
			x.Sacks = make([]impl.Range, sacks)
			for i := range x.Sacks {
				x.Sacks[i] = impl.Range{From: next() % wrap, To: next() % wrap}
			}
			x.Data = text(n, next)
			segmentComesBack(t, next()%wrap, next()%wrap, x)
		}
	}
	for _, a := range round {
		for _, b := range round {
			x := impl.Tcp{Seq: a, Ack: b, Sacks: []impl.Range{{From: a, To: b}, {From: b, To: a}, {From: a, To: a}}}
			segmentComesBack(t, a, b, x)
		}
	}
	for _, word := range []int64{0, 1, 255, 256, 0x8000, 65534, 65535} {
		for flags := range int64(64) {
			segmentComesBack(t, 1, 2, impl.Tcp{From: word, To: 65535 - word, Flags: flags, Win: word, Data: "x"})
			segmentComesBack(t, 1, 2, impl.Tcp{From: 65535 - word, To: word, Flags: flags, Win: 65535 - word})
		}
	}
}

// Promise 5: a segment of which one bit is turned is none; nor is one between other addresses.
func TestPromise05OneBit(t *testing.T) {
	next := steady(15)
	for range 20 {
		x := aTcp(next)
		a, b := next()%wrap, next()%wrap
		s := impl.TcpBytes(a, b, x)
		for i := range len(s) {
			for bit := range 8 {
				turned := []byte(s)
				turned[i] ^= 1 << bit
				noTcp(t, "one bit", a, b, string(turned))
			}
		}
		for bit := range 32 {
			noTcp(t, "one bit of an address", a^1<<bit, b, s)
			noTcp(t, "one bit of an address", a, b^1<<bit, s)
		}
	}
}

func TestTcpBytesKnown(t *testing.T) {
	x := impl.Tcp{From: 0x0102, To: 0x0304, Seq: 0x05060708, Ack: 0x090a0b0c, Flags: 0x18, Win: 0x0d0e, Data: "abc"}
	head := "\x01\x02\x03\x04\x05\x06\x07\x08\x09\x0a\x0b\x0c"
	if s := impl.TcpBytes(1, 2, x); s[:16] != head+"\x50\x18\x0d\x0e" || s[18:] != "\x00\x00abc" {
		t.Errorf("%q", s)
	}
	x.Sacks = []impl.Range{{From: 0x11121314, To: 0x15161718}}
	if s := impl.TcpBytes(1, 2, x); s[:16] != head+"\x80\x18\x0d\x0e" || s[18:] != "\x00\x00\x01\x01\x05\x0a\x11\x12\x13\x14\x15\x16\x17\x18abc" {
		t.Errorf("%q", s)
	}
	x.Sacks = make([]impl.Range, 3)
	if s := impl.TcpBytes(1, 2, x); s[12] != 0xc0 || s[18:] != "\x00\x00\x01\x01\x05\x1a"+noughts(24)+"abc" {
		t.Errorf("%q", s)
	}
	// Only the 6 (proto), the 20 (bytes) and 0x50 are not nought.
	if s := impl.TcpBytes(0, 0, impl.Tcp{}); s != noughts(12)+"\x50"+noughts(3)+number(65535-6-20-0x5000, 2, true)+noughts(2) {
		t.Errorf("%q", s)
	}
}

// wrongTcps are each a right segment with one thing that is not.
func wrongTcps() []impl.Tcp {
	var l []impl.Tcp
	add := func(change func(x *impl.Tcp)) {
		x := impl.Tcp{From: 1000, To: 80, Seq: 5, Ack: 6, Flags: 16, Win: 500, Sacks: []impl.Range{{From: 1, To: 2}, {From: 3, To: 4}, {From: 5, To: 6}}, Data: "data"}
		change(&x)
		l = append(l, x)
	}
	for _, n := range append([]int64{-1, 65536, 65537, wrap}, extremes...) {
		add(func(x *impl.Tcp) { x.From = n })
		add(func(x *impl.Tcp) { x.To = n })
		add(func(x *impl.Tcp) { x.Win = n })
	}
	for _, n := range notRound {
		add(func(x *impl.Tcp) { x.Seq = n })
		add(func(x *impl.Tcp) { x.Ack = n })
		for i := range 3 {
			add(func(x *impl.Tcp) { x.Sacks[i].From = n })
			add(func(x *impl.Tcp) { x.Sacks[i].To = n })
		}
	}
	for _, n := range append([]int64{-1, 64, 65, 128, 255, 256}, extremes...) {
		add(func(x *impl.Tcp) { x.Flags = n })
	}
	for _, n := range []int{4, 5, 100} {
		add(func(x *impl.Tcp) { x.Sacks = make([]impl.Range, n) })
	}
	for _, n := range []int{201, 202, 280, 70000} {
		add(func(x *impl.Tcp) { x.Data = noughts(n) })
	}
	return l
}

func TestSegmentsThatAreNotRight(t *testing.T) {
	for _, x := range wrongTcps() {
		if impl.TcpOk(x) {
			t.Errorf("right: %+v", x)
		}
		if s := impl.TcpBytes(1, 2, x); s != "" {
			t.Errorf("%+v: %q", x, s)
		}
	}
}

func noTcp(t *testing.T, name string, a, b int64, s string) {
	t.Helper()
	if x, ok := impl.ReadTcp(a, b, s); ok || !reflect.DeepEqual(x, impl.Tcp{}) {
		t.Errorf("%s: %q is %+v %v", name, s, x, ok)
	}
}

func TestSegmentsAddresses(t *testing.T) {
	x := impl.Tcp{From: 1, To: 2, Data: "abc"}
	s := impl.TcpBytes(1, 2, x)
	for _, n := range notRound {
		if impl.TcpBytes(n, 2, x) != "" || impl.TcpBytes(1, n, x) != "" || impl.TcpBytes(n, n, x) != "" {
			t.Errorf("%d goes round", n)
		}
		noTcp(t, "address", n, 2, s)
		noTcp(t, "address", 1, n, s)
		// An address without bytes adds as little as the address 0.
		noTcp(t, "address", n, 2, impl.TcpBytes(0, 2, x))
		noTcp(t, "address", 1, n, impl.TcpBytes(1, 0, x))
	}
	if _, ok := impl.ReadTcp(2, 1, s); !ok {
		t.Error("the sum is the same the other way round")
	}
	// An address that does not go round is refused though the sum would be right.
	noTcp(t, "address", 1+wrap, 2, s)
	noTcp(t, "address", 1-wrap, 2, s)
}

func TestReadTcpSizes(t *testing.T) {
	for n := range 20 {
		noTcp(t, "less than 20 bytes", 0, 0, noughts(n))
	}
	for n := 2; n < 20; n++ {
		s := number(segmentSum(0, 0, noughts(n)), 2, true) + noughts(n-2)
		noTcp(t, "less than 20 bytes with a right sum", 0, 0, s)
	}
	x := impl.Tcp{From: 1, To: 2, Data: noughts(200)}
	fill := strings.Repeat("\x01", 40)
	if y, ok := impl.ReadTcp(3, 4, rawTcp(3, 4, x, fill)); !ok || !sameSegment(x, y) {
		t.Error("the greatest head and the most data")
	}
	x.Data = noughts(201)
	noTcp(t, "more data", 3, 4, rawTcp(3, 4, x, ""))
	noTcp(t, "more data", 3, 4, rawTcp(3, 4, x, fill))
	for _, n := range []int{280, 281, 282, 1900, 2000, 70000} {
		x.Data = noughts(n)
		noTcp(t, "too long", 3, 4, rawTcp(3, 4, x, ""))
	}
}

func TestReadTcpSum(t *testing.T) {
	x := impl.Tcp{From: 1, To: 2, Seq: 3, Data: "odd"}
	s := rawTcp(1, 2, x, "")
	for _, d := range []int64{1, 2, 256, 32768, 65534} {
		sum := (impl.GetBe(s[16:18]) + d) % 65536
		noTcp(t, "another sum", 1, 2, s[:16]+number(sum, 2, true)+s[18:])
	}
	noTcp(t, "another number of bytes", 1, 2, s+"\x00")
	noTcp(t, "another number of bytes", 1, 2, s[:len(s)-1])
	// With a sum that is 0 it is no matter whether 0 or 65535 stands there.
	x.Seq += impl.GetBe(s[16:18])
	s = rawTcp(1, 2, x, "")
	if s[16:18] != "\x00\x00" {
		t.Fatalf("%q", s)
	}
	segmentComesBack(t, 1, 2, x)
	if y, ok := impl.ReadTcp(1, 2, s[:16]+"\xff\xff"+s[18:]); !ok || !sameSegment(x, y) {
		t.Errorf("%+v", y)
	}
}

// readsAs reads a segment with these bytes ahead of its data, and holds its Sacks against those wanted.
func readsAs(t *testing.T, name string, options string, sacks ...impl.Range) {
	t.Helper()
	x := impl.Tcp{From: 1000, To: 80, Seq: 5, Ack: 6, Flags: 16, Win: 500, Data: "data"}
	s := rawTcp(1, 2, x, options)
	x.Sacks = sacks
	if y, ok := impl.ReadTcp(1, 2, s); !ok || !sameSegment(x, y) {
		t.Errorf("%s: %q reads as %+v %v", name, options, y, ok)
	}
}

func readsNot(t *testing.T, name string, options string) {
	t.Helper()
	noTcp(t, name, 1, 2, rawTcp(1, 2, impl.Tcp{From: 1000, To: 80, Data: "data\x01\x01\x01\x01"}, options))
}

func TestReadTcpOptions(t *testing.T) {
	r := impl.Range{From: 7, To: wrap - 1}
	q := impl.Range{From: 9, To: 3}
	readsAs(t, "ones", "\x01\x01\x01\x01")
	readsAs(t, "ends", "\x00\x00\x00\x00")
	readsAs(t, "an end, whatever stands behind it", "\x00\x05\x01\x02")
	readsAs(t, "an end ahead of ranges", "\x01\x00"+sackOption(r))
	readsAs(t, "an end at last", "\x01\x01\x01\x00")
	readsAs(t, "a kind that has nothing", "\x04\x02\x01\x01")
	readsAs(t, "a kind that has something", "\x02\x04\x05\xb4")
	readsAs(t, "a kind that has a 0 and a 5", "\x08\x0a\x00\x05\x0a\x00\x00\x00\x00\x01\x01\x01")
	readsAs(t, "the greatest kind", "\xff\x03\x00\x01")
	readsAs(t, "a kind of 40 bytes", "\x22\x28"+noughts(38))
	readsAs(t, "a kind up to the end", "\x01\xfe\x03x")
	readsAs(t, "the same kind twice", "\x02\x02\x02\x02")
	readsAs(t, "ranges last", "\x01\x01"+sackOption(r), r)
	readsAs(t, "ranges first", sackOption(r, q)+"\x01\x01", r, q)
	readsAs(t, "ranges and an end", sackOption(r, q)+"\x00\x05", r, q)
	readsAs(t, "ranges between others", "\x02\x04ab\x01"+sackOption(q, r)+"\x04\x02\x01\x01\x00", q, r)
	readsAs(t, "three ranges", "\x04\x02"+sackOption(r, q, r), r, q, r)
	readsAs(t, "ranges that are noughts", "\x01\x01"+sackOption(impl.Range{}, impl.Range{}), impl.Range{}, impl.Range{})
	readsNot(t, "four ranges", "\x01\x01"+sackOption(r, q, r, q))
	readsNot(t, "no range", "\x05\x02\x01\x01")
	readsNot(t, "no range, and then one", "\x05\x02"+sackOption(r))
	readsNot(t, "ranges twice", sackOption(r)+sackOption(q))
	readsNot(t, "the same ranges twice", "\x01"+sackOption(r)+"\x01"+sackOption(r)+"\x01\x01")
	readsNot(t, "ranges, and then none", sackOption(r)+"\x05\x02")
	for n := 3; n <= 34; n++ {
		if n%8 != 2 {
			s := "\x05" + number(int64(n), 1, true) + noughts(n-2)
			readsNot(t, "a part of a range", s+strings.Repeat("\x01", (4-n%4)%4))
		}
	}
}

func TestReadTcpOptionsCutOff(t *testing.T) {
	readsNot(t, "a length that is missing", "\x01\x01\x01\x02")
	readsNot(t, "a length of 0", "\x01\x01\x02\x00")
	readsNot(t, "a length of 1", "\x01\x01\x02\x01")
	readsNot(t, "a length of 0, with more behind", "\x02\x00\x01\x01")
	readsNot(t, "a length of 1, with more behind", "\x02\x01\x01\x01")
	readsNot(t, "one byte more than there is", "\x02\x05ab")
	readsNot(t, "two bytes more than there are", "\x01\x01\x02\x04")
	readsNot(t, "the greatest length", "\x02\xffab")
	readsNot(t, "41 bytes", "\x22\x29"+noughts(38))
	readsNot(t, "a second one that is cut off", "\x03\x03x\x02")
	readsNot(t, "one of kind 5, without a length", "\x01\x01\x01\x05")
	readsNot(t, "ranges of more than there is", "\x05\x12"+noughts(10))
	readsNot(t, "ranges and one that is cut off", sackOption(impl.Range{})+"\x01\x08")
}

// What stands ahead of Data is told in four times so many bytes.
func TestReadTcpAhead(t *testing.T) {
	for have := 0; have <= 60; have += 4 {
		data := strings.Repeat("\x01", have)
		s := rawTcp(1, 2, impl.Tcp{Data: data}, "")
		for ahead := range 16 {
			b := []byte(s)
			b[12] = byte(ahead * 16)
			told := withSegmentSum(1, 2, string(b))
			if ahead < 5 || ahead*4 > 20+have {
				noTcp(t, "ahead", 1, 2, told)
			} else if x, ok := impl.ReadTcp(1, 2, told); !ok || x.Data != data[ahead*4-20:] {
				t.Errorf("%d of %d: %+v %v", ahead, have, x, ok)
			}
		}
	}
	s := rawTcp(1, 2, impl.Tcp{Data: "\x01\x01\x01"}, "")
	noTcp(t, "a byte more than there is", 1, 2, withSegmentSum(1, 2, s[:12]+"\x60"+s[13:]))
}

// Of the first 20 bytes only those that make a segment wrong are looked at.
func TestReadTcpOtherBytes(t *testing.T) {
	x := impl.Tcp{From: 1, To: 2, Seq: 3, Ack: 4, Flags: 63, Win: 6, Data: "data"}
	s := rawTcp(1, 2, x, "")
	for flags := range 256 {
		b := []byte(s)
		b[13] = byte(flags)
		told := withSegmentSum(1, 2, string(b))
		if flags > 63 {
			noTcp(t, "flags", 1, 2, told)
		} else if y, ok := impl.ReadTcp(1, 2, told); !ok || y.Flags != int64(flags) {
			t.Errorf("%d: %+v", flags, y)
		}
	}
	for low := range 16 {
		told := withSegmentSum(1, 2, s[:12]+string([]byte{byte(0x50 + low)})+s[13:18]+number(int64(low)*4369, 2, true)+s[20:])
		if y, ok := impl.ReadTcp(1, 2, told); !ok || !sameSegment(x, y) {
			t.Errorf("%d: %+v", low, y)
		}
	}
}
