package tests

import (
	"strings"
	"testing"

	"loop.example/g00559/impl"
)

// sumOf adds as the document tells it, so that the tests of heads do not lean on the sums of impl.
func sumOf(s string) int64 {
	if len(s)%2 == 1 {
		s += "\x00"
	}
	n := int64(0)
	for i := 0; i < len(s); i += 2 {
		n += int64(s[i])*256 + int64(s[i+1])
		n = n%65536 + n/65536
	}
	return 65535 - n
}

// withSum writes the sum of a head of 20 bytes into it.
func withSum(head string) string {
	head = head[:10] + "\x00\x00" + head[12:]
	return head[:10] + number(sumOf(head), 2, true) + head[12:]
}

// rawIp writes a packet, right or not, that says it has so many bytes.
func rawIp(p impl.Ip, size int) string {
	head := "\x45\x00" + number(int64(size), 2, true) + number(p.Id, 2, true) + "\x40\x00" + number(p.Ttl, 1, true) + number(p.Proto, 1, true)
	return withSum(head+"\x00\x00"+number(p.From, 4, true)+number(p.To, 4, true)) + p.Body
}

func packetComesBack(t *testing.T, p impl.Ip, behind ...string) {
	t.Helper()
	if !impl.IpOk(p) {
		t.Errorf("not right: %+v", p)
	}
	s := impl.IpBytes(p)
	if s != rawIp(p, 20+len(p.Body)) {
		t.Errorf("%+v: %q", p, s)
	}
	for _, x := range append(behind, "") {
		if y, ok := impl.ReadIp(s + x); !ok || y != p {
			t.Errorf("%+v with %d bytes behind came back as %+v %v", p, len(x), y, ok)
		}
	}
}

func anIp(next func() int64) impl.Ip {
	return impl.Ip{From: next() % wrap, To: next() % wrap, Ttl: next() % 256, Proto: next() % 256, Id: next() % 65536, Body: text(int(next()%363), next)}
}

// Promise 4: right packets come back from their bytes, whatever stands behind them.
func TestPromise04PacketsComeBack(t *testing.T) {
	next := steady(11)
	for n := 0; n <= 362; n++ {
		p := anIp(next)
		p.Body = text(n, next)
		packetComesBack(t, p, "\x00", "x", noughts(46), text(7, next), rawIp(anIp(next), 20), noughts(3000))
	}
	for _, end := range round {
		for _, small := range []int64{0, 1, 127, 128, 254, 255} {
			for _, id := range []int64{0, 1, 255, 256, 0x8000, 65534, 65535} {
				packetComesBack(t, impl.Ip{From: end, To: wrap - 1 - end, Ttl: small, Proto: 255 - small, Id: id, Body: "hi"}, "hi")
				packetComesBack(t, impl.Ip{From: wrap - 1 - end, To: end, Ttl: small, Proto: small, Id: id}, "hi")
			}
		}
	}
	packetComesBack(t, impl.Ip{})
}

// Promise 4: what stands behind a packet is none of its Body, even where it has the greatest one.
func TestPromise04WhatStandsBehind(t *testing.T) {
	next := steady(12)
	for _, n := range []int{0, 1, 361, 362} {
		p := anIp(next)
		p.Body = text(n, next)
		for many := range 100 {
			packetComesBack(t, p, text(many, next), noughts(many), strings.Repeat("\xff", many))
		}
	}
}

func TestIpBytesKnown(t *testing.T) {
	p := impl.Ip{From: 0xc0a80001, To: 0xc0a800c7, Ttl: 64, Proto: 17, Id: 0, Body: noughts(95)}
	// A head that is known well: its sum is b861.
	want := "\x45\x00\x00\x73\x00\x00\x40\x00\x40\x11\xb8\x61\xc0\xa8\x00\x01\xc0\xa8\x00\xc7"
	if s := impl.IpBytes(p); s != want+p.Body {
		t.Errorf("%q", s)
	}
}

// wrongIps are each a right packet with one thing that is not.
func wrongIps() []impl.Ip {
	var l []impl.Ip
	add := func(change func(p *impl.Ip)) {
		p := impl.Ip{From: 1, To: 2, Ttl: 64, Proto: 6, Id: 7, Body: "body"}
		change(&p)
		l = append(l, p)
	}
	for _, n := range notRound {
		add(func(p *impl.Ip) { p.From = n })
		add(func(p *impl.Ip) { p.To = n })
	}
	for _, n := range append([]int64{-1, 256, 257, 65535}, extremes...) {
		add(func(p *impl.Ip) { p.Ttl = n })
		add(func(p *impl.Ip) { p.Proto = n })
	}
	for _, n := range append([]int64{-1, 65536, 65537, wrap}, extremes...) {
		add(func(p *impl.Ip) { p.Id = n })
	}
	for _, n := range []int{363, 364, 380, 400, 5000} {
		add(func(p *impl.Ip) { p.Body = noughts(n) })
	}
	return l
}

func TestPacketsThatAreNotRight(t *testing.T) {
	for _, p := range wrongIps() {
		if impl.IpOk(p) {
			t.Errorf("right: %+v", p)
		}
		if s := impl.IpBytes(p); s != "" {
			t.Errorf("%+v: %q", p, s)
		}
	}
}

func noIp(t *testing.T, name string, s string) {
	t.Helper()
	if p, ok := impl.ReadIp(s); ok || p != (impl.Ip{}) {
		t.Errorf("%s: %q is %+v %v", name, s, p, ok)
	}
}

func TestReadIpCutOff(t *testing.T) {
	next := steady(13)
	for _, n := range []int{0, 1, 2, 100, 362} {
		p := anIp(next)
		p.Body = text(n, next)
		s := rawIp(p, 20+n)
		for cut := range len(s) {
			noIp(t, "cut off", s[:cut])
		}
	}
}

func TestReadIpSize(t *testing.T) {
	p := impl.Ip{From: 1, To: 2, Ttl: 64, Proto: 6, Id: 7, Body: "four"}
	for size := range 20 {
		noIp(t, "less than a head", rawIp(p, size))
	}
	for size := 20; size <= 24; size++ {
		x, ok := impl.ReadIp(rawIp(p, size))
		if !ok || x.Body != p.Body[:size-20] {
			t.Errorf("%d: %+v", size, x)
		}
	}
	for _, size := range []int{25, 26, 382, 383, 65535} {
		noIp(t, "more than there is", rawIp(p, size))
	}
	p.Body = noughts(362)
	packetComesBack(t, p, noughts(1), noughts(2))
	p.Body = noughts(70000)
	for _, size := range []int{383, 384, 400, 4000, 65535} {
		noIp(t, "a Body of more than there may be", rawIp(p, size))
	}
}

// Each bit of a head that is turned makes it no head, for its sum and, with a sum that is right again, where the bit may not be otherwise.
func TestReadIpBits(t *testing.T) {
	s := rawIp(impl.Ip{From: 0x0a000001, To: 0x0a000002, Ttl: 64, Proto: 6, Id: 1, Body: "hi"}, 22)
	for i := range 20 {
		for bit := range 8 {
			b := []byte(s)
			b[i] ^= 1 << bit
			noIp(t, "one bit", string(b))
			again := withSum(string(b[:20])) + "hi"
			if i < 2 || i == 6 || i == 7 {
				noIp(t, "a bit that is always the same", again)
			}
			if _, ok := impl.ReadIp(again); !ok && (i == 4 || i == 5 || i == 8 || i == 9 || i >= 12) {
				t.Errorf("bit %d of byte %d may be so: %q", bit, i, again)
			}
		}
	}
	for i := range 2 {
		b := []byte(s)
		b[20+i] ^= 255
		if p, ok := impl.ReadIp(string(b)); !ok || p.Body != string(b[20:]) {
			t.Errorf("the sum is that of the head alone: %+v", p)
		}
	}
}

// A sum of 0 could be written 65535 too, but no packet has that.
func TestReadIpSumOfNoughts(t *testing.T) {
	p := impl.Ip{From: 1, To: 2, Ttl: 64, Proto: 6, Body: "hi"}
	p.Id = sumOf(rawIp(p, 22)[:10] + rawIp(p, 22)[12:20])
	s := rawIp(p, 22)
	if s[10:12] != "\x00\x00" {
		t.Fatalf("%q", s)
	}
	packetComesBack(t, p, "x")
	noIp(t, "65535 for 0", s[:10]+"\xff\xff"+s[12:])
}
