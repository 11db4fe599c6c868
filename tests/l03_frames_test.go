package tests

import (
	"testing"

	"loop.example/g00559/impl"
)

const (
	ownAddress   = "\x02\x00\x01\x02\x03\x04"
	otherAddress = "\x81\x00\x08\x00\xff\x00"
)

var (
	rightVlans = []int64{-1, 0, 1, 255, 256, 0x800, 4094, 4095}
	rightKinds = []int64{1536, 1537, 0x0800, 0x80ff, 0x8101, 0x9100, 65534, 65535}
)

// rawFrame writes a frame, right or not.
func rawFrame(f impl.Frame) string {
	tag := ""
	if f.Vlan != -1 {
		tag = number(0x8100, 2, true) + number(f.Vlan, 2, true)
	}
	return f.To + f.From + tag + number(f.Kind, 2, true) + f.Body
}

func frameComesBack(t *testing.T, f impl.Frame) {
	t.Helper()
	if !impl.FrameOk(f) {
		t.Errorf("not right: %+v", f)
	}
	s := impl.FrameBytes(f)
	if s != rawFrame(f) {
		t.Errorf("%+v: %q", f, s)
	}
	if x, ok := impl.ReadFrame(s); !ok || x != f {
		t.Errorf("%+v came back as %+v %v", f, x, ok)
	}
}

// Promise 3: right frames come back from their bytes.
func TestPromise03FramesComeBack(t *testing.T) {
	next := steady(10)
	for _, vlan := range rightVlans {
		for _, kind := range rightKinds {
			for _, n := range []int{0, 1, 2, 3, 4, 45, 46, 381, 382} {
				frameComesBack(t, impl.Frame{To: text(6, next), From: text(6, next), Vlan: vlan, Kind: kind, Body: text(n, next)})
			}
		}
		for n := 0; n <= 382; n++ {
			frameComesBack(t, impl.Frame{To: ownAddress, From: otherAddress, Vlan: vlan, Kind: 0x0800, Body: text(n, next)})
		}
	}
}

// Promise 3: a body that looks like a tag is no tag, and a tag is not the Kind.
func TestPromise03WhatLooksLikeATag(t *testing.T) {
	tag := "\x81\x00\x00\x07\x08\x00"
	for _, vlan := range rightVlans {
		for _, f := range []impl.Frame{
			{To: tag, From: tag, Vlan: vlan, Kind: 0x0800, Body: tag},
			{To: ownAddress, From: "\x81\x00\x81\x00\x81\x00", Vlan: vlan, Kind: 0x8101, Body: "\x81\x00"},
			{To: ownAddress, From: otherAddress, Vlan: vlan, Kind: 0x8008},
		} {
			frameComesBack(t, f)
		}
	}
}

func TestFrameBytesKnown(t *testing.T) {
	f := impl.Frame{To: "abcdef", From: "ghijkl", Vlan: -1, Kind: 0x1234, Body: "body"}
	if s := impl.FrameBytes(f); s != "abcdefghijkl\x12\x34body" {
		t.Errorf("%q", s)
	}
	f.Vlan = 0x0abc
	if s := impl.FrameBytes(f); s != "abcdefghijkl\x81\x00\x0a\xbc\x12\x34body" {
		t.Errorf("%q", s)
	}
	f.Vlan = 0
	if s := impl.FrameBytes(f); s != "abcdefghijkl\x81\x00\x00\x00\x12\x34body" {
		t.Errorf("%q", s)
	}
}

// wrongFrames are each a right frame with one thing that is not.
func wrongFrames() []impl.Frame {
	var l []impl.Frame
	add := func(change func(f *impl.Frame)) {
		for _, vlan := range []int64{-1, 7} {
			f := impl.Frame{To: ownAddress, From: otherAddress, Vlan: vlan, Kind: 0x0800, Body: "body"}
			change(&f)
			l = append(l, f)
		}
	}
	for _, n := range []int{0, 1, 5, 7, 12} {
		add(func(f *impl.Frame) { f.To = noughts(n) })
		add(func(f *impl.Frame) { f.From = noughts(n) })
	}
	add(func(f *impl.Frame) { f.To, f.From = noughts(5), noughts(7) })
	for _, n := range append([]int64{-3, -2, 4096, 4097, 65535, 65536}, extremes...) {
		add(func(f *impl.Frame) { f.Vlan = n })
	}
	for _, n := range append([]int64{-1, 0, 1, 382, 1500, 1535, 0x8100, 65536, 65536 + 0x0800}, extremes...) {
		add(func(f *impl.Frame) { f.Kind = n })
	}
	for _, n := range []int{383, 384, 400, 5000} {
		add(func(f *impl.Frame) { f.Body = noughts(n) })
	}
	return append(l, impl.Frame{})
}

func TestFramesThatAreNotRight(t *testing.T) {
	for _, f := range wrongFrames() {
		if impl.FrameOk(f) {
			t.Errorf("right: %+v", f)
		}
		if s := impl.FrameBytes(f); s != "" {
			t.Errorf("%+v: %q", f, s)
		}
	}
}

func noFrame(t *testing.T, name string, s string) {
	t.Helper()
	if f, ok := impl.ReadFrame(s); ok || f != (impl.Frame{}) {
		t.Errorf("%s: %q is %+v %v", name, s, f, ok)
	}
}

func TestReadFrameCutOff(t *testing.T) {
	plain := rawFrame(impl.Frame{To: ownAddress, From: otherAddress, Vlan: -1, Kind: 0x0800})
	tagged := rawFrame(impl.Frame{To: ownAddress, From: otherAddress, Vlan: 5, Kind: 0x0800})
	for n := range len(plain) {
		noFrame(t, "cut off, without a tag", plain[:n])
	}
	for n := range len(tagged) {
		noFrame(t, "cut off, with a tag", tagged[:n])
	}
}

func TestReadFrameRefuses(t *testing.T) {
	ends := ownAddress + otherAddress
	for _, kind := range []int64{0, 1, 0x00ff, 382, 1500, 1535} {
		noFrame(t, "a low Kind", ends+number(kind, 2, true)+"body")
		noFrame(t, "a low Kind behind a tag", ends+"\x81\x00\x00\x05"+number(kind, 2, true)+"body")
	}
	noFrame(t, "two tags", ends+"\x81\x00\x00\x05\x81\x00\x00\x05\x08\x00body")
	for _, vlan := range []int64{4096, 4097, 0x1005, 0x2005, 0x8005, 0xf005, 65535} {
		noFrame(t, "Vlan", ends+"\x81\x00"+number(vlan, 2, true)+"\x08\x00body")
	}
	for _, n := range []int{383, 384, 400, 3000} {
		noFrame(t, "a long body", ends+"\x08\x00"+noughts(n))
		noFrame(t, "a long body behind a tag", ends+"\x81\x00\x00\x05\x08\x00"+noughts(n))
	}
}
