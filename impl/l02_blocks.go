package impl

import "strings"

const (
	MaxData = 400
	MaxTime = 1000000000000
)

const (
	maxBody    = 2 * MaxData
	aroundBody = 12
	minTrace   = 28
	maxTrace   = 40000
	maxPackets = 60
	traceMark  = 0x1a2b3c4d
	headKind   = 0x0a0d0d0a
	linkKind   = 1
	packetKind = 6
)

type Block struct {
	Kind int64
	Body string
}

type Packet struct {
	Time int64
	Data string
}

func putNumber(n int64, width int64, big bool) string {
	if big {
		return PutBe(n, width)
	}
	return PutLe(n, width)
}

func getNumber(s string, big bool) int64 {
	if big {
		return GetBe(s)
	}
	return GetLe(s)
}

func bodySizeOk(n int64) bool {
	return n >= 0 && n <= maxBody && n%4 == 0
}

func BlockBytes(b Block, big bool) string {
	n := int64(len(b.Body))
	if !goesRound(b.Kind) || !bodySizeOk(n) {
		return ""
	}
	size := putNumber(n+aroundBody, 4, big)
	return putNumber(b.Kind, 4, big) + size + b.Body + size
}

// A blockReader gives up with a panic at the first thing that is not right,
// so that the steps behind it can rely on what was read.
type blockReader struct {
	text string
	at   int64
	big  bool
}

func (r *blockReader) require(right bool) {
	if !right {
		panic("not right")
	}
}

func (r *blockReader) bytes(n int64) string {
	r.require(n <= int64(len(r.text))-r.at)
	part := r.text[r.at : r.at+n]
	r.at += n
	return part
}

func (r *blockReader) number() int64 {
	return getNumber(r.bytes(4), r.big)
}

func (r *blockReader) block() Block {
	kind := r.number()
	size := r.number()
	r.require(bodySizeOk(size - aroundBody))
	body := r.bytes(size - aroundBody)
	r.require(r.number() == size)
	return Block{Kind: kind, Body: body}
}

func (r *blockReader) packet() Packet {
	r.bytes(4)
	time := r.time()
	size := r.number()
	whole := r.number()
	r.require(size <= MaxData && size <= whole)
	return Packet{Time: time, Data: r.bytes(size)}
}

func (r *blockReader) time() int64 {
	high := r.number()
	low := r.number()
	// Asked ahead of the product, which would wrap where high has 32 bits.
	r.require(high <= MaxTime/Wrap)
	time := high*Wrap + low
	r.require(time <= MaxTime)
	return time
}

// finishes tells whether read came to its end without giving up.
func finishes(read func()) (done bool) {
	defer func() {
		if recover() != nil {
			done = false
		}
	}()
	read()
	return true
}

func ReadBlock(s string, big bool) (Block, int64, bool) {
	r := blockReader{text: s, big: big}
	var b Block
	if !finishes(func() { b = r.block() }) {
		return Block{}, 0, false
	}
	return b, r.at, true
}

func readPacket(body string, big bool) (Packet, bool) {
	r := blockReader{text: body, big: big}
	var p Packet
	if !finishes(func() { p = r.packet() }) {
		return Packet{}, false
	}
	return p, true
}

func timeOk(time int64) bool {
	return time >= 0 && time <= MaxTime
}

func packetOk(p Packet) bool {
	return timeOk(p.Time) && len(p.Data) <= MaxData
}

func packetsOk(l []Packet) bool {
	if len(l) > maxPackets {
		return false
	}
	for _, p := range l {
		if !packetOk(p) {
			return false
		}
	}
	return true
}

func TraceBytes(l []Packet, big bool) string {
	if !packetsOk(l) {
		return ""
	}
	var out strings.Builder
	out.WriteString(BlockBytes(Block{Kind: headKind, Body: headBody(big)}, big))
	out.WriteString(BlockBytes(Block{Kind: linkKind, Body: linkBody(big)}, big))
	for _, p := range l {
		out.WriteString(BlockBytes(Block{Kind: packetKind, Body: packetBody(p, big)}, big))
	}
	return out.String()
}

func headBody(big bool) string {
	return putNumber(traceMark, 4, big) + putNumber(1, 2, big) + putNumber(0, 2, big) + strings.Repeat("\xff", 8)
}

func linkBody(big bool) string {
	return putNumber(1, 2, big) + putNumber(0, 2, big) + putNumber(MaxData, 4, big)
}

func packetBody(p Packet, big bool) string {
	time := putNumber(p.Time/Wrap, 4, big) + putNumber(p.Time%Wrap, 4, big)
	size := putNumber(int64(len(p.Data)), 4, big)
	noughts := strings.Repeat("\x00", (4-len(p.Data)%4)%4)
	return putNumber(0, 4, big) + time + size + size + p.Data + noughts
}

func ReadTrace(s string) ([]Packet, int64) {
	big, ok := traceOrder(s)
	if !ok {
		return nil, 0
	}
	var l []Packet
	for at := int64(0); at < int64(len(s)); {
		b, n, ok := ReadBlock(s[at:], big)
		if !ok || (b.Kind == headKind) != (at == 0) {
			return nil, at
		}
		if b.Kind == packetKind {
			p, ok := readPacket(b.Body, big)
			if !ok || len(l) == maxPackets {
				return nil, at
			}
			l = append(l, p)
		}
		at += n
	}
	return l, -1
}

// traceOrder tells whether the highest byte of a number is first, and whether that can be told.
func traceOrder(s string) (bool, bool) {
	if len(s) < minTrace || len(s) > maxTrace {
		return false, false
	}
	mark := s[8:12]
	big := mark == PutBe(traceMark, 4)
	return big, big || mark == PutLe(traceMark, 4)
}
