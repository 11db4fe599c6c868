package impl

const Wrap = 4294967296

const (
	maxWidth  = 6
	maxSummed = 2000
	maxRounds = 1000
)

// octets are the bytes of a number, the lowest first.
type octets [maxWidth]byte

func octetsOf(n int64) octets {
	var low octets
	for i := range low {
		low[i] = byte(n >> (8 * i))
	}
	return low
}

func widthOk(width int64) bool {
	return width >= 1 && width <= maxWidth
}

func fits(n int64, width int64) bool {
	return widthOk(width) && n >= 0 && n>>(8*width) == 0
}

func PutBe(n int64, width int64) string {
	if !fits(n, width) {
		return ""
	}
	low := octetsOf(n)
	var high octets
	for i := range width {
		high[i] = low[width-1-i]
	}
	return string(high[:width])
}

func PutLe(n int64, width int64) string {
	if !fits(n, width) {
		return ""
	}
	low := octetsOf(n)
	return string(low[:width])
}

func GetBe(s string) int64 {
	if !widthOk(int64(len(s))) {
		return -1
	}
	n := int64(0)
	for i := range len(s) {
		n = n<<8 | int64(s[i])
	}
	return n
}

func GetLe(s string) int64 {
	if !widthOk(int64(len(s))) {
		return -1
	}
	n := int64(0)
	for i := range len(s) {
		n |= int64(s[i]) << (8 * i)
	}
	return n
}

func Sum16(s string) int64 {
	if len(s) > maxSummed {
		return -1
	}
	sum := int64(0)
	for i := range len(s) {
		if i%2 == 0 {
			sum += int64(s[i]) << 8
		} else {
			sum += int64(s[i])
		}
	}
	// Adding what goes beyond may go beyond once more.
	for sum > 65535 {
		sum = sum>>16 + sum&65535
	}
	return 65535 - sum
}

func goesRound(n int64) bool {
	return n >= 0 && n < Wrap
}

func SeqAdd(a int64, n int64) int64 {
	if !goesRound(a) || n < -Wrap || n > Wrap {
		return -1
	}
	return (a + n + Wrap) % Wrap
}

func SeqDiff(a int64, b int64) int64 {
	if !goesRound(a) || !goesRound(b) {
		return 0
	}
	d := a - b
	if d < -Wrap/2 {
		return d + Wrap
	}
	if d >= Wrap/2 {
		return d - Wrap
	}
	return d
}

func Unwrap(last int64, seq int64) int64 {
	if last < 0 || last > maxRounds*Wrap || !goesRound(seq) {
		return -1
	}
	n := last + SeqDiff(seq, last%Wrap)
	if n < 0 {
		return n + Wrap
	}
	return n
}
