package tests

import (
	"math"
	"strings"
)

const (
	wrap    = int64(1) << 32
	maxTime = int64(1000000000000)
)

// extremes are numbers at which sums, products and shifts of careless code go wrong.
var extremes = []int64{math.MinInt64, math.MinInt64 + 1, -1 << 40, math.MaxInt64 - 1, math.MaxInt64}

// steady gives the same numbers in every run: each is 0 or more.
func steady(seed uint64) func() int64 {
	return func() int64 {
		seed = seed*6364136223846793005 + 1442695040888963407
		return int64(seed >> 1 & math.MaxInt64)
	}
}

// among is often the least, the most, or a number near the least.
func among(least, most int64, next func() int64) int64 {
	switch next() >> 20 % 6 {
	case 0:
		return least
	case 1:
		return most
	case 2:
		return least + next()>>20%min(most-least+1, 40)
	}
	return least + next()>>20%(most-least+1)
}

func text(n int, next func() int64) string {
	b := make([]byte, n)
	for i := range b {
		b[i] = byte(next() >> 40)
	}
	return string(b)
}

func noughts(n int) string {
	return strings.Repeat("\x00", n)
}
