package tests

import (
	"testing"

	"loop.example/g00559/impl"
)

const (
	maxCubed = int64(1000000000000000000)
	maxRoot  = int64(1000000)
)

func cubed(n int64) int64 {
	return n * n * n
}

// Promise 11: the cube of a root is no more, that of one more is.
func rootHolds(t *testing.T, n int64) {
	t.Helper()
	if r := impl.CubeRoot(n); r < 0 || r > maxRoot || cubed(r) > n || cubed(r+1) <= n {
		t.Errorf("%d: %d", n, r)
	}
}

func TestPromise11RootsOfCubes(t *testing.T) {
	for _, from := range []int64{1, 99000, 999000, maxRoot - 1000} {
		for n := from; n <= from+1000; n++ {
			if impl.CubeRoot(cubed(n)) != n || impl.CubeRoot(cubed(n)-1) != n-1 {
				t.Errorf("%d", n)
			}
			if n < maxRoot && impl.CubeRoot(cubed(n)+1) != n {
				t.Errorf("%d and one more", n)
			}
		}
	}
}

func TestPromise11RootsOfAnyNumbers(t *testing.T) {
	next := steady(50)
	for n := range int64(3000) {
		rootHolds(t, n)
		rootHolds(t, maxCubed-n)
	}
	for range 50000 {
		rootHolds(t, among(0, maxCubed, next))
		rootHolds(t, next()>>20%maxWin)
	}
}

func TestCubeRootKnown(t *testing.T) {
	for _, c := range [][2]int64{
		{0, 0}, {1, 1}, {2, 1}, {7, 1}, {8, 2}, {9, 2}, {26, 2}, {27, 3}, {28, 3}, {999, 9}, {1000, 10}, {1001, 10},
		{999999, 99}, {1000000, 100}, {maxCubed, maxRoot}, {maxCubed - 1, maxRoot - 1},
		{cubed(maxRoot - 1), maxRoot - 1}, {cubed(maxRoot-1) - 1, maxRoot - 2}, {cubed(maxRoot-1) + 1, maxRoot - 1},
		{-1, -1}, {-8, -1}, {maxCubed + 1, -1}, {2 * maxCubed, -1},
	} {
		if r := impl.CubeRoot(c[0]); r != c[1] {
			t.Errorf("%d: %d", c[0], r)
		}
	}
	for _, n := range extremes {
		if r := impl.CubeRoot(n); r != -1 {
			t.Errorf("%d: %d", n, r)
		}
	}
}

func TestCubicKKnown(t *testing.T) {
	for _, c := range [][2]int64{
		{0, 0}, {1, 0}, {2, 1}, {10, 1}, {11, 2}, {12, 2}, {35, 2}, {36, 3}, {37, 3}, {85, 3}, {86, 4}, {1333, 9}, {1334, 10},
		{maxWin, 908}, {maxWin - 1, 908}, {998151082, 907}, {998151083, 908}, {-1, -1}, {maxWin + 1, -1}, {2 * maxWin, -1},
	} {
		if k := impl.CubicK(c[0]); k != c[1] {
			t.Errorf("%d: %d", c[0], k)
		}
	}
	for _, n := range extremes {
		if k := impl.CubicK(n); k != -1 {
			t.Errorf("%d: %d", n, k)
		}
	}
}

func TestCubicKOfAnyWindows(t *testing.T) {
	next := steady(51)
	for i := range int64(30000) {
		win := i
		if i >= 5000 {
			win = among(0, maxWin, next)
		}
		k := impl.CubicK(win)
		if k < 0 || cubed(k) > win*3/4 || cubed(k+1) <= win*3/4 {
			t.Errorf("%d: %d", win, k)
		}
	}
}

// someWindows are such as have few bytes, and such as are near the greatest.
func someWindows() []int64 {
	next := steady(52)
	var l []int64
	for n := range int64(60) {
		l = append(l, n, maxWin-n, among(0, maxWin, next), next()>>20%100000)
	}
	return l
}

// Promise 11: a window by the cube never falls as time goes by; it is what it was at CubicK.
func TestPromise11WindowsNeverFall(t *testing.T) {
	for _, win := range someWindows() {
		was := int64(0)
		k := impl.CubicK(win)
		for at := range int64(10001) {
			now := impl.CubicWin(win, at)
			if now < was {
				t.Fatalf("%d at %d: %d, ahead of it %d", win, at, now, was)
			}
			if at < k && now >= win || at == k && now != win || at > k && now < win {
				t.Fatalf("%d at %d, %d ahead: %d", win, at, k-at, now)
			}
			// Cut down: the greatest whole number that is no more.
			if over, tenths := now-win, 4*cubed(at-k); 10*over > tenths || 10*(over+1) <= tenths {
				t.Fatalf("%d at %d: %d", win, at, now)
			}
			was = now
		}
	}
}

func TestCubicWinKnown(t *testing.T) {
	for _, c := range []struct {
		name         string
		win, t, want int64
	}{
		{"at the start", 36, 0, 25},
		{"two ahead", 36, 1, 32},
		{"one ahead", 36, 2, 35},
		{"at the time", 36, 3, 36},
		{"one beyond", 36, 4, 36},
		{"two beyond", 36, 5, 39},
		{"three beyond", 36, 6, 46},
		{"ten beyond", 36, 13, 436},
		{"five ahead, nothing to cut", 1334, 5, 1284},
		{"ten ahead, nothing to cut", 1334, 0, 934},
		{"nine ahead", 1334, 1, 1042},
		{"one ahead", 1334, 9, 1333},
		{"at the time", 1334, 10, 1334},
		{"one beyond", 1334, 11, 1334},
		{"no window", 0, 0, 0},
		{"no window, one beyond", 0, 1, 0},
		{"no window, two beyond", 0, 2, 3},
		{"one byte", 1, 0, 1},
		{"two bytes", 2, 0, 1},
		{"two bytes at the time", 2, 1, 2},
		{"three bytes", 3, 0, 2},
		{"the greatest time", 0, 10000, 400000000000},
		{"the greatest window at the start", maxWin, 0, 700554675},
		{"the greatest window at its time", maxWin, 908, maxWin},
		{"the greatest window one ahead", maxWin, 907, maxWin - 1},
		{"the greatest window three beyond", maxWin, 911, maxWin + 10},
		{"the greatest of both", maxWin, 10000, 301634122675},
	} {
		if n := impl.CubicWin(c.win, c.t); n != c.want {
			t.Errorf("%s: %d at %d: %d, not %d", c.name, c.win, c.t, n, c.want)
		}
	}
}

func TestCubicWinLimits(t *testing.T) {
	for _, n := range append([]int64{-1, maxWin + 1}, extremes...) {
		for _, at := range append([]int64{-1, 0, 5, 10000, 10001}, extremes...) {
			if w := impl.CubicWin(n, at); w != -1 {
				t.Errorf("%d at %d: %d", n, at, w)
			}
		}
	}
	for _, win := range []int64{0, 1, 36, maxWin} {
		for _, at := range append([]int64{-1, 10001, 20000}, extremes...) {
			if w := impl.CubicWin(win, at); w != -1 {
				t.Errorf("%d at %d: %d", win, at, w)
			}
		}
		for _, at := range []int64{0, 10000} {
			if w := impl.CubicWin(win, at); w < 0 {
				t.Errorf("%d at %d: %d", win, at, w)
			}
		}
	}
}
