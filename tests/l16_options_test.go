package tests

import (
	"slices"
	"strings"
	"testing"

	"loop.example/g00559/impl"
)

func option(kind int64, body string) impl.Opt {
	return impl.Opt{Kind: kind, Body: body}
}

func manyOptions(many int, o impl.Opt) []impl.Opt {
	return slices.Repeat([]impl.Opt{o}, many)
}

// rightOptions are at the limits.
func rightOptions() [][]impl.Opt {
	all := "\x00\x01\x02\x05\xff" + bytesOf(33)
	l := [][]impl.Opt{
		nil, {}, {option(2, "")}, {option(255, "")}, {option(2, all)}, {option(255, all)}, {option(3, all[:37])},
		{option(7, "a"), option(7, "b"), option(7, "")}, {option(2, all[:36]), option(3, "")}, {option(2, ""), option(3, all[:36])},
		manyOptions(19, option(9, "")), manyOptions(20, option(9, "")), manyOptions(10, option(9, "ab")), manyOptions(13, option(9, "a")),
		append(manyOptions(18, option(9, "")), option(10, "ab")), append(manyOptions(19, option(9, "")), option(255, "")),
	}
	for kind := int64(2); kind < 256; kind++ {
		l = append(l, []impl.Opt{option(kind, ""), option(257-kind, "body")})
	}
	for n := range 39 {
		l = append(l, []impl.Opt{option(5, noughts(n))})
	}
	return l
}

// wrongOptions: each is wrong by one option, by all of their bytes, or by how many there are.
func wrongOptions() [][]impl.Opt {
	l := [][]impl.Opt{
		manyOptions(21, option(9, "")), manyOptions(22, option(9, "")), manyOptions(300, option(9, "")), manyOptions(20, option(9, "a")),
		append(manyOptions(19, option(9, "")), option(9, "a")), append(manyOptions(18, option(9, "")), option(10, "abc")),
		{option(2, bytesOf(36)), option(3, "a")}, {option(2, bytesOf(37)), option(3, "")}, {option(2, "a"), option(3, bytesOf(36))},
		{option(2, bytesOf(38)), option(3, "")}, {option(2, ""), option(3, bytesOf(38))}, manyOptions(14, option(9, "a")), manyOptions(11, option(9, "ab")),
		{option(2, bytesOf(39))}, {option(2, bytesOf(40))}, {option(2, bytesOf(1000))}, {option(2, bytesOf(39)), option(3, "")},
	}
	for _, kind := range append([]int64{-1, 0, 1, 256, 257, 258, 512, -254}, extremes...) {
		l = append(l, []impl.Opt{option(kind, "")}, []impl.Opt{option(kind, "body"), option(7, "b")}, []impl.Opt{option(7, "b"), option(kind, "")}, []impl.Opt{option(7, "b"), option(kind, ""), option(8, "c")})
	}
	return l
}

func optionsRight(l []impl.Opt) bool {
	left := 40
	for _, o := range l {
		if o.Kind < 2 || o.Kind > 255 {
			return false
		}
		left -= 2 + len(o.Body)
		if left < 0 {
			return false
		}
	}
	return true
}

// rawOptions writes options by themselves, with these bytes ahead of each.
func rawOptions(l []impl.Opt, ahead string) string {
	var s string
	for _, o := range l {
		s += ahead + number(o.Kind, 1, true) + number(int64(len(o.Body)+2), 1, true) + o.Body
	}
	return s
}

func wantOptionBytes(l []impl.Opt) string {
	s := rawOptions(l, "")
	return s + strings.Repeat("\x01", (4-len(s)%4)%4)
}

// wantOptions reads from place to place.
func wantOptions(s string) ([]impl.Opt, bool) {
	if len(s) > 40 {
		return nil, false
	}
	var l []impl.Opt
	for at := 0; at < len(s) && s[at] != 0; {
		if s[at] == 1 {
			at++
			continue
		}
		if at+1 == len(s) || s[at+1] == 0 || s[at+1] == 1 || at+int(s[at+1]) > len(s) {
			return nil, false
		}
		behind := at + int(s[at+1])
		l = append(l, option(int64(s[at]), s[at+2:behind]))
		at = behind
	}
	return l, true
}

func optionsRead(t *testing.T, name string, s string, want []impl.Opt) {
	t.Helper()
	if l, ok := impl.ReadOpts(s); !ok || !slices.Equal(l, want) {
		t.Errorf("%s: %q: %+v %v, not %+v", name, s, l, ok, want)
	}
}

func noOptions(t *testing.T, name string, s string) {
	t.Helper()
	if l, ok := impl.ReadOpts(s); ok || len(l) != 0 {
		t.Errorf("%s: %q: %+v %v", name, s, l, ok)
	}
}

// optionsComeBack asks for options that are right.
func optionsComeBack(t *testing.T, l []impl.Opt) {
	t.Helper()
	if !impl.OptsOk(l) {
		t.Errorf("not right: %+v", l)
	}
	s := impl.OptsBytes(l)
	if s != wantOptionBytes(l) || len(s)%4 != 0 || len(s) > 40 {
		t.Errorf("%+v: %q", l, s)
	}
	optionsRead(t, "come back", s, l)
}

// Promise 16: right options come back from their bytes.
func TestPromise16OptionsComeBack(t *testing.T) {
	for _, l := range rightOptions() {
		optionsComeBack(t, l)
	}
	next := steady(88)
	for range 5000 {
		var l []impl.Opt
		left := int64(40)
		for left >= 2 && next()>>20%8 > 0 {
			n := min(left-2, []int64{0, 1, 2, 3, next() >> 20 % 39}[next()>>20%5])
			l = append(l, option(among(2, 255, next), text(int(n), next)))
			left -= n + 2
		}
		optionsComeBack(t, l)
	}
}

func TestOptionsThatAreNotRight(t *testing.T) {
	for _, l := range wrongOptions() {
		if impl.OptsOk(l) || impl.OptsBytes(l) != "" {
			t.Errorf("%+v: %q", l, impl.OptsBytes(l))
		}
		for _, kind := range []int64{0, 1, 2, 3, 7, 9, 255, 256} {
			if b, ok := impl.OptOf(l, kind); ok || b != "" {
				t.Errorf("%+v: %q of %d", l, b, kind)
			}
		}
	}
}

func TestOptsBytesKnown(t *testing.T) {
	for _, c := range []struct {
		l    []impl.Opt
		want string
	}{
		{nil, ""},
		{[]impl.Opt{option(2, "")}, "\x02\x02\x01\x01"},
		{[]impl.Opt{option(255, "a")}, "\xff\x03a\x01"},
		{[]impl.Opt{option(4, "ab")}, "\x04\x04ab"},
		{[]impl.Opt{option(4, "abc")}, "\x04\x05abc\x01\x01\x01"},
		{[]impl.Opt{option(4, ""), option(3, "")}, "\x04\x02\x03\x02"},
		{[]impl.Opt{option(4, "\x00"), option(4, "\x01")}, "\x04\x03\x00\x04\x03\x01\x01\x01"},
		{[]impl.Opt{option(8, bytesOf(38))}, "\x08\x28" + bytesOf(38)},
		{[]impl.Opt{option(8, bytesOf(35))}, "\x08\x25" + bytesOf(35) + "\x01\x01\x01"},
	} {
		if s := impl.OptsBytes(c.l); s != c.want {
			t.Errorf("%+v: %q, not %q", c.l, s, c.want)
		}
	}
}

func TestReadOptsKnown(t *testing.T) {
	two := []impl.Opt{option(2, "ab"), option(3, "")}
	for _, c := range []struct {
		name string
		s    string
		want []impl.Opt
	}{
		{"no bytes", "", nil},
		{"just a 0", "\x00", nil},
		{"just a 1", "\x01", nil},
		{"just many 1", strings.Repeat("\x01", 40), nil},
		{"just many 0", noughts(40), nil},
		{"two", "\x02\x04ab\x03\x02", two},
		{"a 1 ahead of each", rawOptions(two, "\x01"), two},
		{"many 1 ahead of each", rawOptions(two, "\x01\x01\x01\x01\x01"), two},
		{"a 1 behind", "\x02\x04ab\x03\x02\x01", two},
		{"a 0 behind", "\x02\x04ab\x03\x02\x00", two},
		{"a 0 behind a 1", "\x02\x04ab\x01\x03\x02\x01\x00", two},
		{"an option behind a 0", "\x02\x04ab\x03\x02\x00\x04\x02", two},
		{"what is no option behind a 0", "\x02\x04ab\x03\x02\x00\x09", two},
		{"a length that is too small behind a 0", "\x02\x04ab\x03\x02\x00\x09\x01", two},
		{"a length that is too great behind a 0", "\x02\x04ab\x03\x02\x00\x09\xff", two},
		{"a 0 amid them", "\x02\x04ab\x00\x03\x02", two[:1]},
		{"a 0 ahead of all", "\x00\x02\x04ab\x03\x02", nil},
		{"a 0 behind a 1 ahead of all", "\x01\x00\x02\x04ab\x03\x02", nil},
		{"0 and 1 in a Body", "\x02\x04\x00\x01\x03\x03\x00", []impl.Opt{option(2, "\x00\x01"), option(3, "\x00")}},
		{"a Body that looks like options", "\x02\x06\x03\x02\x01\x00", []impl.Opt{option(2, "\x03\x02\x01\x00")}},
		{"the same Kind twice", "\x07\x03a\x07\x03b", []impl.Opt{option(7, "a"), option(7, "b")}},
		{"a length of 2", "\x09\x02", []impl.Opt{option(9, "")}},
		{"the greatest Kind", "\xff\x03\xff", []impl.Opt{option(255, "\xff")}},
		{"20 of them", strings.Repeat("\x09\x02", 20), manyOptions(20, option(9, ""))},
		{"40 bytes", "\x09\x28" + bytesOf(38), []impl.Opt{option(9, bytesOf(38))}},
		{"40 bytes of two", "\x09\x26" + bytesOf(36) + "\x09\x02", []impl.Opt{option(9, bytesOf(36)), option(9, "")}},
		{"40 bytes, with a 0 amid them", "\x09\x03a\x00" + strings.Repeat("\x09", 36), []impl.Opt{option(9, "a")}},
	} {
		optionsRead(t, c.name, c.s, c.want)
		if want, ok := wantOptions(c.s); !ok || !slices.Equal(want, c.want) {
			t.Errorf("%s: wanted %+v", c.name, want)
		}
	}
}

func TestReadOptsRefuses(t *testing.T) {
	for _, c := range []struct{ name, s string }{
		{"no length", "\x02"},
		{"no length, the greatest Kind", "\xff"},
		{"a length of 0", "\x02\x00"},
		{"a length of 0, with bytes behind it", "\x02\x00ab"},
		{"a length of 1", "\x02\x01"},
		{"a length of 1, with bytes behind it", "\x02\x01ab"},
		{"one beyond what is there, of no Body", "\x02\x03"},
		{"one beyond what is there", "\x02\x05ab"},
		{"the greatest length", "\x02\xffab"},
		{"no length behind an option", "\x02\x04ab\x03"},
		{"a length of 1 behind an option", "\x02\x04ab\x03\x01"},
		{"one beyond what is there behind an option", "\x02\x04ab\x03\x04a"},
		{"no length behind a 1", "\x01\x02"},
		{"41 bytes, one Body", "\x02\x29" + bytesOf(39)},
		{"41 bytes, two options", "\x02\x26" + bytesOf(36) + "\x02\x03a"},
		{"41 bytes 1", strings.Repeat("\x01", 41)},
		{"41 bytes 0", noughts(41)},
		{"41 bytes, the last one 1", "\x02\x28" + bytesOf(38) + "\x01"},
		{"41 bytes, the last one 0", "\x02\x28" + bytesOf(38) + "\x00"},
		{"21 of them", strings.Repeat("\x09\x02", 21)},
		{"very many", strings.Repeat("\x09\x02", 1000)},
	} {
		noOptions(t, c.name, c.s)
	}
	for _, l := range rightOptions() {
		s := rawOptions(l, "")
		for n := range len(s) {
			want, wantOk := wantOptions(s[:n])
			if wantOk {
				optionsRead(t, "cut off between two", s[:n], want)
			} else {
				noOptions(t, "cut off", s[:n])
			}
		}
	}
}

func TestOptOf(t *testing.T) {
	l := []impl.Opt{option(2, "a"), option(255, ""), option(2, "b"), option(7, "c"), option(255, "d")}
	for _, c := range []struct {
		kind int64
		body string
		ok   bool
	}{{2, "a", true}, {255, "", true}, {7, "c", true}, {3, "", false}, {8, "", false}, {0, "", false}, {1, "", false}, {256, "", false}, {258, "", false}, {-1, "", false}, {-254, "", false}} {
		if b, ok := impl.OptOf(l, c.kind); ok != c.ok || b != c.body {
			t.Errorf("%d: %q %v", c.kind, b, ok)
		}
	}
	for _, kind := range append([]int64{0, 1, 2, 255}, extremes...) {
		if b, ok := impl.OptOf(nil, kind); ok || b != "" {
			t.Errorf("%d of none: %q", kind, b)
		}
	}
	for _, l := range rightOptions() {
		for kind := int64(-1); kind < 260; kind++ {
			at := slices.IndexFunc(l, func(o impl.Opt) bool { return o.Kind == kind })
			if b, ok := impl.OptOf(l, kind); ok != (at >= 0) || ok && b != l[at].Body || !ok && b != "" {
				t.Errorf("%+v: %q %v of %d", l, b, ok, kind)
			}
		}
	}
}

// Whatever is read is right, and is what its bytes say; whatever is not is none.
func TestOptionsOfAnyBytes(t *testing.T) {
	next := steady(89)
	often := "\x00\x01\x01\x01\x02\x02\x02\x02\x03\x03\x04\x05\x08\x26\x28\xff"
	read := 0
	for range 100000 {
		b := make([]byte, next()>>20%44)
		for i := range b {
			b[i] = often[next()>>20%int64(len(often))]
		}
		s := string(b)
		want, wantOk := wantOptions(s)
		l, ok := impl.ReadOpts(s)
		if ok != wantOk || !slices.Equal(l, want) || ok && !impl.OptsOk(l) {
			t.Fatalf("%q: %+v %v", s, l, ok)
		}
		if ok && len(l) > 1 {
			read++
		}
	}
	if read < 1000 {
		t.Errorf("only %d were read", read)
	}
}

// Options that are right by chance are answered, those that are not have the fixed answers.
func TestOptionsOfAnyNumbers(t *testing.T) {
	next := steady(90)
	kinds := append([]int64{-1, 0, 1, 2, 3, 254, 255, 256}, extremes...)
	right := 0
	for range 50000 {
		var l []impl.Opt
		for range next() >> 20 % 6 {
			o := option(2+next()>>20%4, bytesOf(int(next()>>20%10)))
			if next()>>20%16 == 0 {
				o.Kind = kinds[next()>>20%int64(len(kinds))]
			}
			if next()>>20%8 == 0 {
				o.Body = bytesOf(int(30 + next()>>20%10))
			}
			l = append(l, o)
		}
		ok := optionsRight(l)
		if impl.OptsOk(l) != ok {
			t.Fatalf("%+v: %v", l, !ok)
		}
		want := ""
		if ok {
			want = wantOptionBytes(l)
			right++
		}
		if s := impl.OptsBytes(l); s != want {
			t.Fatalf("%+v: %q", l, s)
		}
		if b, has := impl.OptOf(l, 3); has && !ok || !has && b != "" {
			t.Fatalf("%+v: %q", l, b)
		}
	}
	if right < 1000 || right > 49000 {
		t.Errorf("%d were right", right)
	}
}
