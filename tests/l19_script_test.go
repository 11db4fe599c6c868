package tests

import (
	"regexp"
	"slices"
	"strconv"
	"strings"
	"testing"

	"loop.example/g00559/impl"
)

func TestScriptConstants(t *testing.T) {
	if impl.MaxScript != 40 || impl.MaxLines != 4000 {
		t.Errorf("%d %d", impl.MaxScript, impl.MaxLines)
	}
}

// scriptOf has each of the lines ended.
func scriptOf(l ...string) string {
	text := ""
	for _, line := range l {
		text += line + "\n"
	}
	return text
}

// formOf is what all lines of that word look like.
func formOf(word string, least, most int) *regexp.Regexp {
	numbers := "( +(0|[1-9][0-9]{0,11})){" + strconv.Itoa(least) + "," + strconv.Itoa(most) + "}"
	return regexp.MustCompile("^ *" + word + numbers + " *$")
}

var forms = map[string]*regexp.Regexp{
	"world": formOf("world", 3, 3),
	"send":  formOf("send", 0, 0),
	"late":  formOf("late", 0, 0),
	"down":  formOf("down", 1, 1),
	"lose":  formOf("lose", 1, 1),
	"up":    formOf("up", 1, 1),
	"drop":  formOf("drop", 1, 1),
	"show":  formOf("show", 0, 0),
	"audit": formOf("audit", 0, 0),
	"rtt":   formOf("rtt", 1, 19),
}

// A scene is what there is while a script of the tests runs.
type scene struct {
	w    impl.World
	many int64
}

// sceneOf needs numbers of which there is a world.
func sceneOf(total, mss, many int64) scene {
	return scene{impl.World{Total: total, Reno: impl.Reno{Mss: mss, Win: many * mss, Limit: maxWin, Phase: impl.PhSlow}}, many}
}

func (x *scene) says(line string) string {
	for word, form := range forms {
		if !form.MatchString(line) {
			continue
		}
		var n []int64
		for _, s := range strings.Fields(line)[1:] {
			n = append(n, numberIn(s))
		}
		return strings.Join(x.does(word, n), " ")
	}
	return "what"
}

func texts(word string, l ...int64) []string {
	words := []string{word}
	for _, n := range l {
		words = append(words, strconv.Itoa(int(n)))
	}
	return words
}

func (x *scene) does(word string, n []int64) []string {
	switch word {
	case "world":
		if n[0] > 3000 || n[1] < 1 || n[1] > 200 || n[2] < 1 || n[2] > 10 {
			return texts("no")
		}
		*x = sceneOf(n[0], n[1], n[2])
		return texts("ok")
	case "show":
		return x.shown()
	case "audit":
		f, _ := wantAudit(x.w.Reno.Mss, x.many, x.w.Notes)
		return texts("audit", f.Code, f.At)
	case "rtt":
		r := impl.Rtt{Rto: 1000}
		for _, ms := range n {
			if ms > maxRto {
				ms = maxRto
			}
			r = wantStep(r, ms)
		}
		return texts("rtt", r.Mean8/8, r.Rto)
	}
	return x.steps(word, n)
}

func (x *scene) shown() []string {
	w := x.w
	prefix := int64(0)
	if len(w.Got) > 0 && w.Got[0].From == 0 {
		prefix = int64(len(w.Got[0].Data))
	}
	return texts("show", w.Board.Una, w.Board.Next, w.Reno.Win, w.Reno.Phase, int64(len(w.Down)), int64(len(w.Up)), prefix)
}

func (x *scene) steps(word string, n []int64) []string {
	s := map[string]impl.Step{
		"send": {Kind: impl.WsSend},
		"late": {Kind: impl.WsLate},
		"down": {Kind: impl.WsDown},
		"lose": {Kind: impl.WsDown, Drop: true},
		"up":   {Kind: impl.WsUp},
		"drop": {Kind: impl.WsUp, Drop: true},
	}[word]
	if len(n) > 0 {
		s.At = n[0]
	}
	w, code := wantDo(x.w, s)
	if code != impl.WcOk {
		return texts("no", code)
	}
	x.w = w
	return texts("ok")
}

// wantScript runs a script by the worlds, the audits and the clocks of the tests.
func wantScript(text string) string {
	l := strings.Split(text, "\n")
	behind := len(l) - 1
	if l[behind] != "" || behind > 40 || len(text) > 4000 {
		return "too long\n"
	}
	x := sceneOf(0, 1, 1)
	says := ""
	for _, line := range l[:behind] {
		if strings.Trim(line, " ") != "" {
			says += x.says(line) + "\n"
		}
	}
	return says
}

func scriptIs(t *testing.T, name string, text, want string) {
	t.Helper()
	if got := impl.RunScript(text); got != want {
		t.Errorf("%s: %q says %q, not %q", name, text, got, want)
	}
	if got := wantScript(text); got != want {
		t.Errorf("%s: wanted of %q is %q, not %q", name, text, got, want)
	}
}

// A turn is a line, and what it says: nothing when that is "".
type turn struct{ line, says string }

// turnsAre asks for all turns, and for those up to each of them.
func turnsAre(t *testing.T, name string, l ...turn) {
	t.Helper()
	text, want := "", ""
	for _, x := range l {
		text += x.line + "\n"
		if x.says != "" {
			want += x.says + "\n"
		}
		scriptIs(t, name, text, want)
		if t.Failed() {
			return
		}
	}
}

// alike are lines that all say the same.
func alike(says string, l ...string) []turn {
	var turns []turn
	for _, line := range l {
		turns = append(turns, turn{line, says})
	}
	return turns
}

const (
	firstShow = "show 0 0 1 1 0 0 0"
	tooLong   = "too long\n"
)

func shows(many int) string {
	return strings.Repeat("show\n", many)
}

func TestScriptLines(t *testing.T) {
	said := func(many int) string { return strings.Repeat(firstShow+"\n", many) }
	scriptIs(t, "no bytes", "", "")
	scriptIs(t, "one line of nothing", "\n", "")
	scriptIs(t, "39 lines", shows(39), said(39))
	scriptIs(t, "40 lines", shows(40), said(40))
	scriptIs(t, "41 lines", shows(41), tooLong)
	scriptIs(t, "400 lines", shows(400), tooLong)
	for _, blank := range []string{"\n", " \n", "    \n"} {
		scriptIs(t, "40 lines of blanks", strings.Repeat(blank, 40), "")
		scriptIs(t, "41 lines of blanks", strings.Repeat(blank, 41), tooLong)
		scriptIs(t, "40 lines, blanks behind", shows(20)+strings.Repeat(blank, 20), said(20))
		scriptIs(t, "41 lines, blanks behind", shows(20)+strings.Repeat(blank, 21), tooLong)
		scriptIs(t, "40 lines, blanks ahead", strings.Repeat(blank, 39)+shows(1), said(1))
		scriptIs(t, "41 lines, blanks ahead", strings.Repeat(blank, 40)+shows(1), tooLong)
		scriptIs(t, "40 lines, each other one of blanks", strings.Repeat(blank+"show\n", 20), said(20))
		scriptIs(t, "41 lines, each other one of blanks", strings.Repeat(blank+"show\n", 20)+blank, tooLong)
	}
}

func TestScriptThatIsNotEnded(t *testing.T) {
	for _, last := range []string{"show", "send", "fly", " ", "    ", "show ", "show\r", "\t", "\x00", "show\n ", "show\n\nshow"} {
		scriptIs(t, "alone", last, tooLong)
		scriptIs(t, "behind a line", "show\n"+last, tooLong)
		scriptIs(t, "behind a world", "world 9 4 2\nsend\n"+last, tooLong)
		scriptIs(t, "behind 39 lines", shows(39)+last, tooLong)
		scriptIs(t, "behind 40 lines", shows(40)+last, tooLong)
	}
}

func TestScriptBytes(t *testing.T) {
	blanks := func(many int) string { return strings.Repeat(" ", many) }
	scriptIs(t, "3999 bytes", "show"+blanks(3994)+"\n", firstShow+"\n")
	scriptIs(t, "4000 bytes", "show"+blanks(3995)+"\n", firstShow+"\n")
	scriptIs(t, "4001 bytes", "show"+blanks(3996)+"\n", tooLong)
	scriptIs(t, "4000 bytes of blanks", blanks(3999)+"\n", "")
	scriptIs(t, "4001 bytes of blanks", blanks(4000)+"\n", tooLong)
	scriptIs(t, "4000 bytes that are not ended", "show\n"+blanks(3995), tooLong)
	scriptIs(t, "4000 bytes of one word", strings.Repeat("x", 3999)+"\n", "what\n")
	scriptIs(t, "4001 bytes of one word", strings.Repeat("x", 4000)+"\n", tooLong)
	scriptIs(t, "4000 bytes, half as many letters", strings.Repeat("\xc3\xa9", 1999)+"x\n", "what\n")
	scriptIs(t, "4001 bytes, half as many letters", strings.Repeat("\xc3\xa9", 2000)+"\n", tooLong)
	scriptIs(t, "70000 bytes", "show"+blanks(69995)+"\n", tooLong)
	line := "show" + blanks(95) + "\n"
	scriptIs(t, "40 lines of 100 bytes", strings.Repeat(line, 40), strings.Repeat(firstShow+"\n", 40))
	scriptIs(t, "40 lines of 100 bytes, and one more", strings.Repeat(line, 39)+" "+line, tooLong)
	scriptIs(t, "40 lines of 100 bytes, less one", strings.Repeat(line, 39)+line[:98]+"\n", strings.Repeat(firstShow+"\n", 40))
	rtt := "rtt" + strings.Repeat(" 999999999999", 19) + "\n"
	scriptIs(t, "15 long lines", strings.Repeat(rtt, 15), strings.Repeat("rtt 60000 60000\n", 15))
	scriptIs(t, "16 long lines", strings.Repeat(rtt, 16), tooLong)
}

func TestScriptBlanks(t *testing.T) {
	turnsAre(t, "blanks",
		turn{"", ""},
		turn{" ", ""},
		turn{" world 9 4 2", "ok"},
		turn{"          ", ""},
		turn{"send ", "ok"},
		turn{"  show  ", "show 0 4 8 1 1 0 0"},
		turn{"     send     ", "ok"},
		turn{" lose    1 ", "ok"},
		turn{"down  0", "ok"},
		turn{"audit  ", "audit 0 0"},
		turn{"rtt  100    120 60   ", "rtt 97 267"},
		turn{"   world   40  4 4", "ok"},
		turn{"show", "show 0 0 16 1 0 0 0"},
		turn{"wor ld 9 4 2", "what"},
		turn{"s end", "what"},
		turn{"rtt 1 0 0", "rtt 0 200"},
		turn{"", ""},
	)
}

// Just the byte 32 parts words.
func TestScriptOtherBlanks(t *testing.T) {
	for _, b := range []string{"\t", "\r", "\v", "\f", "\x00", "\x1f", "\x85", "\xa0", "\u0085", "\u00a0", "\u2003", "\u3000", "\xff"} {
		turnsAre(t, "another blank", append(alike("what", b, " "+b+" ", "show"+b, b+"show", "show "+b, b+" show", "world"+b+"9"+b+"4"+b+"2", "world 9 4 2"+b, "world 9 4 2 "+b, "world 9"+b+"4 2", "rtt 100"+b, "rtt"+b+"100", "down 0"+b),
			turn{"show", firstShow})...)
	}
	scriptIs(t, "lines that end by 13 and 10", "show\r\nshow\r\n", "what\nwhat\n")
	scriptIs(t, "lines that end by 13", "show\rshow\r", tooLong)
}

func TestScriptWords(t *testing.T) {
	turnsAre(t, "no such word", alike("what", "fly", "World 9 4 2", "WORLD 9 4 2", "worlD 9 4 2", "worlds 9 4 2", "worl 9 4 2", "Send", "SEND", "sends", "sen", "sendd", "Late", "latE", "lately", "Down 0", "downs 0", "Lose 0", "loss 0", "Up 0", "uP 0", "ups 0", "Drop 0", "dro 0", "Show", "shoW", "showing", "Audit", "audit0", "Rtt 100", "rtT 100", "rtt100", "ok", "no", "no 2", "what", "too long")...)
	turnsAre(t, "no word", append(alike("what", "0", "1", "9 4 2", "-1", "100 rtt", "0 down", "2 world 9 4 2", "+", "-", ".", ",", "show,", "show;", "\"show\"", "show # all", "# show", "//", "send; send", "send send", "show show", "down up", "audit show", "rtt rtt", "\xc3\xa9", "\xff\xfe", "sho\xff", "\x00show"),
		turn{"show", firstShow})...)
}

// linesOf has as many numbers as least .. most, less one, and one more.
func linesOf(word string, least, most int) []turn {
	var l []turn
	for many := range 24 {
		line := word + strings.Repeat(" 1", many)
		if many < least || many > most {
			l = append(l, turn{line, "what"})
		}
	}
	return append(l, alike("what", word+" x", word+" 1 x", word+" 1 1 1 x", word+" -1", word+" 1 1 -1")...)
}

func TestScriptHowManyNumbers(t *testing.T) {
	for _, word := range []string{"send", "late", "show", "audit"} {
		turnsAre(t, word, append(linesOf(word, 0, 0), turn{"show", firstShow})...)
	}
	for _, word := range []string{"down", "lose", "up", "drop"} {
		turnsAre(t, word, append(linesOf(word, 1, 1), turn{word + " 1", "no 2"}, turn{"show", firstShow})...)
	}
	turnsAre(t, "world", append(linesOf("world", 3, 3), turn{"show", firstShow}, turn{"world 1 1 1", "ok"})...)
	turnsAre(t, "rtt", append(linesOf("rtt", 1, 19), turn{"show", firstShow})...)
	turnsAre(t, "one that could be done is not",
		turn{"world 9 4 2", "ok"}, turn{"send", "ok"}, turn{"send", "ok"}, turn{"down 0", "ok"},
		turn{"send 0", "what"}, turn{"late 0", "what"}, turn{"down", "what"}, turn{"down 0 0", "what"}, turn{"lose", "what"}, turn{"lose 0 0", "what"},
		turn{"up", "what"}, turn{"up 0 0", "what"}, turn{"drop", "what"}, turn{"drop 0 0", "what"}, turn{"world 9 4", "what"}, turn{"world 9 4 2 0", "what"},
		turn{"show", "show 0 8 8 1 1 1 4"}, turn{"audit", "audit 0 0"},
	)
}

// wrongNumbers are words that are no number, or no number in decimal, or one below 0.
var wrongNumbers = []string{"00", "01", "007", "000000000000", "-0", "-1", "-00", "-999999999999", "--1", "+0", "+1", "1-", "-", "+", "1000000000000", "9999999999999", "0000000000001", "99999999999999999999", "9223372036854775808", "18446744073709551616", "x", "0x1", "1x", "x1", "1.0", "1.", ".1", "1e0", "1,", "1_0", "1'0", "\xd9\xa0", "\xef\xbc\x90", "\xff", "1\x00", "0b1", "0o1", "inf", "NaN", "one"}

func TestScriptWrongNumbers(t *testing.T) {
	for _, n := range wrongNumbers {
		turnsAre(t, n, append(alike("what", n, "down "+n, "lose "+n, "up "+n, "drop "+n, "world "+n+" 1 1", "world 1 "+n+" 1", "world 1 1 "+n, "rtt "+n, "rtt "+n+" 100", "rtt 100 "+n, "rtt 100 "+n+" 100", "send "+n, "late "+n, "show "+n, "audit "+n),
			turn{"show", firstShow})...)
	}
	turnsAre(t, "though the first is there",
		turn{"world 9 4 2", "ok"}, turn{"send", "ok"}, turn{"send", "ok"}, turn{"down 00", "what"}, turn{"down -0", "what"}, turn{"lose 00", "what"}, turn{"down 0", "ok"}, turn{"up 00", "what"}, turn{"drop -0", "what"},
		turn{"show", "show 0 8 8 1 1 1 4"},
	)
}

func TestScriptRightNumbers(t *testing.T) {
	turnsAre(t, "no limit but twelve digits",
		turn{"down 0", "no 2"}, turn{"down 10", "no 2"}, turn{"down 999999999999", "no 2"}, turn{"lose 999999999999", "no 2"}, turn{"up 100000000000", "no 2"}, turn{"drop 999999999999", "no 2"},
		turn{"world 999999999999 1 1", "no"}, turn{"world 1 999999999999 1", "no"}, turn{"world 1 1 999999999999", "no"}, turn{"world 999999999999 999999999999 999999999999", "no"},
		turn{"rtt 999999999999", "rtt 60000 60000"},
	)
}

func TestScriptWorld(t *testing.T) {
	var right, wrong []turn
	for _, n := range [][3]int{{0, 1, 1}, {1, 1, 1}, {2999, 1, 1}, {3000, 1, 1}, {3000, 199, 1}, {3000, 200, 1}, {3000, 200, 9}, {3000, 200, 10}, {0, 200, 10}, {0, 1, 10}} {
		line := "world " + strconv.Itoa(n[0]) + " " + strconv.Itoa(n[1]) + " " + strconv.Itoa(n[2])
		right = append(right, turn{line, "ok"}, turn{"show", "show 0 0 " + strconv.Itoa(n[1]*n[2]) + " 1 0 0 0"})
	}
	turnsAre(t, "at the limits", right...)
	for _, line := range []string{"world 3001 1 1", "world 3000 0 1", "world 3000 201 1", "world 3000 1 0", "world 3000 1 11", "world 0 0 0", "world 3001 201 11", "world 3001 0 0", "world 10000 10000 10", "world 9 10000 1"} {
		wrong = append(wrong, turn{line, "no"})
	}
	turnsAre(t, "beyond the limits, at first", append(slices.Clone(wrong), turn{"show", firstShow}, turn{"send", "no 2"}, turn{"audit", "audit 0 0"})...)
	l := []turn{{"world 9 4 2", "ok"}, {"send", "ok"}, {"send", "ok"}, {"down 1", "ok"}}
	for _, x := range wrong {
		l = append(l, x, turn{"show", "show 0 8 8 1 1 1 0"}, turn{"audit", "audit 0 0"})
	}
	turnsAre(t, "behind a no the world is as it was", append(l, turn{"up 0", "ok"}, turn{"down 0", "ok"}, turn{"up 0", "ok"}, turn{"show", "show 8 8 12 1 0 0 8"})...)
}

func TestScriptNewWorld(t *testing.T) {
	turnsAre(t, "nothing of the one ahead stays",
		turn{"world 40 4 4", "ok"}, turn{"send", "ok"}, turn{"send", "ok"}, turn{"down 0", "ok"}, turn{"up 0", "ok"}, turn{"late", "ok"}, turn{"down 1", "ok"},
		turn{"show", "show 4 8 4 1 1 1 8"},
		turn{"world 7 3 1", "ok"},
		turn{"show", "show 0 0 3 1 0 0 0"},
		turn{"down 0", "no 2"}, turn{"up 0", "no 2"}, turn{"late", "no 2"},
		turn{"audit", "audit 0 0"},
		turn{"send", "ok"}, turn{"send", "no 2"}, turn{"down 0", "ok"}, turn{"up 0", "ok"},
		turn{"send", "ok"}, turn{"send", "ok"},
		turn{"show", "show 3 7 6 1 2 0 3"},
		turn{"audit", "audit 0 0"},
		turn{"world 7 3 1", "ok"},
		turn{"show", "show 0 0 3 1 0 0 0"},
		turn{"audit", "audit 0 0"},
	)
}

func TestScriptSteps(t *testing.T) {
	turnsAre(t, "a show behind each kind of step",
		turn{"show", firstShow},
		turn{"world 9 4 2", "ok"}, turn{"show", "show 0 0 8 1 0 0 0"},
		turn{"send", "ok"}, turn{"show", "show 0 4 8 1 1 0 0"},
		turn{"send", "ok"}, turn{"send", "no 2"}, turn{"show", "show 0 8 8 1 2 0 0"},
		turn{"lose 0", "ok"}, turn{"show", "show 0 8 8 1 1 0 0"},
		turn{"down 0", "ok"}, turn{"show", "show 0 8 8 1 0 1 0"},
		turn{"up 0", "ok"}, turn{"show", "show 0 8 8 1 0 0 0"},
		turn{"late", "ok"}, turn{"show", "show 0 8 4 1 1 0 0"},
		turn{"down 0", "ok"}, turn{"show", "show 0 8 4 1 0 1 8"},
		turn{"drop 0", "ok"}, turn{"show", "show 0 8 4 1 0 0 8"},
		turn{"late", "ok"}, turn{"down 0", "ok"}, turn{"up 0", "ok"}, turn{"show", "show 8 8 8 2 0 0 8"},
		turn{"send", "ok"}, turn{"show", "show 8 9 8 2 1 0 8"},
		turn{"down 0", "ok"}, turn{"up 0", "ok"}, turn{"show", "show 9 9 8 2 0 0 9"},
		turn{"send", "no 2"}, turn{"late", "no 2"}, turn{"audit", "audit 0 0"},
	)
	turnsAre(t, "three acks alike",
		turn{"world 40 4 4", "ok"}, turn{"send", "ok"}, turn{"send", "ok"}, turn{"send", "ok"}, turn{"send", "ok"}, turn{"send", "no 2"},
		turn{"lose 0", "ok"}, turn{"down 0", "ok"}, turn{"down 0", "ok"}, turn{"down 0", "ok"}, turn{"show", "show 0 16 16 1 0 3 0"},
		turn{"up 0", "ok"}, turn{"up 0", "ok"}, turn{"show", "show 0 16 16 1 0 1 0"},
		turn{"up 0", "ok"}, turn{"show", "show 0 16 20 3 1 0 0"},
		turn{"send", "ok"}, turn{"send", "no 2"}, turn{"show", "show 0 20 20 3 2 0 0"}, turn{"audit", "audit 0 0"},
		turn{"down 0", "ok"}, turn{"up 0", "ok"}, turn{"show", "show 16 20 8 2 1 0 16"},
		turn{"audit", "audit 0 0"},
	)
}

func TestScriptPlaces(t *testing.T) {
	sent := []turn{{"world 12 4 3", "ok"}, {"send", "ok"}, {"send", "ok"}, {"send", "ok"}}
	told := func(l ...turn) []turn { return append(slices.Clip(sent), l...) }
	turnsAre(t, "the last Down", told(turn{"down 3", "no 2"}, turn{"down 2", "ok"}, turn{"down 2", "no 2"}, turn{"show", "show 0 12 12 1 2 1 0"}, turn{"down 0", "ok"}, turn{"show", "show 0 12 12 1 1 2 4"})...)
	turnsAre(t, "one in the midst of Down", told(turn{"down 1", "ok"}, turn{"down 0", "ok"}, turn{"show", "show 0 12 12 1 1 2 8"})...)
	turnsAre(t, "the last lost", told(turn{"lose 3", "no 2"}, turn{"lose 2", "ok"}, turn{"lose 2", "no 2"}, turn{"down 0", "ok"}, turn{"down 0", "ok"}, turn{"show", "show 0 12 12 1 0 2 8"})...)
	turnsAre(t, "one in the midst lost", told(turn{"lose 1", "ok"}, turn{"down 0", "ok"}, turn{"down 0", "ok"}, turn{"show", "show 0 12 12 1 0 2 4"})...)
	down := told(turn{"down 0", "ok"}, turn{"down 0", "ok"}, turn{"down 0", "ok"})
	heard := func(l ...turn) []turn { return append(slices.Clip(down), l...) }
	turnsAre(t, "the last Up", heard(turn{"up 3", "no 2"}, turn{"up 2", "ok"}, turn{"up 2", "no 2"}, turn{"show", "show 12 12 16 1 0 2 12"}, turn{"up 1", "ok"}, turn{"up 0", "ok"}, turn{"up 0", "no 2"}, turn{"show", "show 12 12 16 1 0 0 12"}, turn{"audit", "audit 0 0"})...)
	turnsAre(t, "one in the midst of Up", heard(turn{"up 1", "ok"}, turn{"show", "show 8 12 16 1 0 2 12"}, turn{"audit", "audit 0 0"})...)
	turnsAre(t, "the last dropped", heard(turn{"drop 3", "no 2"}, turn{"drop 2", "ok"}, turn{"drop 2", "no 2"}, turn{"show", "show 0 12 12 1 0 2 12"}, turn{"up 1", "ok"}, turn{"show", "show 8 12 16 1 0 1 12"})...)
	turnsAre(t, "one in the midst dropped", heard(turn{"drop 1", "ok"}, turn{"up 0", "ok"}, turn{"up 0", "ok"}, turn{"show", "show 12 12 20 1 0 0 12"}, turn{"audit", "audit 0 0"})...)
}

// What can not be done is said by WcNone: 40 lines never come to a world that is not right, nor to one that is full.
func TestScriptSaysNo(t *testing.T) {
	turnsAre(t, "at first", alike("no 2", "send", "late", "down 0", "lose 0", "up 0", "drop 0", "down 1", "up 1")...)
	turnsAre(t, "nothing is sent",
		append(append([]turn{{"world 9 4 2", "ok"}}, alike("no 2", "late", "down 0", "lose 0", "up 0", "drop 0")...), turn{"show", "show 0 0 8 1 0 0 0"})...)
	turnsAre(t, "all is acked",
		append([]turn{{"world 3 4 2", "ok"}, {"send", "ok"}, {"down 0", "ok"}, {"up 0", "ok"}, {"show", "show 3 3 11 1 0 0 3"}}, alike("no 2", "send", "late", "down 0", "lose 0", "up 0", "drop 0")...)...)
	lates := []turn{{"world 3000 200 1", "ok"}, {"send", "ok"}}
	for range 36 {
		lates = append(lates, turn{"late", "ok"})
	}
	turnsAre(t, "as many Down as lines can make", append(lates, turn{"send", "no 2"}, turn{"show", "show 0 200 200 1 37 0 0"})...)
}

func TestScriptAudit(t *testing.T) {
	turnsAre(t, "ahead of the first world", turn{"audit", "audit 0 0"}, turn{"send", "no 2"}, turn{"audit", "audit 0 0"})
	turnsAre(t, "by Mss and N of the last world",
		turn{"world 9 4 2", "ok"}, turn{"audit", "audit 0 0"}, turn{"send", "ok"}, turn{"audit", "audit 0 0"}, turn{"send", "ok"}, turn{"audit", "audit 0 0"},
		turn{"world 3000 200 10", "ok"}, turn{"audit", "audit 0 0"}, turn{"send", "ok"}, turn{"send", "ok"}, turn{"send", "ok"}, turn{"audit", "audit 0 0"},
		turn{"world 3000 200 1", "ok"}, turn{"send", "ok"}, turn{"send", "no 2"}, turn{"audit", "audit 0 0"},
		turn{"world 3 1 3", "ok"}, turn{"send", "ok"}, turn{"send", "ok"}, turn{"send", "ok"}, turn{"audit", "audit 0 0"},
		turn{"world 3 2 1", "ok"}, turn{"send", "ok"}, turn{"audit", "audit 0 0"},
	)
	turnsAre(t, "behind a no",
		turn{"world 40 4 3", "ok"}, turn{"send", "ok"}, turn{"send", "ok"}, turn{"send", "ok"}, turn{"audit", "audit 0 0"},
		turn{"world 3001 1 1", "no"}, turn{"audit", "audit 0 0"}, turn{"world 40 0 3", "no"}, turn{"audit", "audit 0 0"}, turn{"world 40 4 0", "no"}, turn{"audit", "audit 0 0"}, turn{"world 40 4 11", "no"}, turn{"audit", "audit 0 0"}, turn{"world 40 201 2", "no"}, turn{"audit", "audit 0 0"}, turn{"world 3001 1 2", "no"}, turn{"audit", "audit 0 0"},
		turn{"late", "ok"}, turn{"audit", "audit 0 0"}, turn{"world 3001 2 1", "no"}, turn{"audit", "audit 0 0"}, turn{"show", "show 0 12 4 1 4 0 0"},
	)
}

func TestScriptRtt(t *testing.T) {
	many := func(many int, n string) string { return "rtt" + strings.Repeat(" "+n, many) }
	turnsAre(t, "clocks",
		turn{"rtt", "what"},
		turn{"rtt 0", "rtt 0 200"}, turn{"rtt 1", "rtt 1 200"}, turn{"rtt 66", "rtt 66 200"}, turn{"rtt 67", "rtt 67 201"}, turn{"rtt 100", "rtt 100 300"}, turn{"rtt 100", "rtt 100 300"},
		turn{"rtt 19999", "rtt 19999 59997"}, turn{"rtt 20000", "rtt 20000 60000"}, turn{"rtt 20001", "rtt 20001 60000"},
		turn{"rtt 59999", "rtt 59999 60000"}, turn{"rtt 60000", "rtt 60000 60000"}, turn{"rtt 60001", "rtt 60000 60000"}, turn{"rtt 99999999", "rtt 60000 60000"}, turn{"rtt 999999999999", "rtt 60000 60000"}, turn{"rtt 1000000000000", "what"},
		turn{"rtt 100 120", "rtt 102 272"}, turn{"rtt 100 120 60", "rtt 97 267"}, turn{"rtt 60 120 100", "rtt 71 217"}, turn{"rtt 1000 2000", "rtt 1125 3625"},
		turn{"rtt 0 59999", "rtt 7499 60000"}, turn{"rtt 0 60000", "rtt 7500 60000"}, turn{"rtt 0 60001", "rtt 7500 60000"}, turn{"rtt 1000 999999999999", "rtt 8375 60000"}, turn{"rtt 60001 0", "rtt 52500 60000"},
		turn{many(18, "100"), "rtt 100 200"}, turn{many(19, "100"), "rtt 100 200"}, turn{many(20, "100"), "what"}, turn{many(21, "100"), "what"},
		turn{many(18, "0") + " 60000", "rtt 7500 60000"}, turn{many(19, "0") + " 60000", "what"}, turn{many(18, "0") + " 8", "rtt 1 200"}, turn{many(19, "999999999999"), "rtt 60000 60000"},
		turn{"show", firstShow}, turn{"audit", "audit 0 0"},
	)
}

func stepLine(s impl.Step) string {
	at := " " + strconv.Itoa(int(s.At))
	switch {
	case s.Kind == impl.WsSend:
		return "send"
	case s.Kind == impl.WsLate:
		return "late"
	case s.Kind == impl.WsDown && s.Drop:
		return "lose" + at
	case s.Kind == impl.WsDown:
		return "down" + at
	case s.Kind == impl.WsUp && s.Drop:
		return "drop" + at
	case s.Kind == impl.WsUp:
		return "up" + at
	}
	return "fly" + at
}

func worldLine(next func() int64) string {
	mss := among(1, 200, next)
	total := min(mss*(1+next()>>20%60), 3000)
	return "world " + strconv.Itoa(int(total)) + " " + strconv.Itoa(int(mss)) + " " + strconv.Itoa(int(1+next()>>20%10))
}

func rttLine(next func() int64) string {
	line := "rtt"
	for range 1 + next()>>20%6 {
		line += " " + strconv.Itoa(int(among(0, 70000, next)))
	}
	return line
}

// quietLine is one that changes nothing, whatever there is: one that asks, one that can not be done, or one that is none.
func quietLine(next func() int64) string {
	l := []string{"show", "show", "audit", "audit", rttLine(next), "rtt", "down 60", "up 60", "lose 999999999999", "drop 60", "world 3001 1 1", "world 9 0 1", "world 9 4 11", "world 9 4", "fly", "send 1", "late 0", "down", "Up 0", "7", "\t"}
	return l[next()>>20%int64(len(l))]
}

// spread has blanks ahead, behind and between the words.
func spread(line string, next func() int64) string {
	blanks := func() string { return strings.Repeat(" ", int(max(next()>>20%6-3, 0))) }
	return blanks() + strings.Join(strings.Split(line, " "), " "+blanks()) + blanks()
}

// firstLines are of a new world, which often comes to mend.
func firstLines(next func() int64) []string {
	if next()>>20%3 > 0 {
		return []string{worldLine(next)}
	}
	total := strconv.Itoa(int(30 + next()>>20%100))
	l := []string{"world " + total + " " + strconv.Itoa(int(1+next()>>20%5)) + " " + strconv.Itoa(int(5+next()>>20%6))}
	return append(l, "send", "send", "send", "send", "send", "lose 0", "down 0", "down 0", "down 0", "down 0", "up 0", "up 0", "up 0")
}

// doingLines are so many, the first of a new world, most of the others of steps that can be done then.
func doingLines(many int, next func() int64) []string {
	x := sceneOf(0, 1, 1)
	mood := moods[next()>>20%3]
	l := firstLines(next)
	for _, line := range l {
		x.says(line)
	}
	for len(l) < many {
		line := stepLine(someStep(x.w, mood, next))
		if next()>>20%40 == 0 {
			line = worldLine(next)
		}
		x.says(line)
		l = append(l, line)
	}
	return l[:many]
}

// mixedLines are so many, quiet ones among those that do something; it tells which are quiet.
func mixedLines(many int, next func() int64) ([]string, []bool) {
	doing := doingLines(many, next)
	var l []string
	var quiet []bool
	for len(l) < many {
		silent := next()>>20%3 == 0
		line := doing[0]
		if silent {
			line = quietLine(next)
		} else {
			doing = doing[1:]
		}
		l, quiet = append(l, spread(line, next)), append(quiet, silent)
	}
	return l, quiet
}

// saidOf is what each line said; each must have said one.
func saidOf(t *testing.T, l []string) []string {
	t.Helper()
	text := impl.RunScript(scriptOf(l...))
	said := strings.SplitAfter(text, "\n")
	if len(said) != len(l)+1 || said[len(l)] != "" {
		t.Fatalf("%q said %q", l, text)
	}
	return said[:len(l)]
}

// Promise 19: what a script said stays said when more lines stand behind it.
func TestPromise19WhatWasSaidStays(t *testing.T) {
	next := steady(120)
	for range 60 {
		l, _ := mixedLines(40, next)
		said := saidOf(t, l)
		for many := range len(l) + 1 {
			scriptIs(t, "the first lines", scriptOf(l[:many]...), strings.Join(said[:many], ""))
		}
		other, _ := mixedLines(20, next)
		if again := saidOf(t, slices.Concat(l[:20], other)); !slices.Equal(again[:20], said[:20]) {
			t.Errorf("%q said %q, not %q", l[:20], again[:20], said[:20])
		}
		scriptIs(t, "one line too many", scriptOf(append(slices.Clip(l), "show")...), tooLong)
		scriptIs(t, "a line of nothing too many", scriptOf(append(slices.Clip(l), "")...), tooLong)
		scriptIs(t, "a byte too many", scriptOf(l...)+" ", tooLong)
		room := 4000 - len(scriptOf(l[:39]...)) - len("show\n")
		wide := "show" + strings.Repeat(" ", room)
		if again := saidOf(t, append(slices.Clip(l[:39]), wide)); !slices.Equal(again[:39], said[:39]) {
			t.Errorf("%q said %q, not %q", l[:39], again[:39], said[:39])
		}
		scriptIs(t, "a blank too many", scriptOf(append(slices.Clip(l[:39]), wide+" ")...), tooLong)
	}
}

// Promise 19: lines that ask change nothing, nor do those that can not be done, those that are none, and lines of blanks.
func TestPromise19LinesThatAskChangeNothing(t *testing.T) {
	next := steady(121)
	for range 300 {
		l, quiet := mixedLines(40, next)
		said := saidOf(t, l)
		var doing, want []string
		for i, line := range l {
			if !quiet[i] {
				doing, want = append(doing, line), append(want, said[i])
			}
		}
		if got := saidOf(t, doing); !slices.Equal(got, want) {
			t.Errorf("%q said %q, without the quiet lines of %q not %q", doing, got, l, want)
		}
		var apart []string
		for _, line := range doing[:min(len(doing), 20)] {
			apart = append(apart, strings.Repeat(" ", int(next()>>20%3)), line)
		}
		scriptIs(t, "with lines of blanks", scriptOf(apart...), strings.Join(want[:min(len(want), 20)], ""))
	}
}

// Promise 19: each kind of line that asks says the same again, and so does show behind all of them.
func TestPromise19AskedTwice(t *testing.T) {
	next := steady(122)
	for range 200 {
		l := doingLines(int(1+next()>>20%30), next)
		said := saidOf(t, append(slices.Clip(l), "show", "audit", "rtt 100 300", "world 3001 1 1", "show", "audit", "rtt 100 300", "fly", "show", "audit"))[len(l):]
		if said[0] != said[4] || said[0] != said[8] || said[1] != said[5] || said[1] != said[9] || said[2] != said[6] || said[1] != "audit 0 0\n" {
			t.Errorf("%q: %q", l, said)
		}
	}
}

// Scripts say what is wanted by the worlds, audits and clocks of the tests.
func TestScriptsOfManyLines(t *testing.T) {
	next := steady(123)
	mends, avoids, refused := 0, 0, 0
	for range 800 {
		l, _ := mixedLines(int(1+next()>>20%40), next)
		text := scriptOf(append(slices.Clip(l[:len(l)-1]), "show")...)
		want := wantScript(text)
		scriptIs(t, "many lines", text, want)
		last := strings.Fields(want[strings.LastIndex(want, "show"):])
		if last[4] == "3" {
			mends++
		} else if last[4] == "2" {
			avoids++
		}
		if strings.Contains(want, "no 1\n") || strings.Contains(want, "no 3\n") {
			t.Errorf("%q: %q", text, want)
		}
		refused += strings.Count(want, "no 2\n")
	}
	if mends < 10 || avoids < 10 || refused < 500 {
		t.Errorf("only %d mend, %d avoid, %d were refused", mends, avoids, refused)
	}
}
