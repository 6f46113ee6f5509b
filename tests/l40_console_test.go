package tests

import (
	"fmt"
	"math"
	"regexp"
	"slices"
	"strconv"
	"strings"
	"testing"

	"loop.example/g03008/impl"
)

// lineForms are the lines that the console knows: N stands for a number, C for a
// cell, and S for a storm.
var lineForms = []string{
	"new N N", "give N", "go C S", "wait S", "home S", "lay N", "take N",
	"may", "targets", "latest", "worst", "lay", "way", "land", "party", "depots", "journal", "trek", "audit",
}

// linePatterns are those of the lineForms.
var linePatterns = patternsOf(lineForms)

func patternsOf(forms []string) []*regexp.Regexp {
	patterns := []*regexp.Regexp{}
	for _, form := range forms {
		form = strings.NewReplacer(" ", " +", "N", "(0|[1-9][0-9]{0,12})", "C", "([a-h][0-7])", "S", "([01])").Replace(form)
		patterns = append(patterns, regexp.MustCompile("^ *"+form+" *$"))
	}
	return patterns
}

// lineOf is ConsoleLine, told by the functions of the chapters before.
func lineOf(t impl.Trek, line string) (impl.Trek, string) {
	for _, pattern := range linePatterns {
		if words := pattern.FindStringSubmatch(line); words != nil && len(line) <= 200 {
			verb, _, _ := strings.Cut(strings.TrimLeft(line, " "), " ")
			if len(words) == 1 {
				return t, sightOf(t, verb)
			}
			return deedOf(t, verb, words[1:])
		}
	}
	return t, "what"
}

func deedOf(t impl.Trek, verb string, words []string) (impl.Trek, string) {
	n := []int{}
	for i, word := range words {
		number, _ := strconv.Atoi(word)
		if verb == "go" && i == 0 {
			number = impl.ParseCell(t.Land, word)
		}
		if number < 0 || number > 1000000000000 {
			return t, "what"
		}
		n = append(n, number)
	}
	if x, ok := doneOf(t, verb, append(n, 0)); ok {
		return x, "ok"
	}
	return t, "no"
}

func doneOf(t impl.Trek, verb string, n []int) (impl.Trek, bool) {
	switch verb {
	case "new":
		return impl.NewTrek(camp, 0, impl.Rule{Most: n[0], Window: n[1]}, pair)
	case "give":
		return impl.StepGive(t, n[0])
	case "go":
		return impl.StepGo(t, n[0], n[1] == 1)
	case "wait":
		return impl.StepWait(t, n[0] == 1)
	case "home":
		return impl.StepHome(t, n[0] == 1)
	case "lay":
		return impl.StepLay(t, n[0])
	}
	return impl.StepTake(t, n[0])
}

func sightOf(t impl.Trek, verb string) string {
	s := sceneOf(t)
	switch verb {
	case "may":
		return impl.FormatCells(t.Land, s.choices())
	case "targets":
		return impl.FormatCells(t.Land, s.safeTargets())
	case "latest":
		return strconv.Itoa(s.latestTurn())
	case "worst":
		return strconv.Itoa(s.leftAtHome())
	case "lay":
		return strconv.Itoa(s.mostToLay())
	case "way":
		return orDash(impl.WayText(t.Land, impl.WayTo(t.Land, t.Party.At, t.Base)))
	case "land":
		return orDash(impl.LandText(t.Land))
	case "party":
		return orDash(impl.PartyText(t.Land, t.Party))
	case "depots":
		return impl.FormatDepots(t.Land, t.Depots)
	case "journal":
		return impl.FormatJournal(t.Land, t.Journal)
	case "trek":
		return impl.FormatTrek(t)
	}
	if fault := impl.FaultOf(t); fault != "" {
		return fault
	}
	return "ok"
}

func orDash(text string) string {
	if text == "" {
		return "-"
	}
	return text
}

func checkLine(t *testing.T, name string, x impl.Trek, line string, want impl.Trek, output string) {
	t.Helper()
	if got, text := impl.ConsoleLine(x, line); text != output || !sameTrek(got, want) {
		t.Errorf("%s: ConsoleLine(%s, %q) is %s and %q, not %s and %q", name, brief(x), line, brief(got), text, brief(want), output)
	}
}

// checkLines takes the words that the console answers to lines, all of them to
// the same expedition.
func checkLines(t *testing.T, x impl.Trek, answer string, lines ...string) {
	t.Helper()
	for _, line := range lines {
		want, output := lineOf(x, line)
		if output != answer {
			t.Errorf("the test itself is wrong: the answer to %q is %q", line, output)
		}
		checkLine(t, "lines", x, line, want, answer)
	}
}

func checkConsole(t *testing.T, name string, text string, want []string, ok bool) {
	t.Helper()
	if got, gotOk := impl.RunConsole(text); gotOk != ok || !slices.Equal(got, want) {
		t.Errorf("%s: RunConsole(%q) is %q and %v, not %q and %v", name, brief(text), got, gotOk, want, ok)
	}
}

// talk is a line with the answer to it.
type talk struct {
	line   string
	answer string
}

// checkTalk checks the answers of a console that begins with nothing, and what
// the expedition is behind each line.
func checkTalk(t *testing.T, talks []talk) {
	t.Helper()
	x, lines, answers := impl.Trek{}, []string{}, []string{}
	for _, talk := range talks {
		want, output := lineOf(x, talk.line)
		if output != talk.answer {
			t.Errorf("the test itself is wrong: %q is answered with %q, not with %q", talk.line, output, talk.answer)
		}
		checkLine(t, "talk", x, talk.line, want, talk.answer)
		lines, answers = append(lines, talk.line), append(answers, talk.answer)
		x = want
	}
	text := strings.Join(lines, "\n")
	checkConsole(t, "talk", text, answers, true)
	checkConsole(t, "talk, with a newline at the end", text+"\n", answers, true)
}

func TestExampleLand(t *testing.T) {
	x := impl.ExampleLand()
	if impl.LandText(x) != "...../.##i./...i./.#..." || x.W != 5 || x.H != 4 || !slices.Equal(x.Cells, camp.Cells) {
		t.Errorf("the example is %v", x)
	}
	cells := guard[int]()
	checkOwnMemory(t, "ExampleLand", cells, func() []int { return impl.ExampleLand().Cells })
	if impl.MaxLines != 60 || impl.MaxLineLen != 200 {
		t.Errorf("the console has %d lines of %d bytes", impl.MaxLines, impl.MaxLineLen)
	}
}

func TestASession(t *testing.T) {
	checkTalk(t, []talk{
		{"new 1 3", "ok"}, {"trek", "0 0 0 0 0 0"}, {"party", "a0 0 2 3 32 -"}, {"land", "...../.##i./...i./.#..."},
		{"may", "-"}, {"targets", "a0"}, {"latest", "0"}, {"worst", "0"}, {"lay", "0"}, {"way", "a0"}, {"depots", "-"}, {"journal", "-"}, {"audit", "ok"},
		{"give 33", "no"}, {"give 30", "ok"}, {"give 3", "no"}, {"give 2", "ok"}, {"give 1", "no"},
		{"may", "b0 a1"}, {"latest", "10"}, {"worst", "32"}, {"lay", "32"},
		{"go a1 1", "ok"}, {"go a1 1", "no"}, {"go a1 0", "ok"}, {"go a1 0", "no"}, {"go b1 0", "no"}, {"go a2 0", "ok"}, {"give 1", "no"},
		{"party", "a2 23 2 3 32 s.."}, {"way", "a2-a1-a0"}, {"lay 7", "ok"}, {"depots", "a2:7"}, {"lay 16", "ok"}, {"lay 1", "no"}, {"take 20", "ok"}, {"take 4", "no"}, {"take 3", "ok"}, {"depots", "-"},
		{"lay 9", "ok"}, {"wait 0", "ok"}, {"wait 1", "ok"}, {"wait 1", "no"}, {"journal", "1@a0=29 2@a1=26 3@a2=23 4@a2=11 5@a2=8"}, {"trek", "5 32 15 8 9 5"}, {"worst", "11"},
		{"home 0", "ok"}, {"party", "a1 14 2 3 32 s...s."}, {"home 1", "no"}, {"home 0", "ok"}, {"home 0", "no"}, {"audit", "ok"}, {"trek", "7 32 21 11 0 7"},
		{"give 1", "ok"}, {"new 0 1", "ok"}, {"trek", "0 0 0 0 0 0"}, {"wait 1", "no"}, {"what", "what"},
	})
}

func TestLinesAheadOfNew(t *testing.T) {
	checkTalk(t, []talk{
		{"give 1", "no"}, {"go a0 0", "what"}, {"go a0 1", "what"}, {"wait 0", "no"}, {"wait 1", "no"}, {"home 0", "no"}, {"home 1", "no"}, {"lay 1", "no"}, {"take 1", "no"},
		{"may", "-"}, {"targets", "-"}, {"latest", "0"}, {"worst", "-1"}, {"lay", "0"}, {"way", "-"}, {"land", "-"}, {"party", "-"}, {"depots", "-"}, {"journal", "-"}, {"trek", "0 0 0 0 0 0"}, {"audit", "rule"},
		{"new 3 3", "no"}, {"audit", "rule"}, {"new 0 0", "no"}, {"new 1", "what"}, {"land", "-"}, {"new 9 10", "ok"}, {"audit", "ok"},
	})
}

func TestNewThatFailsChangesNothing(t *testing.T) {
	for _, x := range []impl.Trek{onTheWay(), changedTrek(atTheBase(25)), {}} {
		checkLines(t, x, "no", "new 3 3", "new 0 0", "new 1 0", "new 0 11", "new 10 10", "new 10 11", "new 4 3", "new 1000000000000 1", "new 0 1000000000000", "new 1000000000000 1000000000000", " new  7   7 ")
		checkLines(t, x, "what", "new", "new 1", "new 1 2 3", "new a0 3", "new 1 a0", "new -1 3", "new 1 -3", "new 01 3", "new 1 03", "new 1000000000001 3", "new 1 1000000000001", "new 1 3 x", "new1 3", "New 1 3", "news 1 3", "new 1,3", "new 1 3.")
	}
	for window := range 14 {
		for most := range 14 {
			line := fmt.Sprintf("new %d %d", most, window)
			want, answer := onTheWay(), "no"
			if window >= 1 && window <= 10 && most < window {
				want, answer = impl.Trek{Land: camp, Rule: impl.Rule{Most: most, Window: window}, Party: impl.Party{Crew: pair}}, "ok"
			}
			checkLine(t, "new", onTheWay(), line, want, answer)
		}
	}
}

func TestLinesThatAreNotGrasped(t *testing.T) {
	for _, x := range []impl.Trek{onTheWay(), changedTrek(atTheBase(25)), changedTrek(func(t *impl.Trek) { t.Party.At = 10 })} {
		checkLines(t, x, "what",
			"", " ", "   ", strings.Repeat(" ", 200), strings.Repeat(" ", 201), "what", "ok", "no", "-", "?", "x", "0", "1", "a0", "b0 0", "3",
			"give", "go", "wait", "home", "take", "go b0", "go 0", "go a1", "go 1 0", "go 5 0", "go 5 1", "go b0 b0", "go 0 b0", "go 0 a1", "go a1 a1", "give a0", "give a1", "lay b0", "take c2", "wait a0", "home a0", "wait b0",
			"give 1 1", "go a1 0 0", "go a1 0 1", "go a1 b2 0", "wait 0 0", "home 0 0", "lay 1 1", "take 1 1", "give 1 x", "wait 0 x",
			"go a1 2", "go a1 3", "go a1 -1", "go a1 00", "go a1 01", "go a1 10", "go a1 s", "go a1 x", "go a1 true", "wait 2", "wait 3", "wait -1", "wait 01", "wait 00", "wait 10", "wait s", "wait .", "home 2", "home 10", "home -0", "home +1", "home 1000000000000", "wait 4294967297",
			"go f0 0", "go a4 0", "go z9 0", "go h7 0", "go e4 0", "go f3 0", "go A1 0", "go a 0", "go 1a 0", "go a01 0", "go a11 0", "go aa 0", "go - 0", "go ? 0", "go a-1 0", "go a1- 0", "go a1-a0 0", "go á1 0", "go a١ 0", "go a1: 0",
			"give 01", "give 00", "give -1", "give +1", "give -0", "give 1.0", "give 1e0", "give 0x1", "give 1_0", "give １", "give ١", "give x", "give 1a", "give a", "give .", "give 1000000000001", "give 9223372036854775807", "give 9223372036854775808", "give -9223372036854775808", "give 18446744073709551617", "give 99999999999999999999999999",
			"lay 01", "lay -1", "lay x", "lay 1000000000001", "take 01", "take -1", "take x", "take 1000000000001",
			"may 1", "targets 1", "latest 1", "worst 1", "way 1", "land 1", "party 1", "depots 1", "journal 1", "trek 1", "audit 1", "may 0", "way a0", "may may", "trek trek", "depots a0", "lay lay", "lay lay 1", "give give",
			"May", "TREK", "Go a1 0", "GIVE 1", "tre", "treks", "trekk", "laye", "la", "ma", "gives 1", "giv 1", "give1", "goa1 0", "go a10", "wait0", "lay1", "trek.", "trek;", "trek,land", "#trek",
			"trek\n", "\ntrek", "trek\r", "\ttrek", "trek\t", "trek\x00", "\x00", "trek\v", "\ftrek", "give\t1", "give 1\n", "give\n1", "give\u00a01", "give\u20031", "go\ta1\t0", "go a1\t0", "go a1 0\t", "wait\r0", "trek\xff", "\xff\xfe", "\xc3\x28 1", "give \xff", "trek\u00a0", "\ufefftrek",
		)
	}
}

func TestLinesThatDoNotSucceed(t *testing.T) {
	x := onTheWay()
	checkLines(t, x, "no", "give 1", "give 0", "give 1000000000000", "go c2 0", "go b1 0", "go c1 0", "go a0 0", "go e3 0", "go b3 1", "go a2 0", "go d2 0", "lay 0", "lay 26", "lay 1000000000000", "take 0", "take 1", "take 1000000000000")
	checkLines(t, x, "ok", "go b2 0", "go b2 1", "go c3 1", "wait 0", "wait 1", "home 0", "home 1", "lay 1", "lay 25", "lay 7")
	rested := changedTrek(func(t *impl.Trek) { atTheBase(25)(t); t.Party.Past = pastOf("s") })
	checkLines(t, rested, "no", "give 0", "give 8", "go a0 0", "go a1 1", "go b0 1", "wait 1", "home 0", "home 1", "take 1", "lay 0", "lay 26")
	checkLines(t, rested, "ok", "give 1", "give 7", "go a1 0", "go b0 0", "wait 0", "lay 25", "lay 1")
	onADepot := changedTrek(func(t *impl.Trek) { t.Party.At = 10 })
	checkLines(t, onADepot, "ok", "take 1", "take 6", "home 0", "lay 25", "go b2 0", "go a3 1", "go a1 0")
	checkLines(t, onADepot, "no", "take 7", "take 0", "go b3 0", "go c2 0", "give 5")
}

func TestBlanks(t *testing.T) {
	x := onTheWay()
	checkLines(t, x, "12 71 36 25 10 4", "trek", " trek", "trek ", "  trek   ", strings.Repeat(" ", 196)+"trek", "trek"+strings.Repeat(" ", 196), strings.Repeat(" ", 90)+"trek"+strings.Repeat(" ", 106))
	checkLines(t, x, "what", strings.Repeat(" ", 197)+"trek", "trek"+strings.Repeat(" ", 197), "tr ek", "t r e k", strings.Repeat("trek", 50), strings.Repeat("trek", 51), strings.Repeat("x", 200), strings.Repeat("x", 201), strings.Repeat("trek ", 40), strings.Repeat("é", 100), strings.Repeat("é", 101))
	checkLines(t, x, "ok", "go b2 0", " go b2 0", "go  b2 0", "go b2   0", "go b2 0 ", "   go   b2   0   ", "go"+strings.Repeat(" ", 194)+"b2 0", "go b2"+strings.Repeat(" ", 194)+"0")
	checkLines(t, x, "what", "go"+strings.Repeat(" ", 195)+"b2 0", "go b2"+strings.Repeat(" ", 195)+"0", "go b 2 0", "g o b2 0", "gob2 0", "go b20")
	checkLines(t, x, "ok", "lay 5", "lay     5", " lay 5 ", strings.Repeat(" ", 97)+"lay 5"+strings.Repeat(" ", 98))
	checkLines(t, x, "what", "lay 5"+strings.Repeat(" ", 196), "lay 0"+strings.Repeat("0", 195), "lay "+strings.Repeat("1", 197), "lay "+strings.Repeat("1", 196))
	checkLines(t, x, "25", "lay", " lay ", "  lay")
}

func TestLookingChangesNothing(t *testing.T) {
	looked := 0
	for x := range histories(40, 30) {
		for _, form := range lineForms {
			if strings.Contains(form, " ") {
				continue
			}
			want := sightOf(x, form)
			checkLine(t, "looking", x, form, x, want)
			if want != "-" {
				looked++
			}
		}
	}
	if looked < 8000 {
		t.Errorf("only %d looks show something", looked)
	}
}

// likelyLine is one that may well be grasped, and may well succeed.
func likelyLine(throw func(sides int) int, x impl.Trek) string {
	if len(x.Land.Cells) == 0 || throw(40) == 0 {
		return fmt.Sprintf("new %d %d", throw(4), throw(6))
	}
	switch throw(8) {
	case 0:
		form := lineForms[7+throw(12)]
		return strings.Repeat(" ", throw(3)) + form
	case 1:
		form := lineForms[throw(len(lineForms))]
		some := []string{"0", "1", "2", "3", "7", "01", "-1", "a0", "b0", "c2", "f9", "x", "lay", "", " "}
		return strings.NewReplacer("N", some[throw(len(some))], "C", some[throw(len(some))], "S", some[throw(len(some))]).Replace(form)
	}
	return lineFor(x, likelyEvent(throw, x))
}

// lineFor is the line for an event of one of the six kinds.
func lineFor(x impl.Trek, e impl.Event) string {
	storm := 0
	if e.Storm {
		storm = 1
	}
	verb := impl.EventName(e.Kind)
	switch e.Kind {
	case impl.EvGo:
		return fmt.Sprintf("%s %s %d", verb, cellTextOf(x.Land, e.N), storm)
	case impl.EvWait, impl.EvHome:
		return fmt.Sprintf("%s  %d", verb, storm)
	}
	return fmt.Sprintf("%s %d ", verb, e.N)
}

func TestLinesInEveryLand(t *testing.T) {
	done, refused := 0, 0
	for x, e := range histories(200, 40) {
		want, ok := stepOf(x, e)
		answer := "no"
		if ok {
			answer = "ok"
			done++
		} else {
			refused++
		}
		// What begins with a minus is not a number of a line.
		if e.N >= 0 {
			checkLine(t, "in each land", x, lineFor(x, e), want, answer)
		}
		for n := range 64 {
			if text := cellTextOf(plain, n); parseCellOf(x.Land, text) < 0 {
				checkLine(t, "no cell of the land", x, "go "+text+" 0", x, "what")
			}
		}
	}
	if done < 3000 || refused < 1500 {
		t.Errorf("%d lines succeed, %d do not", done, refused)
	}
}

func TestStrewnSessions(t *testing.T) {
	throw := dice()
	counts := map[string]int{}
	for range 150 {
		x := impl.Trek{}
		lines, answers := []string{}, []string{}
		for range throw(61) {
			line := likelyLine(throw, x)
			want, answer := lineOf(x, line)
			checkLine(t, "strewn", x, line, want, answer)
			counts[answer]++
			lines, answers = append(lines, line), append(answers, answer)
			x = want
		}
		text := strings.Join(lines, "\n")
		if len(lines) > 0 {
			text += "\n"
		}
		checkConsole(t, "strewn", text, answers, true)
	}
	if counts["ok"] < 800 || counts["no"] < 500 || counts["what"] < 150 {
		t.Errorf("%d lines succeed, %d do not, %d are not grasped", counts["ok"], counts["no"], counts["what"])
	}
}

func TestStrewnBytes(t *testing.T) {
	throw := dice()
	parts := []string{"new", "give", "go", "wait", "home", "lay", "take", "may", "way", "trek", " ", " ", " ", " ", " ", "  ", "0", "1", "2", "10", "a0", "b2", "c3", "\t", "\xff", "é", "-", "\x00", "\n"}
	x := onTheWay()
	grasped := 0
	for range 60000 {
		line := ""
		for range throw(7) {
			line += parts[throw(len(parts))]
		}
		want, answer := lineOf(x, line)
		checkLine(t, "strewn", x, line, want, answer)
		if answer != "what" {
			grasped++
		}
	}
	if grasped < 1500 {
		t.Errorf("only %d lines are grasped", grasped)
	}
}

func TestRunConsole(t *testing.T) {
	what := func(count int) []string { return slices.Repeat([]string{"what"}, count) }
	trek := func(count int) []string { return slices.Repeat([]string{"0 0 0 0 0 0"}, count) }
	for _, c := range []struct {
		name string
		text string
		want []string
		ok   bool
	}{
		{"the empty text", "", nil, true},
		{"one newline", "\n", what(1), true},
		{"two newlines", "\n\n", what(2), true},
		{"sixty newlines", strings.Repeat("\n", 60), what(60), true},
		{"sixty-one newlines", strings.Repeat("\n", 61), nil, false},
		{"a line", "trek", trek(1), true},
		{"a line with a newline", "trek\n", trek(1), true},
		{"a line with two newlines", "trek\n\n", append(trek(1), "what"), true},
		{"a newline ahead", "\ntrek", append(what(1), trek(1)...), true},
		{"an empty line between", "trek\n\ntrek", []string{"0 0 0 0 0 0", "what", "0 0 0 0 0 0"}, true},
		{"sixty lines", strings.Repeat("trek\n", 59) + "trek", trek(60), true},
		{"sixty lines with a newline", strings.Repeat("trek\n", 60), trek(60), true},
		{"sixty lines and an empty one", strings.Repeat("trek\n", 60) + "\n", nil, false},
		{"sixty-one lines", strings.Repeat("trek\n", 60) + "trek", nil, false},
		{"sixty-one lines with a newline", strings.Repeat("trek\n", 61), nil, false},
		{"very many lines", strings.Repeat("new 1 3\n", 10000), nil, false},
		{"a blank", " ", what(1), true},
		{"lines that end otherwise", "trek\r\ntrek\r\n", what(2), true},
		{"carriage returns", "trek\rtrek", what(1), true},
		{"bytes of any kind", "\xff\x00\ntrek\n\xc3", []string{"what", "0 0 0 0 0 0", "what"}, true},
		{"a line of 200 bytes", strings.Repeat(" ", 196) + "trek\n", trek(1), true},
		{"a line of 201 bytes", strings.Repeat(" ", 197) + "trek\ntrek", []string{"what", "0 0 0 0 0 0"}, true},
		{"a very long line", strings.Repeat("trek ", 100000) + "\ntrek", []string{"what", "0 0 0 0 0 0"}, true},
		{"sixty lines of 200 bytes", strings.Repeat(strings.Repeat(" ", 196)+"trek\n", 60), trek(60), true},
		{"one expedition after the other", "new 1 3\ngive 5\ntrek\nnew 0 1\ntrek\ngive 7\ntrek\nnew 2 2\ntrek", []string{"ok", "ok", "0 5 0 5 0 0", "ok", "0 0 0 0 0 0", "ok", "0 7 0 7 0 0", "no", "0 7 0 7 0 0"}, true},
	} {
		checkConsole(t, c.name, c.text, c.want, c.ok)
	}
}

func TestLinesToBadTreks(t *testing.T) {
	lines := []string{"", "x", "give 1", "go b2 0", "go a0 1", "wait 0", "wait 1", "home 0", "lay 1", "take 1", "new 3 3", "new 1"}
	for _, form := range lineForms {
		if !strings.Contains(form, " ") {
			lines = append(lines, form)
		}
	}
	for name, x := range badTreks() {
		for _, line := range lines {
			_, answer := lineOf(x, line)
			checkLine(t, name, x, line, x, answer)
			if answer == "ok" || answer == "" {
				t.Errorf("%s: %s answers %q with %q", name, brief(x), line, answer)
			}
		}
		want, _ := impl.NewTrek(camp, 0, oneInThree, pair)
		checkLine(t, name, x, "new 1 3", want, "ok")
	}
}

func TestConsolesKeepTheirArguments(t *testing.T) {
	lines := []string{"", "x", "new 1 3", "new 3 3", "new", "give 1", "give 0", "go b2 0", "go a1 1", "go b1 0", "wait 0", "wait 1", "home 0", "home 1", "lay 1", "lay 99", "take 1", "take 99", "take x"}
	for _, form := range lineForms {
		if !strings.Contains(form, " ") {
			lines = append(lines, form)
		}
	}
	for _, x := range keptTreks() {
		for _, line := range lines {
			checkOwnTrek(t, "the line "+line, x, func(x impl.Trek) impl.Trek {
				next, _ := impl.ConsoleLine(x, line)
				return next
			})
		}
	}
	first, _ := impl.RunConsole("trek\nland")
	first[0], first[1] = "x", "y"
	checkConsole(t, "once more", "trek\nland", []string{"0 0 0 0 0 0", "-"}, true)
}

func TestConsolesKeepNoState(t *testing.T) {
	for range 3 {
		checkConsole(t, "again and again", "trek\nnew 1 3\ngive 9\ngo a1 0\ntrek", []string{"0 0 0 0 0 0", "ok", "ok", "ok", "1 9 3 6 0 1"}, true)
	}
	x := onTheWay()
	_, first := impl.ConsoleLine(x, "trek")
	x.Day = math.MaxInt
	_, second := impl.ConsoleLine(x, "trek")
	if first != "12 71 36 25 10 4" || second != "9223372036854775807 71 36 25 10 4" {
		t.Errorf("while the expedition changes, it is shown as %q and %q", first, second)
	}
}
