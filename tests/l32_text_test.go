package tests

import (
	"fmt"
	"math"
	"slices"
	"strings"
	"testing"

	"loop.example/g03008/impl"
)

// cellTextOf is CellText in a valid land.
func cellTextOf(x impl.Land, n int) string {
	if n < 0 || n >= len(x.Cells) {
		return ""
	}
	return string("abcdefgh"[n%x.W]) + string("01234567"[n/x.W])
}

// parseCellOf is ParseCell in a valid land.
func parseCellOf(x impl.Land, s string) int {
	if len(s) != 2 || s[0] < 'a' || s[0] >= byte('a'+x.W) || s[1] < '0' || s[1] >= byte('0'+x.H) {
		return -1
	}
	return int(s[1]-'0')*x.W + int(s[0]-'a')
}

// wayTextOf is WayText in a valid land.
func wayTextOf(x impl.Land, way []int) string {
	cells := []string{}
	for _, n := range way {
		if n < 0 || n >= len(x.Cells) {
			return ""
		}
		cells = append(cells, cellTextOf(x, n))
	}
	if len(cells) == 0 {
		return "-"
	}
	return strings.Join(cells, "-")
}

// pastTextOf is PastText.
func pastTextOf(past []bool) string {
	if len(past) == 0 {
		return "-"
	}
	return drawingOfPast(past)
}

// partyTextOf is PartyText of a valid party.
func partyTextOf(x impl.Land, p impl.Party) string {
	return fmt.Sprintf("%s %d %d %d %d %s", cellTextOf(x, p.At), p.Food, len(p.Crew), needOf(p.Crew), capOf(p.Crew), pastTextOf(p.Past))
}

// isPartyOf is IsParty in a valid land, of a party with a valid crew.
func isPartyOf(x impl.Land, p impl.Party) bool {
	return isOpenOf(x, p.At) && p.Food >= 0 && p.Food <= 10000 && len(p.Past) <= 10
}

func checkCellText(t *testing.T, name string, x impl.Land, n int, want string) {
	t.Helper()
	if got := impl.CellText(x, n); got != want {
		t.Errorf("%s: CellText(%s, %d) is %q, not %q", name, showLand(x), n, got, want)
	}
}

func checkParse(t *testing.T, name string, x impl.Land, s string, want int) {
	t.Helper()
	if got := impl.ParseCell(x, s); got != want {
		t.Errorf("%s: ParseCell(%s, %q) is %d, not %d", name, showLand(x), s, got, want)
	}
}

func checkWayText(t *testing.T, name string, x impl.Land, way []int, want string) {
	t.Helper()
	if got := impl.WayText(x, way); got != want {
		t.Errorf("%s: WayText(%s, %v) is %q, not %q", name, showLand(x), way, got, want)
	}
}

func checkPastText(t *testing.T, name string, past []bool, want string) {
	t.Helper()
	if got := impl.PastText(past); got != want {
		t.Errorf("%s: PastText(%v) is %q, not %q", name, past, got, want)
	}
}

func checkPartyText(t *testing.T, name string, x impl.Land, p impl.Party, want string) {
	t.Helper()
	if got := impl.PartyText(x, p); got != want {
		t.Errorf("%s: PartyText(%s, %v) is %q, not %q", name, showLand(x), p, got, want)
	}
}

func checkLandText(t *testing.T, name string, x impl.Land, want string) {
	t.Helper()
	if got := impl.LandText(x); got != want {
		t.Errorf("%s: LandText(%s) is %q, not %q", name, showLand(x), got, want)
	}
}

// noCellTexts are texts of no cell in any land.
var noCellTexts = []string{
	"", "a", "h", "0", "7", "i0", "j3", "z9", "a8", "a9", "h8", "i8", "`0", "{0", "A0", "H7", "C2", "0a", "00", "aa", "77",
	"a00", "a01", "a10", "h07", "a-1", "a-0", "a+1", "a+0", "-a0", " a0", "a0 ", "a 0", "a0\n", "\ta0", "a0\x00", "\x00a0", "a\x00", "a0a0", "a0-b0", "aa0",
	"a1.0", "a1e0", "a0x1", "a:", "a/", "a１", "ａ0", "á0", "a٣", "\xff0", "a\xff", "\xc3\x28", "a1000000000000", "a18446744073709551616", "a-18446744073709551615", "?", "-",
}

func TestCellText(t *testing.T) {
	for n, want := range map[int]string{
		0: "a0", 1: "b0", 4: "e0", 5: "a1", 12: "c2", 15: "a3", 19: "e3", 6: "b1", 7: "c1", 16: "b3", 8: "d1",
		20: "", 21: "", 25: "", -1: "", -5: "", 256: "", 1 << 32: "", math.MaxInt: "", math.MinInt: "",
	} {
		checkCellText(t, "camp", camp, n, want)
	}
	checkCellText(t, "the last cell of the greatest land", plain, 63, "h7")
	checkCellText(t, "behind the last cell of the greatest land", plain, 64, "")
	checkCellText(t, "the last cell of a row", row, 6, "g0")
	checkCellText(t, "the last cell of a line", line, 7, "a7")
	checkCellText(t, "the only cell", landOf("#"), 0, "a0")
}

func TestParseCell(t *testing.T) {
	for s, want := range map[string]int{
		"a0": 0, "e0": 4, "a1": 5, "c2": 12, "a3": 15, "e3": 19, "b1": 6, "b3": 16,
		"f0": -1, "a4": -1, "f4": -1, "e4": -1, "h7": -1, "A0": -1, "a00": -1, "0a": -1, "a-1": -1, "a0 ": -1,
	} {
		checkParse(t, "camp", camp, s, want)
	}
	for _, x := range []impl.Land{camp, plain, row, line, landOf("."), landOf("#")} {
		for _, s := range noCellTexts {
			checkParse(t, "no text of a cell", x, s, -1)
		}
	}
	checkParse(t, "the last cell of the greatest land", plain, "h7", 63)
	checkParse(t, "the only cell", landOf("i"), "a0", 0)
	checkParse(t, "beside the only cell", landOf("i"), "b0", -1)
	checkParse(t, "below the only cell", landOf("i"), "a1", -1)
}

func TestCellsAreReadFromTheirText(t *testing.T) {
	for x := range everyLand() {
		seen := map[string]bool{}
		for n := range x.Cells {
			text := impl.CellText(x, n)
			checkCellText(t, "each cell", x, n, cellTextOf(x, n))
			checkParse(t, "each cell", x, text, n)
			if seen[text] {
				t.Errorf("in %s, two cells are %q", drawingOf(x), text)
			}
			seen[text] = true
		}
		for _, n := range badCells(len(x.Cells)) {
			checkCellText(t, "no cell", x, n, "")
		}
		for n := range 64 {
			text := cellTextOf(plain, n)
			checkParse(t, "each text", x, text, parseCellOf(x, text))
		}
	}
}

func TestParseCellOfEveryShortText(t *testing.T) {
	x := landOf("..#", "i..")
	read := 0
	for a := range 256 {
		checkParse(t, "a byte", x, string([]byte{byte(a)}), -1)
		for b := range 256 {
			s := string([]byte{byte(a), byte(b)})
			want := parseCellOf(x, s)
			checkParse(t, "two bytes", x, s, want)
			if want >= 0 {
				read++
			}
		}
	}
	if read != 6 {
		t.Errorf("%d texts are cells", read)
	}
	throw := dice()
	for range 20000 {
		s := make([]byte, throw(6))
		for i := range s {
			s[i] = "abcx012 -+A\xff\x00"[throw(13)]
		}
		checkParse(t, "strewn bytes", x, string(s), parseCellOf(x, string(s)))
	}
	checkParse(t, "a very long text", x, strings.Repeat("a0", 100000), -1)
}

func TestWayText(t *testing.T) {
	for _, c := range []struct {
		name string
		way  []int
		want string
	}{
		{"some cells", []int{12, 11, 10}, "c2-b2-a2"},
		{"one cell", []int{4}, "e0"},
		{"the first cell", []int{0}, "a0"},
		{"cells that are no way", []int{0, 19, 0, 0}, "a0-e3-a0-a0"},
		{"rocks", []int{6, 7}, "b1-c1"},
		{"none", []int{}, "-"},
		{"nil", nil, "-"},
		{"no cell", []int{20}, ""},
		{"no cell at last", []int{4, 20}, ""},
		{"no cell at first", []int{-1, 4}, ""},
		{"no cell amid others", []int{4, 20, 5}, ""},
		{"the greatest int", []int{4, math.MaxInt}, ""},
		{"the least int", []int{math.MinInt, 4}, ""},
		{"many cells", slices.Repeat([]int{0}, 5000), strings.Repeat("-a0", 5000)[1:]},
		{"many cells and one that is none", append(slices.Repeat([]int{0}, 5000), -1), ""},
	} {
		checkWayText(t, c.name, camp, c.way, c.want)
	}
	throw := dice()
	for x := range everyLand() {
		way := []int{}
		for range throw(7) {
			way = append(way, throw(len(x.Cells)))
		}
		if len(way) > 0 && throw(4) == 0 {
			way[throw(len(way))] = throw(2)*(len(x.Cells)+1) - 1
		}
		checkWayText(t, "strewn", x, way, wayTextOf(x, way))
	}
}

func TestPastText(t *testing.T) {
	checkPastText(t, "some days", []bool{true, false, true}, "s.s")
	checkPastText(t, "one storm", []bool{true}, "s")
	checkPastText(t, "one day", []bool{false}, ".")
	checkPastText(t, "none", []bool{}, "-")
	checkPastText(t, "nil", nil, "-")
	for past := range allPasts(11) {
		checkPastText(t, "each past", past, pastTextOf(past))
	}
	for _, past := range longPasts() {
		checkPastText(t, "long pasts", past, drawingOfPast(past))
	}
}

func TestPartyText(t *testing.T) {
	party := func(at int, food int, crew []impl.Member, past string) impl.Party {
		return impl.Party{At: at, Food: food, Crew: crew, Past: pastOf(past)}
	}
	for _, c := range []struct {
		name string
		p    impl.Party
		want string
	}{
		{"a party", party(12, 10, pair, ".s"), "c2 10 2 3 32 .s"},
		{"without a past", party(12, 10, pair, ""), "c2 10 2 3 32 -"},
		{"with a past that is nil", impl.Party{At: 12, Food: 10, Crew: pair}, "c2 10 2 3 32 -"},
		{"without food", party(0, 0, pair, "s"), "a0 0 2 3 32 s"},
		{"with the most food", party(19, 10000, pair, ".........."), "e3 10000 2 3 32 .........."},
		{"with ill members", party(8, 5, trio, "s.."), "d1 5 3 6 40 s.."},
		{"all ill", party(8, 5, sick, "s.."), "d1 5 3 16 0 s.."},
		{"the greatest crew", party(8, 5, strong, "ss"), "d1 5 8 80 800 ss"},
		{"a crew of one", party(1, 7, []impl.Member{well(99, 1, 1)}, "."), "b0 7 1 1 1 ."},
		{"a rock", party(6, 10, pair, ".s"), ""},
		{"no cell", party(20, 10, pair, ".s"), ""},
		{"before the first cell", party(-1, 10, pair, ".s"), ""},
		{"food below 0", party(12, -1, pair, ".s"), ""},
		{"too much food", party(12, 10001, pair, ".s"), ""},
		{"the greatest int of food", party(12, math.MaxInt, pair, ".s"), ""},
		{"the least int of food", party(12, math.MinInt, pair, ".s"), ""},
		{"the greatest int of a cell", party(math.MaxInt, 10, pair, ".s"), ""},
		{"the least int of a cell", party(math.MinInt, 10, pair, ".s"), ""},
		{"a past of eleven days", party(12, 10, pair, "..........."), ""},
		{"nobody", party(12, 10, nil, ".s"), ""},
		{"the zero party", impl.Party{}, ""},
	} {
		checkPartyText(t, c.name, camp, c.p, c.want)
	}
	for _, crew := range badCrews() {
		checkPartyText(t, "a bad crew", camp, impl.Party{At: 12, Food: 10, Crew: crew}, "")
	}
}

func TestPartyTextOfStrewnParties(t *testing.T) {
	throw := dice()
	crews := goodCrews()
	valid := 0
	for x := range everyLand() {
		p := impl.Party{At: throw(len(x.Cells)+2) - 1, Food: throw(10200) - 100, Crew: crews[throw(len(crews))], Past: strewnPast(throw, throw(12), 2)}
		want := ""
		if isPartyOf(x, p) {
			want = partyTextOf(x, p)
			valid++
		}
		checkPartyText(t, "strewn", x, p, want)
	}
	if valid < 500 {
		t.Errorf("only %d parties are valid", valid)
	}
}

func TestLandText(t *testing.T) {
	checkLandText(t, "camp", camp, "...../.##i./...i./.#...")
	checkLandText(t, "a single cell", landOf("."), ".")
	checkLandText(t, "a single cell of ice", landOf("i"), "i")
	checkLandText(t, "a single rock", landOf("#"), "#")
	checkLandText(t, "a row", row, "..i.#.i.")
	checkLandText(t, "a line", line, "./i/./#/././i/.")
	checkLandText(t, "the greatest land", plain, "......../......../......../......../......../......../......../........")
	checkLandText(t, "two cells", impl.Land{W: 1, H: 2, Cells: []int{2, 1}}, "#/i")
	checkLandText(t, "every kind", impl.Land{W: 3, H: 1, Cells: []int{0, 1, 2}}, ".i#")
	for x := range everyLand() {
		checkLandText(t, "each land", x, drawingOf(x))
	}
	checkLandText(t, "no land", impl.Land{}, "")
}

func TestTextsInBadLands(t *testing.T) {
	for _, x := range badLands() {
		for _, n := range []int{0, 1, 5, -1, math.MaxInt, math.MinInt} {
			checkCellText(t, "bad land", x, n, "")
			checkWayText(t, "bad land", x, []int{n}, "")
		}
		for _, s := range []string{"", "a0", "b0", "a1", "-", "c2"} {
			checkParse(t, "bad land", x, s, -1)
		}
		// There is no cell that is none.
		checkWayText(t, "bad land", x, nil, "-")
		checkPartyText(t, "bad land", x, impl.Party{Food: 10, Crew: pair}, "")
		checkLandText(t, "bad land", x, "")
	}
}

func TestTextsKeepTheirArguments(t *testing.T) {
	for _, x := range []impl.Land{camp, plain, landOf("#"), {W: 3, H: 2, Cells: make([]int, 5)}, {}} {
		cells, way, past := guard(x.Cells...), guard(12, 11, 20, -1), guard(pastOf("s..s")...)
		y := impl.Land{W: x.W, H: x.H, Cells: cells.list}
		g := guardParty(impl.Party{At: 0, Food: 9, Crew: pair, Past: pastOf("s.")})
		impl.CellText(y, 3)
		impl.ParseCell(y, "c2")
		impl.WayText(y, way.list)
		impl.WayText(y, way.list[:2])
		impl.PastText(past.list)
		impl.PartyText(y, g.party)
		impl.LandText(y)
		cells.check(t, "the functions of texts")
		way.check(t, "WayText")
		past.check(t, "PastText")
		g.check(t, "PartyText")
	}
}

func TestTextsKeepNoState(t *testing.T) {
	x := impl.Land{W: 2, H: 1, Cells: []int{0, 1}}
	first := impl.LandText(x)
	x.Cells[0] = 2
	second := impl.LandText(x)
	x.W, x.H = 1, 2
	third := impl.LandText(x)
	if first != ".i" || second != "#i" || third != "#/i" {
		t.Errorf("while the land changes, LandText is %q, %q and %q", first, second, third)
	}
}
