package tests

import (
	"math"
	"testing"

	"loop.example/g03008/impl"
)

// nothingLostOf is NothingLost.
func nothingLostOf(t impl.Trek) bool {
	left := t.Party.Food
	for _, d := range t.Depots {
		left += min(max(d.Food, 0), 10000)
	}
	return t.Given >= 0 && t.Given <= 1000000 && t.Eaten >= 0 && t.Eaten <= 1000000 &&
		t.Party.Food >= 0 && t.Party.Food <= 10000 && t.Given-t.Eaten == left
}

// isWrittenOf is IsWritten.
func isWrittenOf(t impl.Trek) bool {
	for i, p := range t.Journal {
		if i == len(t.Journal)-1 && (p.Day != t.Day || p.Cell != t.Party.At) {
			return false
		}
	}
	return isJournalOf(t.Journal)
}

// comesHomeOf is ComesHome of a valid expedition in a valid land.
func comesHomeOf(t impl.Trek) bool {
	x, _ := runOf(t, homeEventsOf(t))
	return x.Party.At == t.Base
}

// auditOf is what the audit says of an expedition of valid parts.
func auditOf(t impl.Trek) audit {
	a := audit{food: nothingLostOf(t), rule: keepsOf(t.Rule, t.Party.Past), journal: isWrittenOf(t), home: t.Party.At == t.Base}
	valid := isTrekOf(t)
	if valid {
		a.home = comesHomeOf(t)
	}
	switch {
	case !a.food:
		a.fault = "food"
	case !a.rule:
		a.fault = "rule"
	case !a.journal:
		a.fault = "journal"
	case !a.home:
		a.fault = "home"
	case !valid:
		a.fault = "trek"
	}
	return a
}

// audit is what the functions of the chapter say of an expedition.
type audit struct {
	food    bool
	rule    bool
	journal bool
	home    bool
	fault   string
}

func checkAudit(t *testing.T, name string, x impl.Trek, want audit) {
	t.Helper()
	got := audit{food: impl.NothingLost(x), rule: impl.KeepsRule(x), journal: impl.IsWritten(x), home: impl.ComesHome(x), fault: impl.FaultOf(x)}
	if got != want {
		t.Errorf("%s: the audit of %s is %v, not %v", name, brief(x), got, want)
	}
}

// audited is onTheWay with a journal that ends where the party is.
func audited(change func(t *impl.Trek)) impl.Trek {
	t := onTheWay()
	t.Journal = pagesOf([3]int{3, 12, 40}, [3]int{11, 11, 28}, [3]int{12, 12, 25})
	change(&t)
	return t
}

// atRest is the same at the base, with no depots and no food.
func atRest(change func(t *impl.Trek)) func(t *impl.Trek) {
	return func(t *impl.Trek) {
		t.Party.At, t.Party.Food, t.Depots, t.Given = 0, 0, nil, 36
		t.Journal = pagesOf([3]int{3, 12, 40}, [3]int{12, 0, 0})
		change(t)
	}
}

// auditCase is something that was changed in an expedition, with the letters of
// what does not hold any more, and the fault.
type auditCase struct {
	name   string
	change func(t *impl.Trek)
	fails  string
	fault  string
}

func checkAuditCases(t *testing.T, cases []auditCase) {
	t.Helper()
	for _, c := range cases {
		want := audit{food: true, rule: true, journal: true, home: true, fault: c.fault}
		for _, letter := range c.fails {
			switch letter {
			case 'f':
				want.food = false
			case 'r':
				want.rule = false
			case 'j':
				want.journal = false
			case 'h':
				want.home = false
			}
		}
		x := audited(c.change)
		if impl.IsLand(x.Land) && impl.AreCrew(x.Party.Crew) && impl.IsRule(x.Rule) && auditOf(x) != want {
			t.Errorf("%s: the test itself is wrong: the audit of %v is %v", c.name, x, auditOf(x))
		}
		checkAudit(t, c.name, x, want)
	}
}

func TestAuditOfFood(t *testing.T) {
	checkAuditCases(t, []auditCase{
		{"on the way", func(t *impl.Trek) {}, "", ""},
		{"at rest", atRest(func(t *impl.Trek) {}), "", ""},
		{"a unit more given", func(t *impl.Trek) { t.Given++ }, "fh", "food"},
		{"a unit less given", func(t *impl.Trek) { t.Given-- }, "fh", "food"},
		{"a unit more eaten", func(t *impl.Trek) { t.Eaten++ }, "fh", "food"},
		{"a unit less eaten", func(t *impl.Trek) { t.Eaten-- }, "fh", "food"},
		{"a unit more carried", func(t *impl.Trek) { t.Party.Food++ }, "fh", "food"},
		{"a unit less carried", func(t *impl.Trek) { t.Party.Food-- }, "fh", "food"},
		{"a unit more in a depot", func(t *impl.Trek) { t.Depots[0].Food++ }, "fh", "food"},
		{"a unit less in a depot", func(t *impl.Trek) { t.Depots[1].Food-- }, "fh", "food"},
		{"a depot lost", func(t *impl.Trek) { t.Depots = t.Depots[:1] }, "fh", "food"},
		{"a unit lost, at rest", atRest(func(t *impl.Trek) { t.Given++ }), "f", "food"},
		{"a unit laid down", func(t *impl.Trek) { t.Party.Food--; t.Depots[0].Food++ }, "", ""},
		{"nothing eaten", func(t *impl.Trek) { t.Given, t.Eaten = 35, 0 }, "", ""},
		{"less than nothing eaten", func(t *impl.Trek) { t.Given, t.Eaten = 34, -1 }, "fh", "food"},
		{"nothing given", atRest(func(t *impl.Trek) { t.Given, t.Eaten = 0, 0 }), "", ""},
		{"less than nothing given", atRest(func(t *impl.Trek) { t.Given, t.Eaten = -1, -1 }), "f", "food"},
		{"less than nothing given, nothing eaten", atRest(func(t *impl.Trek) { t.Given, t.Eaten = -1, 0 }), "f", "food"},
		{"the most given", func(t *impl.Trek) { t.Given, t.Eaten = 1000000, 999965 }, "", ""},
		{"more than the most given", func(t *impl.Trek) { t.Given, t.Eaten = 1000001, 999966 }, "fh", "food"},
		{"the most eaten", atRest(func(t *impl.Trek) { t.Given, t.Eaten = 1000000, 1000000 }), "", ""},
		{"more than the most eaten", atRest(func(t *impl.Trek) { t.Given, t.Eaten = 1000001, 1000001 }), "f", "food"},
		{"more than the most eaten, the most given", atRest(func(t *impl.Trek) { t.Given, t.Eaten = 1000000, 1000001 }), "f", "food"},
		{"the most food", func(t *impl.Trek) { t.Party.Food, t.Given = 10000, 10046 }, "", ""},
		{"more than the most food", func(t *impl.Trek) { t.Party.Food, t.Given = 10001, 10047 }, "fh", "food"},
		{"more than the most food, counted as the most", func(t *impl.Trek) { t.Party.Food, t.Given = 10001, 10046 }, "fh", "food"},
		{"food below 0", atRest(func(t *impl.Trek) { t.Party.Food, t.Given = -1, 35 }), "f", "food"},
		{"food below 0, counted as 0", atRest(func(t *impl.Trek) { t.Party.Food = -1 }), "f", "food"},
		{"a depot below 0, counted as 0", atRest(func(t *impl.Trek) { t.Depots = depotsOf([2]int{5, -9}, [2]int{10, 4}); t.Given = 40 }), "", "trek"},
		{"a depot below 0, counted as it is", atRest(func(t *impl.Trek) { t.Depots = depotsOf([2]int{5, -9}, [2]int{10, 14}); t.Given = 41 }), "f", "food"},
		{"a depot of too much, counted as the most", atRest(func(t *impl.Trek) { t.Depots = depotsOf([2]int{5, 10001}); t.Given = 10036 }), "", "trek"},
		{"a depot of too much, counted as it is", atRest(func(t *impl.Trek) { t.Depots = depotsOf([2]int{5, 10001}); t.Given = 10037 }), "f", "food"},
		{"a depot of the most", atRest(func(t *impl.Trek) { t.Depots = depotsOf([2]int{5, 10000}); t.Given = 10036 }), "", ""},
		{"a depot of the least int", atRest(func(t *impl.Trek) { t.Depots = depotsOf([2]int{5, math.MinInt}) }), "", "trek"},
		{"two depots at a cell, both counted", atRest(func(t *impl.Trek) { t.Depots = depotsOf([2]int{5, 4}, [2]int{5, 7}); t.Given = 47 }), "", "trek"},
		{"a depot at no cell, counted", atRest(func(t *impl.Trek) { t.Depots = depotsOf([2]int{-5, 4}); t.Given = 40 }), "", "trek"},
		{"many depots", atRest(func(t *impl.Trek) { t.Depots = make([]impl.Depot, 5000) }), "", "trek"},
		{"the greatest int given", func(t *impl.Trek) { t.Given = math.MaxInt }, "fh", "food"},
		{"the least int given", func(t *impl.Trek) { t.Given = math.MinInt }, "fh", "food"},
		{"the greatest int given and eaten", atRest(func(t *impl.Trek) { t.Given, t.Eaten = math.MaxInt, math.MaxInt }), "f", "food"},
		{"given that wraps around", func(t *impl.Trek) { t.Given, t.Eaten = math.MinInt+34, math.MaxInt }, "fh", "food"},
		{"the greatest int of food", atRest(func(t *impl.Trek) { t.Party.Food, t.Given = math.MaxInt, math.MinInt+35 }), "f", "food"},
		{"the least int of food", atRest(func(t *impl.Trek) { t.Party.Food, t.Given = math.MinInt, math.MinInt+36 }), "f", "food"},
	})
}

func TestAuditOfRulesAndJournals(t *testing.T) {
	lastPage := func(day int, cell int) func(t *impl.Trek) {
		return func(t *impl.Trek) { t.Journal = pagesOf([3]int{3, 12, 40}, [3]int{day, cell, 25}) }
	}
	checkAuditCases(t, []auditCase{
		{"a past that breaks the rule", func(t *impl.Trek) { t.Party.Past = pastOf("ss") }, "rh", "rule"},
		{"a past that broke it long ago", func(t *impl.Trek) { t.Party.Past = pastOf("s.s.......") }, "rh", "rule"},
		{"a past that breaks it, at rest", atRest(func(t *impl.Trek) { t.Party.Past = pastOf("ss") }), "r", "rule"},
		{"a past that just keeps it", func(t *impl.Trek) { t.Party.Past = pastOf("s..s..s...") }, "", ""},
		{"no past", func(t *impl.Trek) { t.Party.Past = nil }, "", ""},
		{"a past too long, which keeps it", atRest(func(t *impl.Trek) { t.Party.Past = pastOf("s..s..s..s..s..s") }), "", "trek"},
		{"a past too long, which breaks it", atRest(func(t *impl.Trek) { t.Party.Past = pastOf("s..s..s..s..s..ss") }), "r", "rule"},
		{"storms where there are none", atRest(func(t *impl.Trek) { t.Rule, t.Party.Past = calm, pastOf("..s") }), "r", "rule"},
		{"no rule", atRest(func(t *impl.Trek) { t.Rule, t.Party.Past = impl.Rule{}, nil }), "r", "rule"},
		{"a rule of as many storms as days", atRest(func(t *impl.Trek) { t.Rule.Most = 3 }), "r", "rule"},
		{"a rule of eleven days", atRest(func(t *impl.Trek) { t.Rule.Window = 11 }), "r", "rule"},
		{"a rule of the greatest and the least int", atRest(func(t *impl.Trek) { t.Rule = impl.Rule{Most: math.MinInt, Window: math.MaxInt} }), "r", "rule"},
		{"no pages", func(t *impl.Trek) { t.Journal = nil }, "", ""},
		{"an empty journal", func(t *impl.Trek) { t.Journal = []impl.Page{} }, "", ""},
		{"one page", func(t *impl.Trek) { t.Journal = pagesOf([3]int{12, 12, 25}) }, "", ""},
		{"a last page of the day before", lastPage(11, 12), "j", "journal"},
		{"a last page of the day behind", lastPage(13, 12), "jh", "journal"},
		{"a last page of another cell", lastPage(12, 11), "j", "journal"},
		{"a last page of the base", lastPage(12, 0), "j", "journal"},
		{"a last page with other food", lastPage(12, 12), "", ""},
		{"a page of the day and the cell, and one behind it", func(t *impl.Trek) { t.Journal = pagesOf([3]int{12, 12, 25}, [3]int{13, 11, 22}) }, "jh", "journal"},
		{"the right day and the right cell in two pages", func(t *impl.Trek) { t.Journal = pagesOf([3]int{11, 12, 25}, [3]int{12, 11, 22}) }, "j", "journal"},
		{"a last page that was changed", func(t *impl.Trek) { t.Journal[2].Food++ }, "jh", "journal"},
		{"a last page whose seal was changed", func(t *impl.Trek) { t.Journal[2].Seal++ }, "jh", "journal"},
		{"a first page that was changed", func(t *impl.Trek) { t.Journal[0].Food++ }, "jh", "journal"},
		{"a page left out", func(t *impl.Trek) { t.Journal = append(t.Journal[:1:1], t.Journal[2]) }, "jh", "journal"},
		{"pages that do not ascend", func(t *impl.Trek) { t.Journal = pagesOf([3]int{12, 12, 25}, [3]int{12, 12, 25}) }, "jh", "journal"},
		{"a journal that was changed, at rest", atRest(func(t *impl.Trek) { t.Journal[0].Cell++ }), "j", "journal"},
		{"a hundred pages", func(t *impl.Trek) {
			t.Day, t.Journal = 99, strewnHundred(dice(), 100)
			t.Journal[99].Cell = 12
			t.Journal = sealed(t.Journal)
		}, "", ""},
		{"a hundred and one pages", atRest(func(t *impl.Trek) {
			t.Day, t.Journal = 100, strewnHundred(dice(), 101)
			t.Journal[100].Cell = 0
			t.Journal = sealed(t.Journal)
		}), "j", "journal"},
		{"the zero page", atRest(func(t *impl.Trek) { t.Day, t.Journal = 0, make([]impl.Page, 1) }), "j", "journal"},
		{"another day", func(t *impl.Trek) { t.Day = 13 }, "j", "journal"},
		{"the greatest int of a day", func(t *impl.Trek) { t.Day = math.MaxInt }, "jh", "journal"},
		{"the least int of a day", func(t *impl.Trek) { t.Day = math.MinInt }, "jh", "journal"},
		{"another cell", func(t *impl.Trek) { t.Party.At = 11 }, "j", "journal"},
	})
}

func TestAuditOfTheWayHome(t *testing.T) {
	checkAuditCases(t, []auditCase{
		{"with just enough food", func(t *impl.Trek) { t.Depots, t.Party.Food, t.Given = nil, 18, 54 }, "", ""},
		{"with too little food", func(t *impl.Trek) { t.Depots, t.Party.Food, t.Given = nil, 17, 53 }, "h", "home"},
		{"with too little food, at the base", func(t *impl.Trek) { t.Base, t.Depots, t.Party.Food, t.Given = 12, nil, 0, 36 }, "", ""},
		{"to a base that is a rock", func(t *impl.Trek) { t.Base = 6 }, "h", "home"},
		{"to a base that is no cell", func(t *impl.Trek) { t.Base = 20 }, "h", "home"},
		{"to the greatest int", func(t *impl.Trek) { t.Base = math.MaxInt }, "h", "home"},
		{"to a base behind rocks", func(t *impl.Trek) { t.Land.Cells[1], t.Land.Cells[5], t.Depots, t.Given = 2, 2, nil, 61 }, "h", "home"},
		{"just on the last day", func(t *impl.Trek) { t.Day, t.Journal = 4994, nil }, "", ""},
		{"a day too late", func(t *impl.Trek) { t.Day, t.Journal = 4995, nil }, "h", "home"},
		{"far too late", func(t *impl.Trek) { t.Day, t.Journal = 5000, nil }, "h", "home"},
		{"on the last day, at the base", atRest(func(t *impl.Trek) { t.Day, t.Journal = 5000, nil }), "", ""},
		{"behind the last day", func(t *impl.Trek) { t.Day, t.Journal = 5001, nil }, "h", "home"},
		{"behind the last day, at the base", atRest(func(t *impl.Trek) { t.Day, t.Journal = 5001, nil }), "", "trek"},
		{"before the first day, at the base", atRest(func(t *impl.Trek) { t.Day, t.Journal = -1, nil }), "", "trek"},
		{"the greatest int of a day, at the base", atRest(func(t *impl.Trek) { t.Day, t.Journal = math.MaxInt, nil }), "", "trek"},
		{"at a base that is a rock", atRest(func(t *impl.Trek) { t.Base, t.Party.At, t.Journal = 6, 6, nil }), "", "trek"},
		{"at a base that is no cell", atRest(func(t *impl.Trek) { t.Base, t.Party.At, t.Journal = -1, -1, nil }), "", "trek"},
		{"without a crew, at the base", atRest(func(t *impl.Trek) { t.Party.Crew = nil }), "", "trek"},
		{"without a crew", func(t *impl.Trek) { t.Party.Crew = nil }, "h", "home"},
		{"without a land, at the base", atRest(func(t *impl.Trek) { t.Land = impl.Land{} }), "", "trek"},
		{"without a land", func(t *impl.Trek) { t.Land = impl.Land{} }, "h", "home"},
		{"with a depot on a rock", func(t *impl.Trek) { t.Depots[1].Cell = 6 }, "h", "home"},
		{"the zero expedition", func(t *impl.Trek) { *t = impl.Trek{} }, "r", "rule"},
		{"food and rule", atRest(func(t *impl.Trek) { t.Given++; t.Party.Past = pastOf("ss") }), "fr", "food"},
		{"food and journal", func(t *impl.Trek) { t.Given++; t.Journal[0].Food++ }, "fjh", "food"},
		{"rule and journal", func(t *impl.Trek) { t.Party.Past = pastOf("ss"); t.Journal[0].Food++ }, "rjh", "rule"},
		{"rule and trek", atRest(func(t *impl.Trek) { t.Party.Past = pastOf("ss"); t.Day, t.Journal = 5001, nil }), "r", "rule"},
		{"journal and home", func(t *impl.Trek) { t.Journal[0].Food++; t.Base = 6 }, "jh", "journal"},
		{"journal and trek", atRest(func(t *impl.Trek) { t.Day = 5001 }), "j", "journal"},
		{"all at once", func(t *impl.Trek) { t.Given, t.Party.Past, t.Day = -1, pastOf("ss"), -1 }, "frjh", "food"},
		{"all but food", func(t *impl.Trek) { t.Party.Past, t.Day = pastOf("ss"), -1 }, "rjh", "rule"},
	})
}

func TestNoFaultAtEveryMoment(t *testing.T) {
	moments, late := 0, 0
	for x, e := range histories(300, 50) {
		want := audit{food: true, rule: true, journal: true, home: true}
		if x.Day+len(homeEventsOf(x)) > 5000 {
			want.home, want.fault = false, "home"
			late++
		}
		checkAudit(t, "at every moment", x, want)
		next, ok := doStep(x, e)
		if ok && next.Day+len(homeEventsOf(next)) <= 5000 {
			moments++
			if fault := impl.FaultOf(next); fault != "" {
				t.Errorf("%v of %v has the fault %q", e, x, fault)
			}
		}
	}
	if moments < 5000 || late < 20 {
		t.Errorf("only %d steps, %d of them too late", moments, late)
	}
}

// auditChanges each change one thing of an expedition in a valid land.
var auditChanges = []func(t *impl.Trek, throw func(sides int) int){
	func(t *impl.Trek, throw func(sides int) int) { t.Given += throw(3) - 1 },
	func(t *impl.Trek, throw func(sides int) int) { t.Eaten += throw(3) - 1 },
	func(t *impl.Trek, throw func(sides int) int) { t.Party.Food += throw(5) - 2 },
	func(t *impl.Trek, throw func(sides int) int) { t.Party.Past = strewnPast(throw, throw(11), 2) },
	func(t *impl.Trek, throw func(sides int) int) { t.Party.At = throw(len(t.Land.Cells)) },
	func(t *impl.Trek, throw func(sides int) int) { t.Base = throw(len(t.Land.Cells)) },
	func(t *impl.Trek, throw func(sides int) int) { t.Day += throw(3) - 1 },
	func(t *impl.Trek, throw func(sides int) int) { t.Day = 4990 + throw(20) },
	func(t *impl.Trek, throw func(sides int) int) { t.Day, t.Journal = 4990+throw(20), nil },
	func(t *impl.Trek, throw func(sides int) int) { t.Journal = t.Journal[:throw(len(t.Journal)+1)] },
	func(t *impl.Trek, throw func(sides int) int) {
		if len(t.Journal) > 0 {
			pageChanges[throw(len(pageChanges))](&t.Journal[throw(len(t.Journal))])
		}
	},
	func(t *impl.Trek, throw func(sides int) int) { t.Rule.Most = throw(t.Rule.Window) },
	func(t *impl.Trek, throw func(sides int) int) { t.Rule.Window = t.Rule.Most + 1 + throw(4) },
	func(t *impl.Trek, throw func(sides int) int) { t.Land.Cells[throw(len(t.Land.Cells))] = throw(3) },
	func(t *impl.Trek, throw func(sides int) int) {
		t.Depots = append(t.Depots, impl.Depot{Cell: throw(len(t.Land.Cells)), Food: throw(4)})
	},
	func(t *impl.Trek, throw func(sides int) int) {
		more := throw(20)
		t.Party.Food += more
		t.Given += more
	},
	func(t *impl.Trek, throw func(sides int) int) {
		less := throw(t.Party.Food + 1)
		t.Party.Food -= less
		t.Given -= less
	},
}

func TestFaultsOfChangedTreks(t *testing.T) {
	throw := dice()
	faults := map[string]int{}
	for x := range histories(300, 40) {
		changed := trekLike(x)
		auditChanges[throw(len(auditChanges))](&changed, throw)
		if throw(3) == 0 {
			auditChanges[throw(len(auditChanges))](&changed, throw)
		}
		want := auditOf(changed)
		checkAudit(t, "changed", changed, want)
		faults[want.fault]++
	}
	for _, fault := range []string{"", "food", "rule", "journal", "home", "trek"} {
		if faults[fault] < 40 {
			t.Errorf("of the fault %q, there are only %d expeditions", fault, faults[fault])
		}
	}
}

func TestAuditOfStrewnTreks(t *testing.T) {
	for x := range strewnTreks(5000) {
		checkAudit(t, "strewn", x, auditOf(x))
	}
}

func TestAuditOfBadTreks(t *testing.T) {
	for name, x := range badTreks() {
		if got := impl.NothingLost(x); got != nothingLostOf(x) {
			t.Errorf("%s: NothingLost(%s) is %v", name, brief(x), got)
		}
		if got := impl.IsWritten(x); got != isWrittenOf(x) {
			t.Errorf("%s: IsWritten(%s) is %v", name, brief(x), got)
		}
		if got := impl.KeepsRule(x); got != (impl.IsRule(x.Rule) && keepsOf(x.Rule, x.Party.Past)) {
			t.Errorf("%s: KeepsRule(%s) is %v", name, brief(x), got)
		}
		// Nothing happens to it on its way home.
		if got := impl.ComesHome(x); got != (x.Party.At == x.Base) {
			t.Errorf("%s: ComesHome(%s) is %v", name, brief(x), got)
		}
		if got := impl.FaultOf(x); got == "" {
			t.Errorf("%s: FaultOf(%s) is empty", name, brief(x))
		}
	}
}

func TestAuditsKeepTheirArguments(t *testing.T) {
	for _, x := range keptTreks() {
		g := guardTrek(x)
		impl.NothingLost(g.trek)
		impl.KeepsRule(g.trek)
		impl.IsWritten(g.trek)
		impl.ComesHome(g.trek)
		impl.FaultOf(g.trek)
		g.check(t, "the functions of the audit")
	}
}

func TestAuditsKeepNoState(t *testing.T) {
	x := audited(func(t *impl.Trek) {})
	first := impl.FaultOf(x)
	x.Given++
	second := impl.FaultOf(x)
	x.Depots[0].Food++
	third := impl.FaultOf(x)
	if first != "" || second != "food" || third != "" {
		t.Errorf("while the expedition changes, its faults are %q, %q and %q", first, second, third)
	}
}
