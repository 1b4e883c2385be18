package ledger

import (
	"fmt"
	"reflect"
	"slices"
	"strconv"
	"testing"

	"leechbook/api"
)

// walk goes through all that lies in what v points to, lists with all that lies behind them.
func walk(v any, leaf func(reflect.Value)) { walkValue(reflect.ValueOf(v).Elem(), leaf) }

func walkValue(v reflect.Value, leaf func(reflect.Value)) {
	switch v.Kind() {
	case reflect.Slice:
		v = v.Slice(0, v.Cap())
		for i := range v.Len() {
			walkValue(v.Index(i), leaf)
		}
	case reflect.Struct:
		for i := range v.NumField() {
			walkValue(v.Field(i), leaf)
		}
	default:
		leaf(v)
	}
}

// whole is all that lies there, as a text.
func whole(v any) string {
	made := ""
	walk(v, func(leaf reflect.Value) { made += fmt.Sprintf("%v ", leaf.Interface()) })
	return made
}

// scribble writes over all that lies there.
func scribble(v any) {
	walk(v, junk)
}

func junk(leaf reflect.Value) {
	switch leaf.Kind() {
	case reflect.String:
		leaf.SetString("!")
	case reflect.Bool:
		leaf.SetBool(!leaf.Bool())
	case reflect.Uint8:
		leaf.SetUint(33)
	default:
		leaf.SetInt(-1)
	}
}

// roomy gives v's lists memory of their own, that goes on behind them with what is not to be read.
func roomy[T any](v T) T {
	roomyValue(reflect.ValueOf(&v).Elem())
	return v
}

func roomyValue(v reflect.Value) {
	switch v.Kind() {
	case reflect.Slice:
		made := reflect.MakeSlice(v.Type(), v.Len()+2, v.Len()+2)
		walkValue(made, junk)
		reflect.Copy(made, v)
		for i := range v.Len() {
			roomyValue(made.Index(i))
		}
		v.Set(made.Slice(0, v.Len()))
	case reflect.Struct:
		for i := range v.NumField() {
			roomyValue(v.Field(i))
		}
	}
}

// nested are tables with lists of every kind, those within others, too.
func nested() api.Tables {
	tab := sample()
	mod := func(s string) api.Cond { return api.Cond{Kind: api.CMod, Lo: s} }
	not := func(c api.Cond) api.Cond { return api.Cond{Kind: api.CNot, Kids: []api.Cond{c}} }
	both := func(kind int, a, b api.Cond) api.Cond { return api.Cond{Kind: kind, Kids: []api.Cond{a, b}} }
	deep := mod("TC")
	for range api.MaxNest - 1 {
		deep = not(deep)
	}
	tab.Plan.Rules = append(tab.Plan.Rules,
		api.Rule{Rank: 5, If: both(api.CAnd, mod("25"), not(not(mod("59")))), Unless: []api.Cond{both(api.COr, not(mod("25")), mod("26"))}, Sets: []api.Set{{What: api.SCoins, N: 5000}, {What: api.SCopay, N: 300}}},
		api.Rule{Rank: 6, If: deep, Unless: []api.Cond{deep, deep}[:1], Sets: []api.Set{{What: api.SCover, N: 0}}},
	)
	tab.Edits = []api.Edit{{Kind: api.EUnits, A: "J1100", N: 3}, {Kind: api.EBundle, A: "J1100", B: "99213", Bypass: true}}
	return tab
}

// sequence are claims that are submitted, by which all ahead are judged anew time and again.
func sequence() []api.Claim {
	with := func(day int, mods ...string) api.Line {
		x := visit(day)
		x.Mods = mods
		return x
	}
	drug := api.Line{Proc: "J1100", Date: second, Units: 2, Billed: 150}
	a := original("A", "M1", "F1", with(first), with(second, "25", "59"), with(third, "TC"))
	b := original("B", "M1", "F1", with(second), drug, with(first), with(second, "59"))
	c := original("C", "M2", "F1", with(first), with(second, "26", "25", "59"))
	a2, b2 := inPlace("A2", a, with(first), drug), inPlace("B2", b, drug, with(third))
	return []api.Claim{a, b, c, a2, b2, void("V", a2), original("D", "M1", "F1", with(first), drug), void("W", b2), void("X", c)}
}

// Rule R3: tables and claims that are handed in stay as they were, and are not kept; what is told is new memory.
func TestHandedIn(t *testing.T) {
	g, twin := started(t, 20), started(t, 20)
	expectAlike := func(what string) {
		t.Helper()
		if a, b := told(g), told(twin); a != b {
			t.Fatalf("%s: %s, want %s", what, a, b)
		}
	}
	for i, c := range sequence() {
		if i%3 == 0 {
			tab := roomy(nested())
			was := whole(&tab)
			load(t, g, tab)
			load(t, twin, nested())
			if whole(&tab) != was {
				t.Fatal("tables were changed")
			}
			scribble(&tab)
			expectAlike("tables written over")
		}
		mine := roomy(c)
		was := whole(&mine)
		submit(t, g, mine)
		submit(t, twin, c)
		if whole(&mine) != was {
			t.Fatalf("%s was changed", c.Id)
		}
		scribble(&mine)
		expectAlike(c.Id + " written over")
		l, rows := g.Entries(), g.Rows()
		scribble(&l)
		scribble(&rows)
		expectAlike("what was told behind " + c.Id + " written over")
	}
}

// Rule R3: nor is what is handed in with an error changed.
func TestRefusedStays(t *testing.T) {
	g := started(t, 2, steep())
	submit(t, g, original("A", "M1", "F1", visitFor(first, dear)))
	was := told(g)
	for _, c := range []api.Claim{
		original("A", "M1", "F1", visit(first)),
		original("B", "M1", "F2", visit(first), visit(second)),
		original("C", "M1", "F1", visit(first), visit(20230301)),
	} {
		mine := roomy(c)
		kept := whole(&mine)
		if e := g.Submit(mine); e == api.OK || whole(&mine) != kept {
			t.Errorf("%+v became %+v, %d", c, mine, e)
		}
		scribble(&mine)
		if now := told(g); now != was {
			t.Fatalf("%s became %s", was, now)
		}
	}
	tab := nested()
	tab.Edits[1].N = 1
	tab = roomy(tab)
	kept := whole(&tab)
	if e := g.Load(tab); e != api.ErrArg || whole(&tab) != kept {
		t.Errorf("%+v, %d", tab, e)
	}
}

// Rule R3: two answers share no memory, nor do two lists of one answer, where claims that were handed in did.
func TestAnswersShareNothing(t *testing.T) {
	g := started(t, 20, nested())
	mods := []string{"25"}
	x, y := visit(first), visit(second)
	x.Mods, y.Mods = mods, mods
	lines := []api.Line{x, y}
	var last api.Claim
	for i := range 4 {
		c := original("C"+strconv.Itoa(i), "M1", "F1", lines...)
		if i == 2 {
			c = inPlace("C2", last, lines...)
		}
		submit(t, g, c)
		last = c
	}
	a, b, rows, more := g.Entries(), g.Entries(), g.Rows(), g.Rows()
	was, counted := whole(&b), whole(&more)
	for i := range a {
		rest := slices.Concat(a[:i], a[i+1:])
		kept := whole(&rest)
		a[i].Claim.Lines[0].Mods[0] = "!!"
		if a[i].Claim.Lines[1].Mods[0] != "25" {
			t.Errorf("services of %s share their modifiers", a[i].Claim.Id)
		}
		one := a[i : i+1 : i+1]
		scribble(&one)
		if whole(&rest) != kept {
			t.Errorf("entry %d shares memory with others", i)
		}
	}
	scribble(&rows)
	if whole(&b) != was || whole(&more) != counted {
		t.Errorf("two answers share memory")
	}
	// To put something behind what is told touches nothing, either.
	before := told(g)
	_ = append(b, api.Entry{})
	_ = append(more, api.Acc{})
	if now := told(g); now != before {
		t.Errorf("%s became %s", before, now)
	}
}

// A list that is nil and one without elements are the same.
func TestEmptyLists(t *testing.T) {
	bare, empty := sample(), sample()
	empty.Edits = []api.Edit{}
	for i := range empty.Plan.Rules {
		empty.Plan.Rules[i].Unless = []api.Cond{}
		empty.Plan.Rules[i].If.Kids = []api.Cond{}
	}
	g, twin := started(t, 9, bare), started(t, 9, empty)
	a := original("A", "M1", "F1", visit(first))
	b, v := inPlace("B", a, visit(second)), void("V", original("B", "M1", "F1"))
	submit(t, g, a, b, v)
	for _, c := range []api.Claim{a, b, v} {
		c.Lines = slices.Clone(c.Lines)
		for i := range c.Lines {
			c.Lines[i].Mods = []string{}
		}
		if len(c.Lines) == 0 {
			c.Lines = []api.Line{}
		}
		submit(t, twin, c)
	}
	if x, y := told(g), told(twin); x != y {
		t.Errorf("%s, want %s", y, x)
	}
}
