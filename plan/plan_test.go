package plan

import (
	"fmt"
	"math"
	"reflect"
	"slices"
	"testing"

	"leechbook/api"
)

var (
	all    = api.Cond{}
	out    = api.Cond{Kind: api.COut}
	visits = api.Cond{Kind: api.CProc, Lo: "99200", Hi: "99300"}
	mod59  = api.Cond{Kind: api.CMod, Lo: "59"}
)

func units(n int64) api.Cond { return api.Cond{Kind: api.CUnits, N: n} }

func billed(n int64) api.Cond { return api.Cond{Kind: api.CBilled, N: n} }

func not(c api.Cond) api.Cond { return api.Cond{Kind: api.CNot, Kids: []api.Cond{c}} }

func and(a, b api.Cond) api.Cond { return api.Cond{Kind: api.CAnd, Kids: []api.Cond{a, b}} }

func or(a, b api.Cond) api.Cond { return api.Cond{Kind: api.COr, Kids: []api.Cond{a, b}} }

// nested is a condition with so many of this shape about it.
func nested(shape func(api.Cond) api.Cond, about int, c api.Cond) api.Cond {
	for range about {
		c = shape(c)
	}
	return c
}

// both is a condition and itself, so that a few of them within one another are many.
func both(c api.Cond) api.Cond { return and(c, c) }

// shapes are ways to lay one condition about another.
var shapes = []func(api.Cond) api.Cond{
	not,
	func(c api.Cond) api.Cond { return and(c, all) },
	func(c api.Cond) api.Cond { return and(out, c) },
	func(c api.Cond) api.Cond { return or(c, mod59) },
	func(c api.Cond) api.Cond { return or(visits, c) },
}

func covered(c api.Cond) api.Rule {
	return api.Rule{Rank: 1, If: c, Sets: []api.Set{{What: api.SCover, N: 1}}}
}

func withRules(l ...api.Rule) api.Plan {
	return api.Plan{IndDed: 50000, FamDed: 100000, IndOop: 200000, FamOop: 400000, Rules: l}
}

// expectCheck asks Check, and of a plan that may not be also Print.
func expectCheck(t *testing.T, p api.Plan, ok bool) {
	t.Helper()
	want := api.OK
	if !ok {
		want = api.ErrPlan
	}
	if e := Check(p); e != want {
		t.Errorf("Check(%.300s): %v, want %v", fmt.Sprint(p), e, want)
	}
	if ok {
		return
	}
	if s, e := Print(p); s != "" || e != api.ErrPlan {
		t.Errorf("Print(%.300s): %.80q, %v", fmt.Sprint(p), s, e)
	}
}

// expectCondition asks of a condition wherever one may stand.
func expectCondition(t *testing.T, c api.Cond, ok bool) {
	t.Helper()
	expectCheck(t, withRules(covered(c)), ok)
	unless := covered(all)
	unless.Unless = []api.Cond{c}
	expectCheck(t, withRules(unless), ok)
	expectCheck(t, withRules(covered(out), unless, covered(all)), ok)
	for _, shape := range shapes {
		expectCheck(t, withRules(covered(shape(c))), ok)
		expectCheck(t, withRules(covered(shape(shape(c)))), ok)
	}
}

// kinds are a condition of each kind.
func kinds() []api.Cond {
	return []api.Cond{all, visits, mod59, units(3), billed(7550), out, not(all), and(all, out), or(out, all)}
}

// Promise 10.1: conditions of every kind that may be, at the edges of what they hold.
func TestConditionsThatMayBe(t *testing.T) {
	for i, c := range kinds() {
		if c.Kind != i {
			t.Fatalf("kind %d at %d", c.Kind, i)
		}
		expectCondition(t, c, true)
	}
	for _, c := range []api.Cond{
		units(0), units(1), units(9998), units(9999),
		billed(0), billed(1), billed(api.MaxCents - 1), billed(api.MaxCents),
		{Kind: api.CProc, Lo: "00000", Hi: "ZZZZZ"},
		{Kind: api.CProc, Lo: "99300", Hi: "99200"}, // that none lies between plays no part
		{Kind: api.CProc, Lo: "A0000", Hi: "A0000"},
		{Kind: api.CMod, Lo: "AZ"}, {Kind: api.CMod, Lo: "09"},
		{Kids: []api.Cond{}}, {Kind: api.COut, Kids: []api.Cond{}}, {Kind: api.CUnits, Kids: []api.Cond{}},
		and(all, all), or(not(not(visits)), and(or(units(1), billed(1)), mod59)),
	} {
		expectCondition(t, c, true)
	}
}

// Promise 10.1: each field beyond its bounds, or not zero where the kind has none.
func TestConditionsThatMayNotBe(t *testing.T) {
	for _, kind := range []int{-1, 9, 10, 256, math.MaxInt, math.MinInt} {
		expectCondition(t, api.Cond{Kind: kind}, false)
		expectCondition(t, api.Cond{Kind: kind, Kids: []api.Cond{all}}, false)
		expectCondition(t, api.Cond{Kind: kind, Kids: []api.Cond{all, all}}, false)
	}
	for _, n := range []int64{-1, 10000, 65536, 1 << 32, math.MaxInt64, math.MinInt64} {
		expectCondition(t, units(n), false)
	}
	for _, n := range []int64{-1, api.MaxCents + 1, math.MaxInt64, math.MinInt64} {
		expectCondition(t, billed(n), false)
	}
	for _, s := range []string{"", "9920", "992000", "9920a", "9920 ", "9920.", "9920-", "é920", "99\x00 0", "all", "992(0"} {
		expectCondition(t, api.Cond{Kind: api.CProc, Lo: s, Hi: "99300"}, false)
		expectCondition(t, api.Cond{Kind: api.CProc, Lo: "99200", Hi: s}, false)
		expectCondition(t, api.Cond{Kind: api.CProc, Lo: s, Hi: s}, false)
	}
	for _, s := range []string{"", "5", "590", "5a", "a9", "5 ", "5.", "é", "99213"} {
		expectCondition(t, api.Cond{Kind: api.CMod, Lo: s}, false)
	}
	for _, c := range kinds() {
		if c.Kind != api.CProc && c.Kind != api.CMod {
			for _, s := range []string{"59", "99213", " ", "all"} {
				wrong := c
				wrong.Lo = s
				expectCondition(t, wrong, false)
			}
		}
		if c.Kind != api.CProc {
			for _, s := range []string{"59", "99213", " ", "all"} {
				wrong := c
				wrong.Hi = s
				expectCondition(t, wrong, false)
			}
		}
		if c.Kind != api.CUnits && c.Kind != api.CBilled {
			for _, n := range []int64{1, -1, 9999, math.MaxInt64, math.MinInt64} {
				wrong := c
				wrong.N = n
				expectCondition(t, wrong, false)
			}
		}
	}
}

// Promise 10.1: each kid too many or too few, and kids that may not be.
func TestKids(t *testing.T) {
	for _, c := range kinds() {
		right := len(c.Kids)
		for count := range 5 {
			c.Kids = slices.Repeat([]api.Cond{all}, count)
			expectCondition(t, c, count == right)
		}
	}
	for _, wrong := range []api.Cond{{Kind: 9}, units(-1), {Kind: api.CNot}, and(all, units(-1)), {N: 1}} {
		expectCondition(t, not(wrong), false)
		expectCondition(t, and(wrong, all), false)
		expectCondition(t, and(all, wrong), false)
		expectCondition(t, or(wrong, all), false)
		expectCondition(t, or(all, wrong), false)
	}
}

// Promise 10.1: a condition at the depth of MaxNest, and one deeper.
func TestDepth(t *testing.T) {
	if api.MaxNest != 16 {
		t.Fatal(api.MaxNest)
	}
	for _, shape := range append(shapes, both) {
		for about := range 20 {
			c := nested(shape, about, units(1))
			expectCheck(t, withRules(covered(c)), about <= 15)
			unless := covered(all)
			unless.Unless = []api.Cond{c}
			expectCheck(t, withRules(unless), about <= 15)
		}
	}
	// One way down is deeper than the others.
	expectCheck(t, withRules(covered(and(nested(not, 14, all), nested(not, 14, out)))), true)
	expectCheck(t, withRules(covered(and(nested(not, 15, all), nested(not, 14, out)))), false)
	expectCheck(t, withRules(covered(and(nested(not, 14, all), nested(not, 15, out)))), false)
}

// Rule R7 and promise P0: a condition within itself, and one far too deep, are left.
func TestEndlessConditions(t *testing.T) {
	for _, kind := range []int{api.CNot, api.CAnd, api.COr} {
		kids := make([]api.Cond, 1)
		if kind != api.CNot {
			kids = make([]api.Cond, 2)
		}
		for i := range kids {
			kids[i] = api.Cond{Kind: kind, Kids: kids}
		}
		expectCheck(t, withRules(covered(kids[0])), false)
	}
	expectCheck(t, withRules(covered(nested(not, 60000, all))), false)
	expectCheck(t, withRules(covered(nested(both, 60000, all))), false)
}

// Promise 10.2: ranks, exceptions, and what is set.
func TestRules(t *testing.T) {
	change := func(f func(r *api.Rule)) api.Rule {
		r := covered(all)
		f(&r)
		return r
	}
	expect := func(ok bool, f func(r *api.Rule)) {
		t.Helper()
		r := change(f)
		for _, l := range [][]api.Rule{{r}, {covered(out), r}, {r, covered(out)}} {
			expectCheck(t, withRules(l...), ok)
		}
	}
	for rank, ok := range map[int]bool{0: true, 1: true, 9998: true, 9999: true, -1: false, 10000: false, math.MaxInt: false, math.MinInt: false} {
		expect(ok, func(r *api.Rule) { r.Rank = rank })
	}
	for count := range 4 {
		expect(count <= 1, func(r *api.Rule) { r.Unless = slices.Repeat([]api.Cond{out}, count) })
	}
	expect(true, func(r *api.Rule) { r.Unless = []api.Cond{} })
	expect(false, func(r *api.Rule) { r.Sets = nil })
	expect(false, func(r *api.Rule) { r.Sets = []api.Set{} })
	for _, what := range []int{-1, 0, 5, 6, math.MaxInt, math.MinInt} {
		expect(false, func(r *api.Rule) { r.Sets = []api.Set{{What: what}} })
		expect(false, func(r *api.Rule) { r.Sets = append(r.Sets, api.Set{What: what}) })
	}
	most := map[int]int64{api.SCover: 1, api.SDeduct: 1, api.SCopay: api.MaxCents, api.SCoins: 10000}
	for what, n := range most {
		for value, ok := range map[int64]bool{0: true, 1: true, n - 1: true, n: true, n + 1: false, -1: false, math.MaxInt64: false, math.MinInt64: false} {
			expect(ok, func(r *api.Rule) { r.Sets = []api.Set{{What: what, N: value}} })
		}
	}
}

// Promise 10.2: one of each may be set, in any order, and none a second time.
func TestSets(t *testing.T) {
	var grow func(l []api.Set)
	grow = func(l []api.Set) {
		seen := map[int]int{}
		ok := len(l) > 0
		for _, s := range l {
			seen[s.What]++
			ok = ok && seen[s.What] == 1
		}
		r := covered(all)
		r.Sets = l
		expectCheck(t, withRules(r), ok)
		if len(l) == 5 {
			return
		}
		for what := api.SCover; what <= api.SCoins; what++ {
			grow(append(slices.Clone(l), api.Set{What: what, N: int64(len(l) % 2)}))
		}
	}
	grow(nil)
	r := covered(all)
	r.Sets = make([]api.Set, 1<<20)
	expectCheck(t, withRules(r), false)
}

// Promise 10.3: the mode, and each limit at its bounds.
func TestCheck(t *testing.T) {
	expectCheck(t, api.Plan{}, true)
	for mode, ok := range map[int]bool{0: true, 1: true, 2: false, -1: false, math.MaxInt: false, math.MinInt: false} {
		p := withRules(covered(all))
		p.Mode = mode
		expectCheck(t, p, ok)
	}
	// All ways in which four small amounts stand to one another, and those at the upper bound.
	for _, from := range []int64{-1, 0, api.MaxCents - 2} {
		l := []int64{from, from + 1, from + 2, from + 3}
		for i := range 256 {
			p := api.Plan{IndDed: l[i&3], FamDed: l[i>>2&3], IndOop: l[i>>4&3], FamOop: l[i>>6&3]}
			ok := !(p.IndDed > p.FamDed) && !(p.IndDed > p.IndOop) && !(p.FamDed > p.FamOop) && !(p.IndOop > p.FamOop)
			for _, a := range []int64{p.IndDed, p.FamDed, p.IndOop, p.FamOop} {
				ok = ok && a >= 0 && a <= 10000000000000
			}
			expectCheck(t, p, ok)
			p.Mode = 1
			expectCheck(t, p, ok)
		}
	}
	for _, a := range []int64{math.MinInt64, math.MaxInt64, api.MaxCents + 1} {
		expectCheck(t, api.Plan{IndDed: a, FamDed: a, IndOop: a, FamOop: a}, false)
		expectCheck(t, api.Plan{FamOop: a}, false)
		expectCheck(t, api.Plan{FamDed: a, IndOop: a, FamOop: a}, false)
	}
	// The deductible of a family and the limit of a member may stand to one another in any way.
	expectCheck(t, api.Plan{FamDed: 9, IndOop: 5, FamOop: 9}, true)
	expectCheck(t, api.Plan{FamDed: 5, IndOop: 9, FamOop: 9}, true)
}

// Promise 10.3: so many rules, and which one of them is wrong.
func TestCheckRules(t *testing.T) {
	if api.MaxRules != 64 {
		t.Fatal(api.MaxRules)
	}
	for _, count := range []int{0, 1, 2, 63, 64, 65, 66, 1000} {
		expectCheck(t, withRules(slices.Repeat([]api.Rule{covered(all)}, count)...), count <= 64)
	}
	for at := range 64 {
		l := slices.Repeat([]api.Rule{covered(all)}, 64)
		l[at].Rank = -1
		expectCheck(t, withRules(l...), false)
		l[at] = api.Rule{}
		expectCheck(t, withRules(l...), false)
	}
}

// Rule R3: what is handed in stays as it is, and what lies behind a list's length plays no part.
func TestHandedIn(t *testing.T) {
	make := func() api.Plan {
		wrong := api.Cond{Kind: 99}
		r := covered(and(visits, not(mod59)))
		r.Unless = []api.Cond{out, wrong}[:1]
		r.Sets = []api.Set{{What: api.SCover, N: 1}, {What: api.SCover, N: 7}}[:1]
		r.If.Kids[1].Kids = []api.Cond{mod59, wrong}[:1]
		return withRules([]api.Rule{r, {}}[:1]...)
	}
	p := make()
	s, e := Print(p)
	if e != api.OK || s != "plan embedded member 500.00 2000.00 family 1000.00 4000.00 rule 1 if ( proc 99200 99300 and not mod 59 ) unless out set cover yes end" {
		t.Errorf("%q, %v", s, e)
	}
	expectCheck(t, p, true)
	want := make()
	if !reflect.DeepEqual(p, want) || !reflect.DeepEqual(p.Rules[:2], want.Rules[:2]) {
		t.Error("what is handed in was changed")
	}
	if !reflect.DeepEqual(p.Rules[0].Unless[:2], want.Rules[0].Unless[:2]) || !reflect.DeepEqual(p.Rules[0].Sets[:2], want.Rules[0].Sets[:2]) {
		t.Error("what lies behind a list was changed")
	}
}
