package rules

import (
	"fmt"
	"math"
	"math/rand"
	"reflect"
	"slices"
	"testing"

	"leechbook/api"
)

var (
	all   = api.Cond{}
	never = api.Cond{Kind: api.COr}
	out   = api.Cond{Kind: api.COut}
	mod59 = api.Cond{Kind: api.CMod, Lo: "59"}
	visit = api.Line{Proc: "99213", Mods: []string{"25", "59"}, Date: 20240301, Units: 3, Billed: 10000}
)

func codes(lo, hi string) api.Cond { return api.Cond{Kind: api.CProc, Lo: lo, Hi: hi} }

func mod(lo string) api.Cond { return api.Cond{Kind: api.CMod, Lo: lo} }

func units(n int64) api.Cond { return api.Cond{Kind: api.CUnits, N: n} }

func billed(n int64) api.Cond { return api.Cond{Kind: api.CBilled, N: n} }

func of(kind int, kids ...api.Cond) api.Cond { return api.Cond{Kind: kind, Kids: kids} }

func expectHolds(t *testing.T, c api.Cond, l api.Line, net int, want bool) {
	t.Helper()
	if got := Holds(c, l, net); got != want {
		t.Errorf("Holds(%.300s, %.300s, %d): %v", fmt.Sprint(c), fmt.Sprint(l), net, got)
	}
}

// Promise 11.1: all holds of every service, whatever stands beside its kind.
func TestAll(t *testing.T) {
	for _, l := range []api.Line{{}, visit} {
		for _, net := range []int{0, 1, 2, -1} {
			expectHolds(t, all, l, net, true)
			expectHolds(t, api.Cond{Lo: "x", Hi: "a", N: math.MaxInt64, Kids: []api.Cond{never}}, l, net, true)
		}
	}
}

// Promise 11.1: a code from Lo to Hi, both of them too, byte by byte.
func TestCodes(t *testing.T) {
	for _, c := range []struct {
		proc, lo, hi string
		want         bool
	}{
		{"99213", "99200", "99300", true},
		{"99213", "99213", "99213", true},
		{"99213", "99213", "99300", true},
		{"99213", "99200", "99213", true},
		{"99213", "99214", "99300", false},
		{"99213", "99200", "99212", false},
		{"99213", "99300", "99200", false},
		{"99213", "99213", "99212", false},
		{"99213", "", "", false},
		{"99213", "", "99213", true},
		{"", "", "", true},
		{"", "", "99213", true},
		{"", "0", "99213", false},
		{"9921", "99210", "99219", false},
		{"9921", "9921", "99210", true},
		{"99213", "9921", "9922", true},
		{"99213", "9921", "9921", false},
		{"100", "99", "99213", false},
		{"100", "0", "99", true},
		{"J1234", "99213", "J1234", true},
		{"J1234", "A0000", "Z9999", true},
		{"j1234", "A0000", "Z9999", false},
		{"j1234", "A0000", "z9999", true},
		{"J1234", "a0000", "z9999", false},
		{"9921\x00", "9921", "99210", true},
		{"\xff", "\xf4\x8f\xbf\xbf", "\xff\x00", true},
		{"\x80", "\x7f", "\x81", true},
		{"\x80", "\xef\xbf\xbd", "\xef\xbf\xbd", false},
		{"\xc3\xa9", "e", "f", false},
	} {
		l := visit
		l.Proc = c.proc
		expectHolds(t, codes(c.lo, c.hi), l, 0, c.want)
		expectHolds(t, api.Cond{Kind: api.CProc, Lo: c.lo, Hi: c.hi, N: 7, Kids: []api.Cond{never}}, l, 1, c.want)
	}
}

// Promise 11.1: a modifier that is one of the service's, at any place, whole.
func TestMods(t *testing.T) {
	four := []string{"25", "59", "76", "LT"}
	for _, c := range []struct {
		lo   string
		mods []string
		want bool
	}{
		{"25", four, true},
		{"59", four, true},
		{"76", four, true},
		{"LT", four, true},
		{"lt", four, false},
		{"5", four, false},
		{"559", four, false},
		{"590", four, false},
		{"00", four, false},
		{"99213", four, false},
		{"", four, false},
		{"59", nil, false},
		{"59", []string{}, false},
		{"59", []string{"59"}, true},
		{"59", []string{"59", "59"}, true},
		{"59", []string{"5959"}, false},
		{"", nil, false},
		{"", []string{""}, true},
		{"9", []string{"1", "2", "3", "4", "5", "6", "7", "8", "9"}, true},
	} {
		l := visit
		l.Mods = c.mods
		expectHolds(t, mod(c.lo), l, 0, c.want)
		expectHolds(t, api.Cond{Kind: api.CMod, Lo: c.lo, Hi: "25", N: 7, Kids: []api.Cond{never}}, l, 1, c.want)
	}
}

// Promise 11.1: units above N, and what is billed above N; at N they are not.
func TestAbove(t *testing.T) {
	for _, n := range []int64{0, 1, 2, 3, 9998, 9999, api.MaxCents, -1, -2, math.MaxInt64 - 1, math.MinInt64, 1 << 32, math.MaxInt32, math.MinInt32} {
		for _, by := range []int64{-1, 0, 1} {
			if n == math.MinInt64 && by < 0 {
				continue
			}
			few := api.Line{Units: int(n + by), Billed: 5000}
			expectHolds(t, units(n), few, 0, by > 0)
			cheap := api.Line{Units: 5000, Billed: n + by}
			expectHolds(t, billed(n), cheap, 0, by > 0)
			expectHolds(t, api.Cond{Kind: api.CUnits, Lo: "99213", Hi: "0", N: n, Kids: []api.Cond{never}}, few, 1, by > 0)
			expectHolds(t, api.Cond{Kind: api.CBilled, Lo: "99213", Hi: "0", N: n, Kids: []api.Cond{never}}, cheap, 1, by > 0)
		}
	}
	expectHolds(t, units(math.MaxInt64), api.Line{Units: math.MaxInt}, 0, false)
	expectHolds(t, units(math.MinInt64), api.Line{Units: math.MaxInt}, 0, true)
	expectHolds(t, billed(math.MaxInt64), api.Line{Billed: math.MaxInt64}, 0, false)
	expectHolds(t, billed(math.MinInt64), api.Line{Billed: math.MaxInt64}, 0, true)
	// What another payer paid, and the day, are not what is asked for.
	expectHolds(t, billed(100), api.Line{Units: 9999, Billed: 100, Prior: 5000, Date: 20240301}, 0, false)
	expectHolds(t, units(1), api.Line{Units: 1, Billed: 9999, Prior: 5000, Date: 20240301}, 0, false)
}

// Promise 11.1: out is what has net 1, and no other net.
func TestOut(t *testing.T) {
	for _, net := range []int{0, 1, 2, 3, -1, -2, 10, 256, 257, 1<<32 + 1, math.MaxInt, math.MinInt} {
		expectHolds(t, out, visit, net, net == 1)
		expectHolds(t, api.Cond{Kind: api.COut, Lo: "99213", Hi: "99213", N: 1, Kids: []api.Cond{never}}, api.Line{}, net, net == 1)
	}
}

// Promise 11.1: not, and, or look at the first of Kids, or the first two; one that is not there does not hold.
func TestKids(t *testing.T) {
	for _, c := range []struct {
		kids         []api.Cond
		not, and, or bool
	}{
		{nil, true, false, false},
		{[]api.Cond{}, true, false, false},
		{[]api.Cond{all}, false, false, true},
		{[]api.Cond{never}, true, false, false},
		{[]api.Cond{all, all}, false, true, true},
		{[]api.Cond{all, never}, false, false, true},
		{[]api.Cond{never, all}, true, false, true},
		{[]api.Cond{never, never}, true, false, false},
		{[]api.Cond{all, all, never}, false, true, true},
		{[]api.Cond{all, never, all}, false, false, true},
		{[]api.Cond{never, never, all}, true, false, false},
		{[]api.Cond{never, all, never}, true, false, true},
	} {
		for _, net := range []int{0, 1} {
			for _, with := range []api.Cond{{}, {Lo: "25", Hi: "99213", N: 1}} {
				with.Kids = c.kids
				with.Kind = api.CNot
				expectHolds(t, with, visit, net, c.not)
				with.Kind = api.CAnd
				expectHolds(t, with, visit, net, c.and)
				with.Kind = api.COr
				expectHolds(t, with, visit, net, c.or)
			}
		}
	}
}

// Promise 11.1: what is asked of a kid is asked of the same service and the same net.
func TestKidsAreAskedTheSame(t *testing.T) {
	for _, kid := range []struct {
		c    api.Cond
		l    api.Line
		net  int
		want bool
	}{
		{codes("99213", "99213"), visit, 0, true},
		{codes("99214", "99300"), visit, 0, false},
		{mod59, visit, 0, true},
		{mod59, api.Line{}, 0, false},
		{units(2), visit, 0, true},
		{units(3), visit, 0, false},
		{billed(9999), visit, 0, true},
		{billed(10000), visit, 0, false},
		{out, visit, 1, true},
		{out, visit, 0, false},
	} {
		expectHolds(t, kid.c, kid.l, kid.net, kid.want)
		expectHolds(t, of(api.CNot, kid.c), kid.l, kid.net, !kid.want)
		expectHolds(t, of(api.CNot, of(api.CNot, kid.c)), kid.l, kid.net, kid.want)
		expectHolds(t, of(api.CAnd, kid.c, all), kid.l, kid.net, kid.want)
		expectHolds(t, of(api.CAnd, all, kid.c), kid.l, kid.net, kid.want)
		expectHolds(t, of(api.COr, kid.c, never), kid.l, kid.net, kid.want)
		expectHolds(t, of(api.COr, never, kid.c), kid.l, kid.net, kid.want)
	}
}

// Promise 11.1: a condition of another kind does not hold, so its opposite does.
func TestOtherKinds(t *testing.T) {
	for _, kind := range []int{-1, -2, 9, 10, 16, 256, 264, 1 << 32, math.MaxInt, math.MinInt} {
		for _, kids := range [][]api.Cond{nil, {all}, {all, all}} {
			c := api.Cond{Kind: kind, Lo: "25", Hi: "99213", N: -1, Kids: kids}
			expectHolds(t, c, visit, 0, false)
			expectHolds(t, c, visit, 1, false)
			expectHolds(t, of(api.CNot, c), visit, 1, true)
			expectHolds(t, of(api.CAnd, all, c), visit, 1, false)
			expectHolds(t, of(api.COr, c, all), visit, 1, true)
		}
	}
}

// Promise P0 at the bound of rule R7: as many conditions within one another as may be.
func TestDepth(t *testing.T) {
	shapes := []func(api.Cond) api.Cond{
		func(c api.Cond) api.Cond { return of(api.CAnd, all, c) },
		func(c api.Cond) api.Cond { return of(api.CAnd, c, all) },
		func(c api.Cond) api.Cond { return of(api.COr, never, c) },
		func(c api.Cond) api.Cond { return of(api.COr, c, never) },
	}
	for _, about := range []int{api.MaxNest - 1, api.MaxNest, 1<<16 - 1} {
		for _, shape := range shapes {
			c := out
			for range about {
				c = shape(c)
			}
			expectHolds(t, c, visit, 0, false)
			expectHolds(t, c, visit, 1, true)
		}
		c := out
		for range about {
			c = of(api.CNot, c)
		}
		even := about%2 == 0
		expectHolds(t, c, visit, 0, !even)
		expectHolds(t, c, visit, 1, even)
	}
}

// Promise 11.2: a rule applies where If holds, and none of Unless, however many these are.
func TestApplies(t *testing.T) {
	for _, c := range []struct {
		rule    api.Rule
		in, out bool
	}{
		{api.Rule{}, true, true},
		{api.Rule{If: all}, true, true},
		{api.Rule{If: never}, false, false},
		{api.Rule{If: out}, false, true},
		{api.Rule{If: all, Unless: []api.Cond{}}, true, true},
		{api.Rule{If: all, Unless: []api.Cond{out}}, true, false},
		{api.Rule{If: out, Unless: []api.Cond{out}}, false, false},
		{api.Rule{If: out, Unless: []api.Cond{of(api.CNot, out)}}, false, true},
		{api.Rule{If: all, Unless: []api.Cond{all}}, false, false},
		{api.Rule{If: never, Unless: []api.Cond{never}}, false, false},
		{api.Rule{If: never, Unless: []api.Cond{all}}, false, false},
		{api.Rule{If: all, Unless: []api.Cond{never}}, true, true},
		{api.Rule{If: all, Unless: []api.Cond{never, out}}, true, false},
		{api.Rule{If: all, Unless: []api.Cond{out, never}}, true, false},
		{api.Rule{If: all, Unless: []api.Cond{never, never}}, true, true},
		{api.Rule{If: all, Unless: []api.Cond{never, never, all}}, false, false},
		{api.Rule{If: all, Unless: []api.Cond{all, never, never}}, false, false},
		{api.Rule{If: mod59, Unless: []api.Cond{units(3)}}, true, true},
		{api.Rule{If: mod59, Unless: []api.Cond{units(2)}}, false, false},
		{api.Rule{If: mod("60"), Unless: []api.Cond{units(3)}}, false, false},
		{api.Rule{If: all, Unless: []api.Cond{{Kind: 9}}}, true, true},
		{api.Rule{If: api.Cond{Kind: -1}}, false, false},
		{api.Rule{If: all, Unless: []api.Cond{of(api.CNot)}}, false, false},
		{api.Rule{If: of(api.CNot)}, true, true},
	} {
		// Neither its rank nor what it sets has a say in it.
		for _, rank := range []int{0, 1, 9999, -1, math.MinInt} {
			for _, sets := range [][]api.Set{nil, {{What: api.SCover, N: 1}}, {{What: 9, N: -1}}} {
				r := c.rule
				r.Rank, r.Sets = rank, sets
				if in, out := Applies(r, visit, 0), Applies(r, visit, 1); in != c.in || out != c.out {
					t.Errorf("Applies(%v): %v in the network, %v out of it", r, in, out)
				}
			}
		}
	}
}

func rule(rank int, c api.Cond, sets ...api.Set) api.Rule {
	return api.Rule{Rank: rank, If: c, Sets: sets}
}

func unless(c api.Cond, r api.Rule) api.Rule {
	r.Unless = append(slices.Clone(r.Unless), c)
	return r
}

func cover(n int64) api.Set { return api.Set{What: api.SCover, N: n} }

func deduct(n int64) api.Set { return api.Set{What: api.SDeduct, N: n} }

func copay(n int64) api.Set { return api.Set{What: api.SCopay, N: n} }

func coins(n int64) api.Set { return api.Set{What: api.SCoins, N: n} }

func expectBenefit(t *testing.T, l []api.Rule, net int, want api.Benefit) {
	t.Helper()
	// The limits and the mode of a plan have no say in it.
	for _, p := range []api.Plan{{}, {Mode: 1, IndDed: 1, FamDed: 2, IndOop: 3, FamOop: 4}, {Mode: -1, IndDed: -1}} {
		p.Rules = l
		if got := Resolve(p, visit, net); got != want {
			t.Errorf("Resolve(%.500s, net %d): %+v, want %+v", fmt.Sprint(p), net, got, want)
		}
	}
}

// Promise 11.3: the chapter's example, and the sixth one of the whole document.
func TestExamples(t *testing.T) {
	plain := api.Line{Proc: "99213"}
	p := api.Plan{Rules: []api.Rule{rule(1, all, cover(1), coins(2000)), rule(5, mod59, coins(100))}}
	if got := Resolve(p, visit, 0); got != (api.Benefit{Cover: true, Coins: 100}) {
		t.Errorf("with 59: %+v", got)
	}
	if got := Resolve(p, plain, 0); got != (api.Benefit{Cover: true, Coins: 2000}) {
		t.Errorf("without 59: %+v", got)
	}
	l := []api.Rule{unless(out, rule(5, all, copay(1000))), rule(1, all, copay(3000))}
	expectBenefit(t, l, 0, api.Benefit{Copay: 1000})
	expectBenefit(t, l, 1, api.Benefit{Copay: 3000})
}

// Promise 11.3: where no rule applies, or none sets it, each of the four is 0 or false.
func TestNothingSet(t *testing.T) {
	for _, l := range [][]api.Rule{
		nil,
		{},
		{rule(1, all)},
		{rule(1, never, cover(1), deduct(1), copay(500), coins(2000))},
		{rule(1, out, cover(1), deduct(1), copay(500), coins(2000))},
		{unless(all, rule(1, all, cover(1), deduct(1), copay(500), coins(2000)))},
		{rule(1, all, api.Set{What: 0, N: 1}, api.Set{What: 5, N: 1}, api.Set{What: -1, N: 1})},
		{rule(1, all, api.Set{What: math.MaxInt, N: 1}, api.Set{What: math.MinInt, N: 1}, api.Set{What: 256 + 1, N: 1})},
	} {
		expectBenefit(t, l, 0, api.Benefit{})
	}
}

// Promise 11.3: each of the four by itself, from what sets it.
func TestEachSet(t *testing.T) {
	for _, c := range []struct {
		sets []api.Set
		want api.Benefit
	}{
		{[]api.Set{cover(1)}, api.Benefit{Cover: true}},
		{[]api.Set{deduct(1)}, api.Benefit{Deduct: true}},
		{[]api.Set{copay(1)}, api.Benefit{Copay: 1}},
		{[]api.Set{coins(1)}, api.Benefit{Coins: 1}},
		{[]api.Set{cover(0), deduct(0), copay(0), coins(0)}, api.Benefit{}},
		{[]api.Set{cover(1), deduct(1), copay(500), coins(2000)}, api.Benefit{Cover: true, Deduct: true, Copay: 500, Coins: 2000}},
		{[]api.Set{coins(2000), copay(500), deduct(1), cover(1)}, api.Benefit{Cover: true, Deduct: true, Copay: 500, Coins: 2000}},
		{[]api.Set{copay(api.MaxCents), coins(10000)}, api.Benefit{Copay: api.MaxCents, Coins: 10000}},
		// What may not be set is told all the same: it is asked of no plan here.
		{[]api.Set{cover(2), deduct(2)}, api.Benefit{}},
		{[]api.Set{cover(-1), deduct(-1)}, api.Benefit{}},
		{[]api.Set{cover(math.MaxInt64), deduct(257)}, api.Benefit{}},
		{[]api.Set{copay(-1), coins(-2)}, api.Benefit{Copay: -1, Coins: -2}},
		{[]api.Set{copay(math.MaxInt64), coins(math.MinInt64)}, api.Benefit{Copay: math.MaxInt64, Coins: math.MinInt64}},
		{[]api.Set{{What: 5, N: 7}, cover(1), {What: 0, N: 7}, coins(3)}, api.Benefit{Cover: true, Coins: 3}},
	} {
		for _, rank := range []int{0, 1, 9999, 10000, math.MaxInt} {
			expectBenefit(t, []api.Rule{rule(rank, all, c.sets...)}, 0, c.want)
		}
	}
}

// Promise 11.3: the first of a rule's Sets with one What.
func TestSetTwice(t *testing.T) {
	expectBenefit(t, []api.Rule{rule(3, all, copay(1), copay(2), copay(3))}, 0, api.Benefit{Copay: 1})
	expectBenefit(t, []api.Rule{rule(3, all, copay(0), coins(5), copay(2), coins(4))}, 0, api.Benefit{Coins: 5})
	expectBenefit(t, []api.Rule{rule(0, all, cover(0), cover(1), deduct(1), deduct(0))}, 0, api.Benefit{Deduct: true})
	expectBenefit(t, []api.Rule{rule(0, all, cover(2), cover(1))}, 0, api.Benefit{})
	expectBenefit(t, []api.Rule{rule(1, all, copay(7)), rule(2, all, copay(1), copay(2))}, 0, api.Benefit{Copay: 1})
	expectBenefit(t, []api.Rule{rule(2, all, copay(1), copay(2)), rule(1, all, copay(7))}, 0, api.Benefit{Copay: 1})
	expectBenefit(t, []api.Rule{rule(2, all, copay(1)), rule(2, all, copay(2), copay(3))}, 0, api.Benefit{Copay: 1})
}

// Promise 11.3: of rules with one Rank the first one that applies and sets it.
func TestOneRank(t *testing.T) {
	for _, rank := range []int{0, 1, 9999, math.MaxInt} {
		expectBenefit(t, []api.Rule{rule(rank, all, copay(1)), rule(rank, all, copay(2)), rule(rank, all, copay(3))}, 0, api.Benefit{Copay: 1})
		expectBenefit(t, []api.Rule{rule(rank, out, copay(1)), rule(rank, all, copay(2)), rule(rank, all, copay(3))}, 0, api.Benefit{Copay: 2})
		expectBenefit(t, []api.Rule{unless(mod59, rule(rank, all, copay(1))), rule(rank, all, copay(2)), rule(rank, all, copay(3))}, 0, api.Benefit{Copay: 2})
		expectBenefit(t, []api.Rule{rule(rank, all, copay(0)), rule(rank, all, copay(2))}, 0, api.Benefit{})
		expectBenefit(t, []api.Rule{rule(rank, all, cover(0)), rule(rank, all, cover(1))}, 0, api.Benefit{})
		expectBenefit(t, []api.Rule{rule(rank, all, cover(1)), rule(rank, all, cover(0))}, 0, api.Benefit{Cover: true})
		expectBenefit(t, []api.Rule{rule(rank, all, coins(1)), rule(rank, all, copay(2)), rule(rank, all, copay(3), coins(4), deduct(1))}, 0,
			api.Benefit{Coins: 1, Copay: 2, Deduct: true})
	}
}

// Promise 11.3: of rules with different Ranks the one with the greatest, for each of the four by itself.
func TestRanks(t *testing.T) {
	for _, c := range []struct {
		rules []api.Rule
		want  api.Benefit
	}{
		{[]api.Rule{rule(0, all, copay(1)), rule(1, all, copay(2))}, api.Benefit{Copay: 2}},
		{[]api.Rule{rule(2, all, copay(1)), rule(3, all, copay(0))}, api.Benefit{}},
		{[]api.Rule{rule(2, all, cover(1), deduct(1)), rule(3, all, cover(0))}, api.Benefit{Deduct: true}},
		{[]api.Rule{rule(2, all, cover(1), deduct(1)), rule(3, all, deduct(0))}, api.Benefit{Cover: true}},
		{[]api.Rule{rule(2, all, cover(1)), rule(3, all, cover(2))}, api.Benefit{}},
		{[]api.Rule{rule(9998, all, coins(1)), rule(9999, all, coins(2))}, api.Benefit{Coins: 2}},
		{[]api.Rule{rule(9, all, coins(1)), rule(10, all, coins(2)), rule(100, all, coins(3))}, api.Benefit{Coins: 3}},
		{[]api.Rule{rule(1, all, coins(1)), rule(2, all, coins(2)), rule(3, out, coins(3))}, api.Benefit{Coins: 2}},
		{[]api.Rule{rule(1, all, coins(1)), unless(mod59, rule(2, all, coins(2))), rule(3, out, coins(3))}, api.Benefit{Coins: 1}},
		{[]api.Rule{rule(1, all, cover(1), copay(5)), rule(2, all, deduct(1), copay(6)), rule(3, all, coins(7))},
			api.Benefit{Cover: true, Deduct: true, Copay: 6, Coins: 7}},
		{[]api.Rule{rule(4, all, cover(1)), rule(3, all, deduct(1)), rule(2, all, copay(1)), rule(1, all, coins(1))},
			api.Benefit{Cover: true, Deduct: true, Copay: 1, Coins: 1}},
		{[]api.Rule{rule(256, all, coins(1)), rule(255, all, coins(2)), rule(1<<40, all, coins(3))}, api.Benefit{Coins: 3}},
		{[]api.Rule{rule(math.MaxInt, all, coins(1)), rule(math.MaxInt-1, all, coins(2))}, api.Benefit{Coins: 1}},
		{[]api.Rule{rule(7, all), rule(8, all, api.Set{What: 9, N: 9}), rule(6, all, coins(2))}, api.Benefit{Coins: 2}},
	} {
		// Promise 11.4: with no Rank twice, the order of the rules plays no part.
		orders(c.rules, func(l []api.Rule) { expectBenefit(t, l, 0, c.want) })
	}
}

// orders hands on the rules in each order.
func orders(l []api.Rule, each func([]api.Rule)) {
	if len(l) == 0 {
		each(nil)
		return
	}
	for i, first := range l {
		rest := append(slices.Clone(l[:i]), l[i+1:]...)
		orders(rest, func(behind []api.Rule) { each(append([]api.Rule{first}, behind...)) })
	}
}

// Promise 11.3: Ranks are from 0 on; a rule with one below has no say.
func TestRanksBelowNothing(t *testing.T) {
	for _, rank := range []int{-1, -2, -9999, math.MinInt} {
		expectBenefit(t, []api.Rule{rule(rank, all, cover(1), deduct(1), copay(1), coins(1))}, 0, api.Benefit{})
		orders([]api.Rule{rule(rank, all, cover(1), copay(1), coins(1)), rule(0, all, copay(2))}, func(l []api.Rule) {
			expectBenefit(t, l, 0, api.Benefit{Copay: 2})
		})
	}
}

// Promise 11.3: more rules than a plan may have are looked at all the same.
func TestManyRules(t *testing.T) {
	for _, n := range []int{api.MaxRules, api.MaxRules + 1, 1000} {
		var l []api.Rule
		for i := range n {
			l = append(l, rule(i, all, copay(int64(i)), coins(int64(i)+1)))
		}
		want := api.Benefit{Copay: int64(n) - 1, Coins: int64(n)}
		expectBenefit(t, l, 0, want)
		slices.Reverse(l)
		expectBenefit(t, l, 0, want)
	}
}

// judged is Holds by another way: the condition is laid out, each one behind its kids, and worked off from a stack.
func judged(c api.Cond, l api.Line, net int) bool {
	var laid []api.Cond
	open := []api.Cond{c}
	for len(open) > 0 {
		last := open[len(open)-1]
		open = append(open[:len(open)-1], asked(last)...)
		laid = append(laid, last)
	}
	slices.Reverse(laid)
	var known []int
	for _, one := range laid {
		n := len(asked(one))
		sum := 0
		for _, k := range known[len(known)-n:] {
			sum += k
		}
		known = known[:len(known)-n]
		known = append(known, verdict(one, n, sum, l, net))
	}
	return known[0] == 1
}

// asked are those of a condition's kids that it looks at.
func asked(c api.Cond) []api.Cond {
	most := map[int]int{api.CNot: 1, api.CAnd: 2, api.COr: 2}[c.Kind]
	return c.Kids[:min(most, len(c.Kids))]
}

// verdict is 1 where a condition holds of which so many kids hold.
func verdict(c api.Cond, n, held int, l api.Line, net int) int {
	ok := false
	switch c.Kind {
	case api.CAll:
		ok = true
	case api.CProc:
		sorted := []string{c.Lo, l.Proc, c.Hi}
		slices.Sort(sorted)
		ok = sorted[0] == c.Lo && sorted[1] == l.Proc && sorted[2] == c.Hi
	case api.CMod:
		for _, m := range l.Mods {
			ok = ok || m == c.Lo
		}
	case api.CUnits:
		ok = max(int64(l.Units), c.N) != c.N
	case api.CBilled:
		ok = max(l.Billed, c.N) != c.N
	case api.COut:
		ok = net == 1
	case api.CNot:
		ok = held == 0
	case api.CAnd:
		ok = held == 2
	case api.COr:
		ok = held > 0
	}
	if ok {
		return 1
	}
	return 0
}

// resolved is Resolve by another way: the rules that apply are put in order, and the first that sets each of the four is taken.
func resolved(p api.Plan, l api.Line, net int) api.Benefit {
	var apply []api.Rule
	for _, r := range p.Rules {
		ok := r.Rank >= 0 && judged(r.If, l, net)
		for _, c := range r.Unless {
			ok = ok && !judged(c, l, net)
		}
		if ok {
			apply = append(apply, r)
		}
	}
	slices.SortStableFunc(apply, func(a, b api.Rule) int {
		if a.Rank > b.Rank {
			return -1
		}
		if a.Rank < b.Rank {
			return 1
		}
		return 0
	})
	first := func(what int) int64 {
		for _, r := range apply {
			for _, s := range r.Sets {
				if s.What == what {
					return s.N
				}
			}
		}
		return 0
	}
	return api.Benefit{Cover: first(api.SCover) == 1, Deduct: first(api.SDeduct) == 1, Copay: first(api.SCopay), Coins: first(api.SCoins)}
}

var someCodes = []string{"", "9921", "99212", "99213", "99214", "A0001", "a0001"}

var someMods = []string{"", "25", "59", "LT"}

func chanceCond(chance *rand.Rand, deep int) api.Cond {
	c := api.Cond{Kind: chance.Intn(11) - 1}
	if deep > 4 && c.Kind >= api.CNot {
		c.Kind = chance.Intn(6)
	}
	c.Lo, c.Hi = someCodes[chance.Intn(len(someCodes))], someCodes[chance.Intn(len(someCodes))]
	if c.Kind == api.CMod {
		c.Lo = someMods[chance.Intn(len(someMods))]
	}
	c.N = int64(chance.Intn(6) - 1)
	for range chance.Intn(4) {
		if c.Kind < api.CNot && chance.Intn(4) > 0 {
			break
		}
		c.Kids = append(c.Kids, chanceCond(chance, deep+1))
		if deep > 4 {
			break
		}
	}
	return c
}

func chanceLine(chance *rand.Rand) api.Line {
	l := api.Line{Proc: someCodes[chance.Intn(len(someCodes))], Units: chance.Intn(6) - 1, Billed: int64(chance.Intn(6) - 1)}
	for range chance.Intn(4) {
		l.Mods = append(l.Mods, someMods[chance.Intn(len(someMods))])
	}
	return l
}

func chancePlan(chance *rand.Rand, ranks func(i int) int) api.Plan {
	p := api.Plan{Mode: chance.Intn(3), IndDed: int64(chance.Intn(3))}
	for i := range chance.Intn(8) {
		r := api.Rule{Rank: ranks(i), If: chanceCond(chance, 1)}
		for range chance.Intn(3) {
			r.Unless = append(r.Unless, chanceCond(chance, 3))
		}
		for range chance.Intn(5) {
			r.Sets = append(r.Sets, api.Set{What: chance.Intn(6), N: int64(chance.Intn(4) - 1)})
		}
		p.Rules = append(p.Rules, r)
	}
	return p
}

// Promises 11.1 to 11.3 for conditions, rules and plans of all sorts, held against another way to the same.
func TestChance(t *testing.T) {
	chance := rand.New(rand.NewSource(11))
	holding := 0
	for range 40000 {
		p := chancePlan(chance, func(int) int { return chance.Intn(5) - 1 })
		l, net := chanceLine(chance), chance.Intn(3)
		for _, r := range p.Rules {
			want := judged(r.If, l, net)
			expectHolds(t, r.If, l, net, want)
			for _, c := range r.Unless {
				want = want && !judged(c, l, net)
			}
			if got := Applies(r, l, net); got != want {
				t.Fatalf("Applies(%v, %v, %d): %v", r, l, net, got)
			}
			if want {
				holding++
			}
		}
		if got, want := Resolve(p, l, net), resolved(p, l, net); got != want {
			t.Fatalf("Resolve(%v, %v, %d): %+v, want %+v", p, l, net, got, want)
		}
	}
	if holding < 10000 {
		t.Errorf("just %d rules applied", holding)
	}
}

// Promise 11.4: without the rules that do not apply a plan says the same, and so it does in another order where no Rank is there twice.
func TestNoPart(t *testing.T) {
	chance := rand.New(rand.NewSource(114))
	for range 20000 {
		of := chance.Perm(20)
		p := chancePlan(chance, func(i int) int { return of[i] })
		l, net := chanceLine(chance), chance.Intn(2)
		want := Resolve(p, l, net)
		apply := p
		apply.Rules = slices.DeleteFunc(slices.Clone(p.Rules), func(r api.Rule) bool { return !Applies(r, l, net) })
		if got := Resolve(apply, l, net); got != want {
			t.Fatalf("of %v without what does not apply: %+v, want %+v", p, got, want)
		}
		chance.Shuffle(len(p.Rules), func(i, k int) { p.Rules[i], p.Rules[k] = p.Rules[k], p.Rules[i] })
		if got := Resolve(p, l, net); got != want {
			t.Fatalf("of %v in another order: %+v, want %+v", p, got, want)
		}
	}
}

// Rule R3: what lies behind a list's length is not read.
func TestBehindTheLength(t *testing.T) {
	kids := []api.Cond{all, all}
	expectHolds(t, of(api.CNot, kids[:0]...), visit, 0, true)
	expectHolds(t, of(api.CAnd, kids[:1]...), visit, 0, false)
	expectHolds(t, of(api.COr, kids[:0]...), visit, 0, false)
	l := visit
	l.Mods = visit.Mods[:1]
	expectHolds(t, mod59, l, 0, false)
	r := rule(1, all, copay(1), coins(2))
	r.Unless = []api.Cond{all}[:0]
	r.Sets = r.Sets[:1]
	expectBenefit(t, []api.Rule{r, rule(2, all, cover(1), copay(9))}[:1], 0, api.Benefit{Copay: 1})
}

// deepCond is a condition in new memory.
func deepCond(c api.Cond) api.Cond {
	c.Kids = slices.Clone(c.Kids)
	for i, kid := range c.Kids {
		c.Kids[i] = deepCond(kid)
	}
	return c
}

func deepPlan(p api.Plan) api.Plan {
	p.Rules = slices.Clone(p.Rules)
	for i, r := range p.Rules {
		r.If = deepCond(r.If)
		r.Unless = deepCond(api.Cond{Kids: r.Unless}).Kids
		r.Sets = slices.Clone(r.Sets)
		p.Rules[i] = r
	}
	return p
}

// Rule R3: what is handed in is not changed; promise P6: what is asked twice is answered alike.
func TestHandedIn(t *testing.T) {
	chance := rand.New(rand.NewSource(3))
	for range 2000 {
		p, l := chancePlan(chance, func(int) int { return chance.Intn(3) }), chanceLine(chance)
		kept, mods := deepPlan(p), slices.Clone(l.Mods)
		if first, again := Resolve(p, l, 1), Resolve(p, l, 1); first != again {
			t.Fatalf("Resolve(%v, %v): %+v, then %+v", p, l, first, again)
		}
		if !reflect.DeepEqual(p, kept) || !slices.Equal(l.Mods, mods) {
			t.Fatalf("changed: %v, %v", p, l.Mods)
		}
	}
}
