package judge

import (
	"math"
	"slices"
	"strings"
	"testing"

	"leechbook/accs"
	"leechbook/api"
	"leechbook/claim"
	"leechbook/edits"
	"leechbook/fees"
	"leechbook/plan"
)

const (
	most = api.MaxCents
	day  = 20240301
	next = 20240302
)

func member(year int, who string, deduct, oop int64) api.Acc {
	return api.Acc{Who: who, Year: year, Deduct: deduct, Oop: oop}
}

func family(year int, who string, deduct, oop int64) api.Acc {
	return api.Acc{Who: who, Family: true, Year: year, Deduct: deduct, Oop: oop}
}

// proc is the condition of one code.
func proc(code string) api.Cond { return api.Cond{Kind: api.CProc, Lo: code, Hi: code} }

func rule(rank int, c api.Cond, sets ...api.Set) api.Rule {
	return api.Rule{Rank: rank, If: c, Sets: sets}
}

func cover(n int64) api.Set  { return api.Set{What: api.SCover, N: n} }
func deduct(n int64) api.Set { return api.Set{What: api.SDeduct, N: n} }
func copay(n int64) api.Set  { return api.Set{What: api.SCopay, N: n} }
func coins(n int64) api.Set  { return api.Set{What: api.SCoins, N: n} }

// sample are tables by which a deductible of 50.00 and a fifth are borne.
func sample() api.Tables {
	return api.Tables{
		Plan: api.Plan{
			IndDed: 5000, FamDed: 8000, IndOop: 10000, FamOop: 20000,
			Rules: []api.Rule{rule(1, api.Cond{}, cover(1), deduct(1), coins(2000))},
		},
		Fees: []api.Fee{
			{Proc: "80050", From: 20200101, Cents: 3000},
			{Proc: "99213", From: 20200101, Cents: 7550},
			{Proc: "99213", Net: 1, From: 20200101, Cents: 6000},
			{Proc: "J1100", From: 20200101, Cents: 100},
		},
	}
}

func line(code string, date int, billed int64, mods ...string) api.Line {
	return api.Line{Proc: code, Mods: mods, Date: date, Units: 1, Billed: billed}
}

func claimOf(net int, l ...api.Line) api.Claim {
	return api.Claim{Id: "C1", Member: "M1", Family: "F1", Net: net, Does: api.Original, Lines: l}
}

func expectCheck(t *testing.T, tab api.Tables, want api.Errno) {
	t.Helper()
	if e := Check(tab); e != want {
		t.Errorf("Check of %+v: %d, want %d", tab, e, want)
	}
}

func expectOuts(t *testing.T, got []api.Out, e api.Errno, want ...api.Out) {
	t.Helper()
	if e != api.OK || !slices.Equal(got, want) {
		t.Errorf("%+v, %d, want %+v", got, e, want)
	}
}

func expectRows(t *testing.T, got []api.Acc, want ...api.Acc) {
	t.Helper()
	if !slices.Equal(got, want) {
		t.Errorf("rows %+v, want %+v", got, want)
	}
	if e := accs.Check(got); e != api.OK {
		t.Errorf("rows %+v may not be: %d", got, e)
	}
}

func expectNone(t *testing.T, outs []api.Out, rows []api.Acc, e, want api.Errno) {
	t.Helper()
	if e != want || len(outs) != 0 || len(rows) != 0 {
		t.Errorf("%+v, %+v, %d, want nothing and %d", outs, rows, e, want)
	}
}

// expectDenied asks why each service is denied, DNone, if it is not.
func expectDenied(t *testing.T, outs []api.Out, e api.Errno, want ...int) {
	t.Helper()
	var got []int
	for _, o := range outs {
		got = append(got, o.Deny)
	}
	if e != api.OK || !slices.Equal(got, want) {
		t.Errorf("denied: %v, %d, want %v", got, e, want)
	}
}

// badPlans are plans that may not be.
func badPlans() []api.Plan {
	var l []api.Plan
	for _, spoil := range []func(*api.Plan){
		func(p *api.Plan) { p.Mode = 2 },
		func(p *api.Plan) { p.Mode = -1 },
		func(p *api.Plan) { p.IndDed = -1 },
		func(p *api.Plan) { p.FamOop = most + 1 },
		func(p *api.Plan) { p.IndDed = p.FamDed + 1 },
		func(p *api.Plan) { p.IndOop = p.FamOop + 1 },
		func(p *api.Plan) { p.Rules = append(p.Rules, api.Rule{}) },
		func(p *api.Plan) { p.Rules = append(p.Rules, rule(-1, api.Cond{}, cover(1))) },
		func(p *api.Plan) { p.Rules = append(p.Rules, rule(1, api.Cond{Kind: api.CNot}, cover(1))) },
		func(p *api.Plan) { p.Rules = slices.Repeat(p.Rules, api.MaxRules+1) },
	} {
		p := sample().Plan
		spoil(&p)
		l = append(l, p)
	}
	return l
}

// badFees are tables of fees that may not be, with their errors.
func badFees() ([][]api.Fee, []api.Errno) {
	good := sample().Fees
	with := func(f api.Fee) []api.Fee { return append([]api.Fee{f}, good...) }
	tables := [][]api.Fee{
		with(api.Fee{Proc: "1", From: day}),
		with(api.Fee{Proc: "11111", Net: 2, From: day}),
		with(api.Fee{Proc: "11111", From: 20230229}),
		with(api.Fee{Proc: "11111", From: day, Cents: -1}),
		with(good[0]),
		with(good[1]),
		slices.Repeat(good[:1], api.MaxFees+1),
	}
	return tables, []api.Errno{api.ErrCode, api.ErrRange, api.ErrDate, api.ErrMoney, api.ErrTwice, api.ErrOrder, api.ErrLimit}
}

// badEdits are tables of edits that may not be, with their errors.
func badEdits() ([][]api.Edit, []api.Errno) {
	good := api.Edit{Kind: api.EUnits, A: "99213", N: 3}
	tables := [][]api.Edit{
		{good, {Kind: api.EUnits, A: "99213", N: 0}},
		{good, {Kind: api.EEither, A: "99213", B: "99213"}},
		slices.Repeat([]api.Edit{good}, api.MaxEdits+1),
	}
	return tables, []api.Errno{api.ErrArg, api.ErrCode, api.ErrLimit}
}

// Promise 17.1: tables that may be, those without anything in them, too.
func TestCheckGood(t *testing.T) {
	expectCheck(t, sample(), api.OK)
	expectCheck(t, api.Tables{}, api.OK)
	expectCheck(t, api.Tables{Fees: []api.Fee{}, Edits: []api.Edit{}}, api.OK)
	tab := sample()
	tab.Plan.Rules = slices.Repeat(tab.Plan.Rules, api.MaxRules)
	tab.Edits = slices.Repeat([]api.Edit{{Kind: api.EUnits, A: "99213", N: 3}}, api.MaxEdits)
	tab.Fees = nil
	for i := range api.MaxFees {
		tab.Fees = append(tab.Fees, api.Fee{Proc: "99213", From: 20200101 + 10000*(i/28) + i%28})
	}
	expectCheck(t, tab, api.OK)
}

// Promise 17.1: each table that may not be, alone and beside each other one.
func TestCheckFaults(t *testing.T) {
	feeTables, feeErrors := badFees()
	editTables, editErrors := badEdits()
	for _, p := range badPlans() {
		tab := sample()
		tab.Plan = p
		expectCheck(t, tab, api.ErrPlan)
		for _, f := range feeTables {
			tab.Fees = f
			expectCheck(t, tab, api.ErrPlan)
			for _, d := range editTables {
				tab.Edits = d
				expectCheck(t, tab, api.ErrPlan)
			}
		}
		tab.Fees = nil
		expectCheck(t, tab, api.ErrPlan)
	}
	for i, f := range feeTables {
		tab := sample()
		tab.Fees = f
		expectCheck(t, tab, feeErrors[i])
		for _, d := range editTables {
			tab.Edits = d
			expectCheck(t, tab, feeErrors[i])
		}
	}
	for i, d := range editTables {
		tab := sample()
		tab.Edits = d
		expectCheck(t, tab, editErrors[i])
	}
}

// badClaims are claims that may not be.
func badClaims() []api.Claim {
	var l []api.Claim
	for _, spoil := range []func(*api.Claim){
		func(c *api.Claim) { c.Id = "" },
		func(c *api.Claim) { c.Member = "m" },
		func(c *api.Claim) { c.Net = 2 },
		func(c *api.Claim) { c.Ref = "C0" },
		func(c *api.Claim) { c.Does, c.Ref = 2, "C0" },
		func(c *api.Claim) { c.Lines = slices.Repeat(c.Lines, api.MaxLines) },
		func(c *api.Claim) { c.Lines = nil },
		func(c *api.Claim) { c.Does, c.Ref = api.Void, "C0" },
		func(c *api.Claim) { c.Lines[1].Proc = "9921" },
		func(c *api.Claim) { c.Lines[1].Date = 20230229 },
		func(c *api.Claim) { c.Lines[1].Units = 0 },
		func(c *api.Claim) { c.Lines[1].Billed = -1 },
		func(c *api.Claim) { c.Lines[1].Prior = c.Lines[1].Billed + 1 },
		func(c *api.Claim) { c.Lines[0].Billed, c.Lines[1].Billed = most, 1 },
	} {
		c := claimOf(0, line("99213", day, 10000), line("80050", day, 4000))
		spoil(&c)
		l = append(l, c)
	}
	return l
}

// badRows are rows that may not be.
func badRows() [][]api.Acc {
	return [][]api.Acc{
		{member(2024, "M1", 0, 0)},
		{member(2024, "M1", -1, 5)},
		{member(2024, "M1", 6, 5)},
		{member(2024, "M1", 0, most+1)},
		{family(2024, "F1", 1, 2), member(2024, "M1", 1, 2)},
		{member(2024, "M1", 1, 2), member(2024, "M1", 1, 2)},
		{member(2025, "M1", 1, 2), member(2024, "M1", 1, 2)},
		{member(2024, "M2", 1, 2), member(2024, "M1", 1, 1), member(2024, "M9", 0, 0)},
	}
}

// Promise 17.4: one fault, and several together, of plan, fees, edits, claim and rows: the first of these is told.
func TestJudgeFaults(t *testing.T) {
	good := sample()
	feeTables, _ := badFees()
	editTables, _ := badEdits()
	plans := append([]api.Plan{good.Plan}, badPlans()[5:8]...)
	feeTables = append([][]api.Fee{good.Fees}, feeTables...)
	editTables = append([][]api.Edit{nil}, editTables...)
	claims := append([]api.Claim{claimOf(0, line("99213", day, 10000))}, badClaims()...)
	lists := append([][]api.Acc{{member(2024, "M1", 1, 2)}}, badRows()...)
	seen := map[api.Errno]int{}
	for _, p := range plans {
		for _, f := range feeTables {
			for _, d := range editTables {
				for _, c := range claims {
					for _, l := range lists {
						want := firstOf(plan.Check(p), fees.Check(f), edits.Check(d), claim.Check(c), accs.Check(l))
						if want == api.OK {
							continue
						}
						outs, rows, e := Judge(api.Tables{Plan: p, Fees: f, Edits: d}, c, l, nil)
						expectNone(t, outs, rows, e, want)
						seen[want]++
					}
				}
			}
		}
		if t.Failed() {
			return
		}
	}
	for _, e := range []api.Errno{api.ErrPlan, api.ErrArg, api.ErrRange, api.ErrCount, api.ErrDate, api.ErrMoney, api.ErrCode, api.ErrLimit, api.ErrOrder, api.ErrTwice} {
		if seen[e] == 0 {
			t.Errorf("error %d was never asked for", e)
		}
	}
}

func firstOf(l ...api.Errno) api.Errno {
	for _, e := range l {
		if e != api.OK {
			return e
		}
	}
	return api.OK
}

// Promise 17.4: each of the faults, by its number, and each two of them.
func TestJudgeTwoFaults(t *testing.T) {
	type asked struct {
		tab  api.Tables
		c    api.Claim
		rows []api.Acc
	}
	faults := []struct {
		spoil func(*asked)
		want  api.Errno
	}{
		{func(a *asked) { a.tab.Plan.Mode = 3 }, api.ErrPlan},
		{func(a *asked) { a.tab.Fees = append(a.tab.Fees, a.tab.Fees[3]) }, api.ErrTwice},
		{func(a *asked) { a.tab.Edits = []api.Edit{{A: "99213"}} }, api.ErrArg},
		{func(a *asked) { a.c.Lines[1].Date = 20230229 }, api.ErrDate},
		{func(a *asked) { slices.Reverse(a.rows) }, api.ErrOrder},
	}
	for i := range faults {
		for j := i; j < len(faults); j++ {
			a := asked{sample(), claimOf(0, line("99213", day, 10000), line("80050", day, 4000)), []api.Acc{member(2024, "M1", 1, 2), family(2024, "F1", 1, 2)}}
			faults[j].spoil(&a)
			if i != j {
				faults[i].spoil(&a)
			}
			outs, rows, e := Judge(a.tab, a.c, a.rows, nil)
			expectNone(t, outs, rows, e, faults[i].want)
		}
	}
}

// What stands ahead is asked by its Key alone: services there that may not be are no fault.
func TestAheadIsNotChecked(t *testing.T) {
	ahead := []api.Line{{}, {Proc: "x", Date: -1, Units: -1, Billed: -1, Prior: most + 1}, line("99213", next, math.MinInt64, "?")}
	outs, rows, e := Judge(sample(), claimOf(0, line("99213", day, 10000)), nil, ahead)
	expectOuts(t, outs, e, api.Out{Allowed: 7550, Deduct: 5000, Coins: 510, Plan: 2040, Write: 2450})
	expectRows(t, rows, member(2024, "M1", 5000, 5510), family(2024, "F1", 5000, 5510))
}

// Promises 17.2 to 17.4: the chapter's example, and the first three of the whole.
func TestExamples(t *testing.T) {
	first := line("99213", day, 10000)
	outs, rows, e := Judge(sample(), claimOf(0, first, first), nil, nil)
	want := api.Out{Allowed: 7550, Deduct: 5000, Coins: 510, Plan: 2040, Write: 2450}
	expectOuts(t, outs, e, want, api.Out{Write: 10000, Deny: 18})
	expectRows(t, rows, member(2024, "M1", 5000, 5510), family(2024, "F1", 5000, 5510))
	outs, same, e := Judge(sample(), claimOf(0, first), rows, []api.Line{first})
	expectOuts(t, outs, e, api.Out{Write: 10000, Deny: 18})
	expectRows(t, same, rows...)
	outs, rows, e = Judge(sample(), claimOf(0, line("99213", next, 10000)), rows, []api.Line{first})
	expectOuts(t, outs, e, api.Out{Allowed: 7550, Coins: 1510, Plan: 6040, Write: 2450})
	expectRows(t, rows, member(2024, "M1", 5000, 7020), family(2024, "F1", 5000, 7020))
	outs, rows, e = Judge(sample(), claimOf(0, line("99213", next, 10000)), nil, nil)
	expectOuts(t, outs, e, want)
	expectRows(t, rows, member(2024, "M1", 5000, 5510), family(2024, "F1", 5000, 5510))
}

// The fifth, the sixth and the seventh example of the whole.
func TestExamplesOfRules(t *testing.T) {
	tab := sample()
	tab.Edits = []api.Edit{{Kind: api.EBundle, A: "80050", B: "99213", Bypass: true}}
	outs, _, e := Judge(tab, claimOf(0, line("80050", day, 3000), line("99213", day, 10000)), nil, nil)
	expectDenied(t, outs, e, api.DNone, 97)
	outs, _, e = Judge(tab, claimOf(0, line("80050", day, 3000), line("99213", day, 10000, "59")), nil, nil)
	expectDenied(t, outs, e, api.DNone, api.DNone)

	tab = sample()
	inner := rule(5, api.Cond{}, cover(1), copay(1000))
	inner.Unless = []api.Cond{{Kind: api.COut}}
	tab.Plan.Rules = []api.Rule{rule(1, api.Cond{}, cover(1), copay(2000)), inner}
	outs, _, e = Judge(tab, claimOf(0, line("99213", day, 10000)), nil, nil)
	expectOuts(t, outs, e, api.Out{Allowed: 7550, Copay: 1000, Plan: 6550, Write: 2450})
	outs, _, e = Judge(tab, claimOf(1, line("99213", day, 10000)), nil, nil)
	expectOuts(t, outs, e, api.Out{Allowed: 6000, Copay: 2000, Plan: 4000, Write: 4000})

	tab.Plan.Rules = []api.Rule{rule(1, api.Cond{}, cover(1), copay(2000))}
	x := line("99213", day, 10000)
	x.Prior = 4000
	outs, rows, e := Judge(tab, claimOf(0, x), nil, nil)
	expectOuts(t, outs, e, api.Out{Allowed: 7550, Prior: 4000, Plan: 3550, Write: 2450})
	expectRows(t, rows)
}

// editLists are all choices of the three edits that deny 99213 beside 80050, in all orders.
func editLists() [][]api.Edit {
	kinds := []api.Edit{
		{Kind: api.EUnits, A: "99213", N: 1},
		{Kind: api.EBundle, A: "80050", B: "99213"},
		{Kind: api.EEither, A: "99213", B: "80050"},
	}
	lists := [][]api.Edit{nil}
	for at := 0; at < len(lists); at++ {
		for _, k := range kinds {
			if !slices.Contains(lists[at], k) {
				lists = append(lists, append(slices.Clone(lists[at]), k))
			}
		}
	}
	return lists
}

func editReason(l []api.Edit) int {
	if len(l) == 0 {
		return api.DNone
	}
	return map[int]int{api.EUnits: 151, api.EBundle: 97, api.EEither: 236}[l[0].Kind]
}

// Promise 17.2: each reason alone, each two together, and more: of 99213, which stands behind 80050, whether that one is denied or not.
func TestReasons(t *testing.T) {
	met := map[int]int{}
	rows := []api.Acc{member(2024, "M1", 4000, 4500), family(2024, "F1", 4000, 4500)}
	for _, list := range editLists() {
		for flags := range 32 {
			inAhead, inClaim, covered, priced, net := flags&1 == 1, flags&2 == 2, flags&4 == 4, flags&8 == 8, flags>>4
			x := api.Line{Proc: "99213", Date: day, Units: 2, Billed: 20000, Prior: 100}
			tab := sample()
			tab.Edits = list
			tab.Plan.Rules = append(tab.Plan.Rules, rule(3, proc("80050"), cover(0)))
			if !covered {
				tab.Plan.Rules = append(tab.Plan.Rules, rule(2, proc("99213"), cover(0)))
			}
			if !priced {
				tab.Fees = slices.DeleteFunc(tab.Fees, func(f api.Fee) bool { return f.Proc == "99213" && f.Net == net })
			}
			var ahead []api.Line
			if inAhead {
				ahead = []api.Line{line("80050", next, 5), line("99213", day, 7)}
			}
			lines := []api.Line{line("80050", day, 3000), x}
			if inClaim {
				lines = append(lines, x)
			}
			want := firstReason(inAhead || inClaim, !covered, editReason(list), !priced)
			outs, left, e := Judge(tab, claimOf(net, lines...), rows, ahead)
			if e != api.OK || len(outs) != len(lines) {
				t.Fatalf("%+v, %d", outs, e)
			}
			if outs[0] != (api.Out{Write: 3000, Deny: api.DCover}) {
				t.Errorf("80050: %+v", outs[0])
			}
			last := outs[len(outs)-1]
			met[last.Deny]++
			if last.Deny != want {
				t.Errorf("edits %+v, flags %b: denied for %d, want %d", list, flags, last.Deny, want)
			}
			if want != api.DNone && last != (api.Out{Prior: 100, Write: 19900, Deny: want}) {
				t.Errorf("denied: %+v", last)
			}
			if first := firstReason(inAhead, !covered, editReason(list), !priced); outs[1].Deny != first {
				t.Errorf("edits %+v, flags %b: the first one denied for %d, want %d", list, flags, outs[1].Deny, first)
			}
			if outs[1].Deny != api.DNone || net == 1 {
				expectRows(t, left, rows...)
			} else {
				// 1000 that were left of the deductible, and 2720: a fifth of 14100, less what another payer paid.
				expectRows(t, left, member(2024, "M1", 5000, 8220), family(2024, "F1", 5000, 8220))
			}
		}
	}
	for _, why := range []int{0, 18, 96, 97, 147, 151, 236} {
		if met[why] == 0 {
			t.Errorf("reason %d was never met", why)
		}
	}
}

// firstReason is the first reason that there is.
func firstReason(again, bare bool, edit int, free bool) int {
	switch {
	case again:
		return 18
	case bare:
		return 96
	case edit != 0:
		return edit
	case free:
		return 147
	}
	return 0
}

// Promise 17.2: what makes a service the same one, ahead and within the claim.
func TestTwice(t *testing.T) {
	x := line("99213", day, 10000, "25")
	for _, c := range []struct {
		other api.Line
		want  int
	}{
		{x, 18},
		{api.Line{Proc: "99213", Mods: []string{"25"}, Date: day, Units: 9, Billed: 1, Prior: 1}, 18},
		{line("99213", day, 10000), 0},
		{line("99213", day, 10000, "59"), 0},
		{line("99213", day, 10000, "25", "59"), 0},
		{line("99213", next, 10000, "25"), 0},
		{line("99213", 20250301, 10000, "25"), 0},
		{line("99214", day, 10000, "25"), 0},
	} {
		outs, _, e := Judge(sample(), claimOf(0, x), nil, []api.Line{c.other})
		expectDenied(t, outs, e, c.want)
		outs, _, e = Judge(sample(), claimOf(0, x), nil, []api.Line{line("80050", day, 1), c.other, line("80050", next, 1)})
		expectDenied(t, outs, e, c.want)
		if c.other.Date == 20250301 {
			continue
		}
		outs, _, e = Judge(sample(), claimOf(0, c.other, x), nil, nil)
		if e != api.OK || outs[1].Deny != c.want {
			t.Errorf("behind %+v: %+v, %d, want %d", c.other, outs, e, c.want)
		}
	}
	// The third one is the same one, too; the one ahead of them all is not denied for those behind it.
	outs, rows, e := Judge(sample(), claimOf(0, x, line("80050", day, 3000), x, x), nil, nil)
	expectDenied(t, outs, e, 0, 0, 18, 18)
	expectRows(t, rows, member(2024, "M1", 5000, 6110), family(2024, "F1", 5000, 6110))
	// One that was denied for another reason was billed all the same.
	tab := sample()
	tab.Fees = nil
	outs, rows, e = Judge(tab, claimOf(0, x, x), nil, nil)
	expectDenied(t, outs, e, 147, 18)
	expectRows(t, rows)
}

// Promise 17.2: edits are asked of the claim's own services alone, those behind and those that are denied among them.
func TestEditsSeeTheClaim(t *testing.T) {
	tab := sample()
	tab.Edits = []api.Edit{{Kind: api.EBundle, A: "80050", B: "99213"}, {Kind: api.EEither, A: "J1100", B: "99213"}}
	visit, panel, drug := line("99213", day, 10000), line("80050", day, 3000), line("J1100", day, 100)
	outs, _, e := Judge(tab, claimOf(0, visit), nil, []api.Line{panel, drug})
	expectDenied(t, outs, e, 0)
	outs, _, e = Judge(tab, claimOf(0, visit, panel), nil, nil)
	expectDenied(t, outs, e, 97, 0)
	outs, _, e = Judge(tab, claimOf(0, visit, panel), nil, []api.Line{panel})
	expectDenied(t, outs, e, 97, 18)
	outs, _, e = Judge(tab, claimOf(0, drug, visit), nil, nil)
	expectDenied(t, outs, e, 0, 236)
	outs, _, e = Judge(tab, claimOf(0, visit, drug), nil, nil)
	expectDenied(t, outs, e, 0, 236)
	outs, _, e = Judge(tab, claimOf(0, visit, drug, line("80050", next, 3000)), nil, []api.Line{visit})
	expectDenied(t, outs, e, 18, 236, 0)
	outs, _, e = Judge(tab, claimOf(0, line("J1100", next, 100), visit), nil, nil)
	expectDenied(t, outs, e, 0, 0)
}

// Promise 17.2: there is no fee: for that code, for that day, in that network, with that modifier.
func TestNoFee(t *testing.T) {
	tab := sample()
	tab.Fees = []api.Fee{{Proc: "80050", Net: 1, From: day, Cents: 3000}, {Proc: "99213", Mod: "25", From: day, Cents: 7550}}
	for _, c := range []struct {
		net  int
		x    api.Line
		want int
	}{
		{0, line("99213", day, 10000, "25"), 0}, {0, line("99213", next, 10000, "25"), 0}, {0, line("99213", next, 10000, "59", "25"), 0},
		{0, line("99213", 20240229, 10000, "25"), 147}, {0, line("99213", day, 10000), 147}, {0, line("99213", day, 10000, "59"), 147}, {1, line("99213", day, 10000, "25"), 147},
		{1, line("80050", day, 10000), 0}, {1, line("80050", day, 10000, "25"), 0}, {0, line("80050", day, 10000), 147}, {0, line("J1100", day, 10000), 147},
	} {
		outs, _, e := Judge(tab, claimOf(c.net, c.x), nil, nil)
		expectDenied(t, outs, e, c.want)
	}
}

// Promise 17.3: in the network and out of it: other fees, no deductible, no limit, nothing counted.
func TestNetwork(t *testing.T) {
	x := line("99213", day, 10000)
	rows := []api.Acc{member(2024, "M1", 4000, 4500), family(2024, "F1", 4100, 4600)}
	inner := api.Out{Allowed: 7550, Deduct: 1000, Coins: 1310, Plan: 5240, Write: 2450}
	outer := api.Out{Allowed: 6000, Coins: 1200, Plan: 4800, Write: 4000}
	outs, left, e := Judge(sample(), claimOf(0, x), rows, nil)
	expectOuts(t, outs, e, inner)
	expectRows(t, left, member(2024, "M1", 5000, 6810), family(2024, "F1", 5100, 6910))
	outs, left, e = Judge(sample(), claimOf(1, x), rows, nil)
	expectOuts(t, outs, e, outer)
	expectRows(t, left, rows...)
	outs, left, e = Judge(sample(), claimOf(1, x), nil, nil)
	expectOuts(t, outs, e, outer)
	expectRows(t, left)
	// The limit is met: nothing more in the network, all the same out of it.
	met := []api.Acc{member(2024, "M1", 5000, 10000), family(2024, "F1", 5000, 10000)}
	outs, left, e = Judge(sample(), claimOf(0, x), met, nil)
	expectOuts(t, outs, e, api.Out{Allowed: 7550, Plan: 7550, Write: 2450})
	expectRows(t, left, met...)
	outs, left, e = Judge(sample(), claimOf(1, x, line("99213", next, 10000)), met, nil)
	expectOuts(t, outs, e, outer, outer)
	expectRows(t, left, met...)
}

// visits are so many of 99213, each on a day of its own.
func visits(n int) []api.Line {
	var l []api.Line
	for i := range n {
		l = append(l, line("99213", day+i, 10000))
	}
	return l
}

// settled is what becomes of a visit of which so much is borne.
func settled(deduct, coins int64) api.Out {
	return api.Out{Allowed: 7550, Deduct: deduct, Coins: coins, Plan: 7550 - deduct - coins, Write: 2450}
}

// Promises 17.3 and 17.4: the member's deductible and limit are met within a claim.
func TestMetWithinClaim(t *testing.T) {
	tab := sample()
	tab.Plan.IndDed = 8000
	outs, rows, e := Judge(tab, claimOf(0, visits(4)...), nil, nil)
	// 450 are left of the deductible for the second one, 580 of the limit for the third one.
	expectOuts(t, outs, e, settled(7550, 0), settled(450, 1420), settled(0, 580), settled(0, 0))
	expectRows(t, rows, member(2024, "M1", 8000, 10000), family(2024, "F1", 8000, 10000))
	// Met to the cent between two of them.
	tab.Plan.IndDed, tab.Plan.IndOop = 7550, 9060
	outs, rows, e = Judge(tab, claimOf(0, visits(4)...), nil, nil)
	expectOuts(t, outs, e, settled(7550, 0), settled(0, 1510), settled(0, 0), settled(0, 0))
	expectRows(t, rows, member(2024, "M1", 7550, 9060), family(2024, "F1", 7550, 9060))
	// A cent less, a cent more.
	tab.Plan.IndDed, tab.Plan.IndOop = 7549, 9060
	outs, _, e = Judge(tab, claimOf(0, visits(3)...), nil, nil)
	expectOuts(t, outs, e, settled(7549, 0), settled(0, 1510), settled(0, 1))
	tab.Plan.IndDed, tab.Plan.IndOop = 7551, 9060
	outs, _, e = Judge(tab, claimOf(0, visits(3)...), nil, nil)
	expectOuts(t, outs, e, settled(7550, 0), settled(1, 1509), settled(0, 0))
	// Within the deductible the limit is met.
	tab.Plan.IndDed, tab.Plan.IndOop = 8000, 8000
	outs, rows, e = Judge(tab, claimOf(0, visits(3)...), nil, nil)
	expectOuts(t, outs, e, settled(7550, 0), settled(450, 0), settled(0, 0))
	expectRows(t, rows, member(2024, "M1", 8000, 8000), family(2024, "F1", 8000, 8000))
}

// Promises 17.3 and 17.4: the family's are met, by what other members bore, for another one of its members.
func TestFamilyMetWithinClaim(t *testing.T) {
	others := []api.Acc{member(2024, "M2", 5000, 6000), family(2024, "F1", 5000, 15000)}
	outs, rows, e := Judge(sample(), claimOf(0, visits(4)...), others, nil)
	// 3000 are left of the family's 8000, and of its limit 5000: 3000 and 910, then 1090, then nothing.
	expectOuts(t, outs, e, settled(3000, 910), settled(0, 1090), settled(0, 0), settled(0, 0))
	expectRows(t, rows, member(2024, "M1", 3000, 5000), member(2024, "M2", 5000, 6000), family(2024, "F1", 8000, 20000))
	// The next one of the family bears nothing, one of another family all.
	c := claimOf(0, visits(1)...)
	c.Member = "M3"
	outs, left, e := Judge(sample(), c, rows, nil)
	expectOuts(t, outs, e, settled(0, 0))
	expectRows(t, left, rows...)
	c.Family = "F0"
	outs, left, e = Judge(sample(), c, rows, nil)
	expectOuts(t, outs, e, settled(5000, 510))
	expectRows(t, left, rows[0], rows[1], member(2024, "M3", 5000, 5510), family(2024, "F0", 5000, 5510), rows[2])
}

// By the other mode the family's alone play a part.
func TestAggregate(t *testing.T) {
	tab := sample()
	tab.Plan.Mode = 1
	outs, rows, e := Judge(tab, claimOf(0, visits(8)...), nil, nil)
	// 450 of the deductible are left for the second one, 1520 of the limit for the next claim.
	expectOuts(t, outs, e, settled(7550, 0), settled(450, 1420), settled(0, 1510), settled(0, 1510), settled(0, 1510), settled(0, 1510), settled(0, 1510), settled(0, 1510))
	expectRows(t, rows, member(2024, "M1", 8000, 18480), family(2024, "F1", 8000, 18480))
	outs, rows, e = Judge(tab, claimOf(0, line("99213", 20240401, 10000), line("99213", 20240402, 10000), line("99213", 20240403, 10000)), rows, nil)
	expectOuts(t, outs, e, settled(0, 1510), settled(0, 10), settled(0, 0))
	expectRows(t, rows, member(2024, "M1", 8000, 20000), family(2024, "F1", 8000, 20000))
}

// Promise 17.3: copay behind the deductible, coinsurance of what is left, units.
func TestCopayAndUnits(t *testing.T) {
	tab := sample()
	tab.Plan.Rules = append(tab.Plan.Rules, rule(2, proc("J1100"), copay(250)), rule(3, api.Cond{Kind: api.CMod, Lo: "59"}, deduct(0), coins(5000)))
	drug := api.Line{Proc: "J1100", Date: day, Units: 60, Billed: 7000}
	outs, rows, e := Judge(tab, claimOf(0, drug), nil, nil)
	expectOuts(t, outs, e, api.Out{Allowed: 6000, Deduct: 5000, Copay: 250, Coins: 150, Plan: 600, Write: 1000})
	expectRows(t, rows, member(2024, "M1", 5000, 5400), family(2024, "F1", 5000, 5400))
	drug.Mods = []string{"59"}
	outs, rows, e = Judge(tab, claimOf(0, drug), nil, nil)
	expectOuts(t, outs, e, api.Out{Allowed: 6000, Copay: 250, Coins: 2875, Plan: 2875, Write: 1000})
	expectRows(t, rows, member(2024, "M1", 0, 3125), family(2024, "F1", 0, 3125))
	// It is billed at less than it may cost.
	drug.Billed = 200
	outs, rows, e = Judge(tab, claimOf(0, drug), nil, nil)
	expectOuts(t, outs, e, api.Out{Allowed: 200, Copay: 200})
	expectRows(t, rows, member(2024, "M1", 0, 200), family(2024, "F1", 0, 200))
	// At nothing: nothing is counted.
	drug.Billed = 0
	outs, rows, e = Judge(tab, claimOf(0, drug), nil, nil)
	expectOuts(t, outs, e, api.Out{})
	expectRows(t, rows)
}

// Promises 17.3 and 17.4: services of two years are no claim; of one year just that year's rows play a part.
func TestYears(t *testing.T) {
	last, first := line("99213", 20241231, 10000), line("99213", 20250101, 10000)
	for _, l := range [][]api.Line{{last, first}, {first, last}, {last, last, first}, {last, line("99213", 19991231, 1)}} {
		outs, rows, e := Judge(sample(), claimOf(0, l...), nil, nil)
		expectNone(t, outs, rows, e, api.ErrDate)
	}
	met := []api.Acc{member(2024, "M1", 5000, 10000), family(2024, "F1", 5000, 10000)}
	outs, rows, e := Judge(sample(), claimOf(0, last), met, nil)
	expectOuts(t, outs, e, settled(0, 0))
	expectRows(t, rows, met...)
	outs, rows, e = Judge(sample(), claimOf(0, first), met, nil)
	expectOuts(t, outs, e, settled(5000, 510))
	expectRows(t, rows, met[0], met[1], member(2025, "M1", 5000, 5510), family(2025, "F1", 5000, 5510))
	outs, rows, e = Judge(sample(), claimOf(0, line("99213", 20231231, 10000), line("99213", 20230101, 10000)), rows, nil)
	expectOuts(t, outs, e, settled(5000, 510), settled(0, 1510))
	expectRows(t, rows, member(2023, "M1", 5000, 7020), family(2023, "F1", 5000, 7020), met[0], met[1], member(2025, "M1", 5000, 5510), family(2025, "F1", 5000, 5510))
	// The first year, and the last one.
	tab := sample()
	tab.Fees[1].From = 10101
	outs, rows, e = Judge(tab, claimOf(0, line("99213", 11231, 10000)), nil, nil)
	expectOuts(t, outs, e, settled(5000, 510))
	expectRows(t, rows, member(1, "M1", 5000, 5510), family(1, "F1", 5000, 5510))
	outs, rows, e = Judge(tab, claimOf(0, line("99213", 99991231, 10000)), nil, nil)
	expectOuts(t, outs, e, settled(5000, 510))
	expectRows(t, rows, member(9999, "M1", 5000, 5510), family(9999, "F1", 5000, 5510))
}

// A member and a family of one name are two; others' rows play no part.
func TestWhose(t *testing.T) {
	c := claimOf(0, visits(1)...)
	c.Member, c.Family = "X", "X"
	others := []api.Acc{member(2024, "F1", 5000, 9999), member(2024, "M10", 5000, 9999), family(2024, "F10", 8000, 20000), family(2024, "M1", 8000, 20000)}
	outs, rows, e := Judge(sample(), c, others, nil)
	expectOuts(t, outs, e, settled(5000, 510))
	expectRows(t, rows, others[0], others[1], member(2024, "X", 5000, 5510), others[2], others[3], family(2024, "X", 5000, 5510))
	outs, _, e = Judge(sample(), claimOf(0, visits(1)...), others, nil)
	expectOuts(t, outs, e, settled(5000, 510))
}

// Promise 17.3: what another payer paid; what it spares the member is not counted, and is left for the next service.
func TestPrior(t *testing.T) {
	for _, c := range []struct {
		prior int64
		want  api.Out
	}{
		{0, api.Out{Allowed: 7550, Deduct: 5000, Coins: 510, Plan: 2040, Write: 2450}},
		{1, api.Out{Allowed: 7550, Deduct: 5000, Coins: 509, Plan: 2040, Write: 2450, Prior: 1}},
		{510, api.Out{Allowed: 7550, Deduct: 5000, Plan: 2040, Write: 2450, Prior: 510}},
		{1510, api.Out{Allowed: 7550, Deduct: 4000, Plan: 2040, Write: 2450, Prior: 1510}},
		{5510, api.Out{Allowed: 7550, Plan: 2040, Write: 2450, Prior: 5510}},
		{5511, api.Out{Allowed: 7550, Plan: 2039, Write: 2450, Prior: 5511}},
		{7550, api.Out{Allowed: 7550, Write: 2450, Prior: 7550}},
		{7551, api.Out{Allowed: 7550, Write: 2449, Prior: 7551}},
		{10000, api.Out{Allowed: 7550, Prior: 10000}},
	} {
		l := visits(2)
		l[0].Prior = c.prior
		outs, rows, e := Judge(sample(), claimOf(0, l[0]), nil, nil)
		expectOuts(t, outs, e, c.want)
		borne := c.want.Deduct + c.want.Coins
		if borne == 0 {
			expectRows(t, rows)
		} else {
			expectRows(t, rows, member(2024, "M1", c.want.Deduct, borne), family(2024, "F1", c.want.Deduct, borne))
		}
		left := 5000 - c.want.Deduct
		outs, rows, e = Judge(sample(), claimOf(0, l...), nil, nil)
		more := settled(left, (7550-left)/5)
		expectOuts(t, outs, e, c.want, more)
		expectRows(t, rows, member(2024, "M1", 5000, borne+left+more.Coins), family(2024, "F1", 5000, borne+left+more.Coins))
	}
	// Denied: all but that is written off.
	x := line("99213", day, 10000)
	x.Prior = 2500
	outs, rows, e := Judge(api.Tables{}, claimOf(0, x), nil, nil)
	expectOuts(t, outs, e, api.Out{Prior: 2500, Write: 7500, Deny: 96})
	expectRows(t, rows)
	// Out of the network.
	outs, rows, e = Judge(sample(), claimOf(1, x), nil, nil)
	expectOuts(t, outs, e, api.Out{Allowed: 6000, Plan: 3500, Prior: 2500, Write: 4000})
	expectRows(t, rows)
}

// Promise 17.4: an error behind services that went well. By limits of the family alone a member's row may come above all amounts.
func TestErrorBehind(t *testing.T) {
	tab := sample()
	tab.Plan.Mode = 1
	for n := range 4 {
		// So many services bear something, the one behind them a cent more than the row may hold.
		l := visits(n + 1)
		borne := []int64{0, 7550, 9420, 10930, 12440}
		rows := []api.Acc{member(2024, "M1", 0, most-borne[n+1]+1)}
		kept := slices.Clone(rows)
		outs, left, e := Judge(tab, claimOf(0, l...), rows, nil)
		expectNone(t, outs, left, e, api.ErrOverflow)
		// Services behind it that would be denied, or go well, do not help.
		outs, left, e = Judge(tab, claimOf(0, append(l, l[0], line("J1100", day, 0))...), rows, nil)
		expectNone(t, outs, left, e, api.ErrOverflow)
		expectRows(t, rows, kept...)
		rows[0].Oop--
		outs, left, e = Judge(tab, claimOf(0, l...), rows, nil)
		if e != api.OK || len(outs) != n+1 {
			t.Errorf("%+v, %d", outs, e)
		}
		expectRows(t, left, member(2024, "M1", min(borne[n+1], 8000), most), family(2024, "F1", min(borne[n+1], 8000), borne[n+1]))
	}
	// The row is full: what is denied, or borne out of the network, or by others, goes well.
	full := []api.Acc{member(2024, "M1", most, most)}
	x := line("99213", day, 10000)
	outs, rows, e := Judge(tab, claimOf(0, x), full, nil)
	expectNone(t, outs, rows, e, api.ErrOverflow)
	outs, rows, e = Judge(tab, claimOf(0, x), full, []api.Line{x})
	expectDenied(t, outs, e, 18)
	expectRows(t, rows, full...)
	outs, rows, e = Judge(tab, claimOf(1, x), full, nil)
	expectDenied(t, outs, e, 0)
	expectRows(t, rows, full...)
	x.Prior = 7550
	outs, rows, e = Judge(tab, claimOf(0, x), full, nil)
	expectDenied(t, outs, e, 0)
	expectRows(t, rows, full...)
	tab.Plan.Mode = 0
	x.Prior = 0
	outs, rows, e = Judge(tab, claimOf(0, x), full, nil)
	expectOuts(t, outs, e, settled(0, 0))
	expectRows(t, rows, full...)
}

// Promise 17.4: a claim that takes another one back has no services; one in another one's place is judged as any.
func TestDoes(t *testing.T) {
	rows := []api.Acc{member(2024, "M1", 4000, 4500), family(2024, "F1", 4000, 4500)}
	void := api.Claim{Id: "C2", Member: "M1", Family: "F1", Does: api.Void, Ref: "C1"}
	outs, left, e := Judge(sample(), void, rows, visits(3))
	expectOuts(t, outs, e)
	expectRows(t, left, rows...)
	outs, left, e = Judge(api.Tables{}, void, nil, nil)
	expectOuts(t, outs, e)
	expectRows(t, left)
	c := claimOf(0, visits(2)...)
	want, counted, e := Judge(sample(), c, rows, nil)
	expectOuts(t, want, e, settled(1000, 1310), settled(0, 1510))
	c.Id, c.Does, c.Ref = "C2", api.Replace, "C1"
	outs, left, e = Judge(sample(), c, rows, nil)
	expectOuts(t, outs, e, want...)
	expectRows(t, left, counted...)
}

// The limits of a claim, and of amounts.
func TestLimits(t *testing.T) {
	tab := sample()
	tab.Plan.IndDed, tab.Plan.FamDed, tab.Plan.IndOop, tab.Plan.FamOop = 1000000, 1000000, 2000000, 3000000
	var l []api.Line
	for i := range api.MaxLines {
		code := string([]byte{byte('A' + i/100), byte('0' + i/10%10)})
		l = append(l, line("99213", day+i%10, 10000, code))
	}
	outs, rows, e := Judge(tab, claimOf(0, l...), nil, nil)
	if e != api.OK || len(outs) != api.MaxLines {
		t.Fatalf("%d services, %d", len(outs), e)
	}
	for i, o := range outs {
		want := settled(0, 0)
		switch {
		case i < 132:
			want = settled(7550, 0)
		case i == 132:
			want = settled(3400, 830)
		case i < 132+662:
			want = settled(0, 1510)
		case i == 132+662:
			want = settled(0, 2000000-1000830-661*1510)
		}
		if o != want {
			t.Fatalf("service %d: %+v, want %+v", i, o, want)
		}
	}
	expectRows(t, rows, member(2024, "M1", 1000000, 2000000), family(2024, "F1", 1000000, 2000000))

	tab.Plan = api.Plan{IndDed: most, FamDed: most, IndOop: most, FamOop: most, Rules: tab.Plan.Rules}
	tab.Fees = []api.Fee{{Proc: "99213", From: 20200101, Cents: most}}
	x := line("99213", day, most)
	x.Units = api.MaxUnits
	outs, rows, e = Judge(tab, claimOf(0, x), nil, nil)
	expectOuts(t, outs, e, api.Out{Allowed: most, Deduct: most})
	expectRows(t, rows, member(2024, "M1", most, most), family(2024, "F1", most, most))
	x.Date = next
	outs, rows, e = Judge(tab, claimOf(0, x), rows, nil)
	expectOuts(t, outs, e, api.Out{Allowed: most, Plan: most})
	expectRows(t, rows, member(2024, "M1", most, most), family(2024, "F1", most, most))
}

// By tables without anything in them nothing is covered.
func TestNoTables(t *testing.T) {
	outs, rows, e := Judge(api.Tables{}, claimOf(0, visits(2)...), nil, nil)
	expectOuts(t, outs, e, api.Out{Write: 10000, Deny: 96}, api.Out{Write: 10000, Deny: 96})
	expectRows(t, rows)
}

// Names as long as they may be.
func TestLongNames(t *testing.T) {
	c := claimOf(0, visits(1)...)
	c.Member, c.Family = strings.Repeat("M", 12), strings.Repeat("F", 12)
	_, rows, e := Judge(sample(), c, nil, nil)
	if e != api.OK {
		t.Errorf("%d", e)
	}
	expectRows(t, rows, member(2024, c.Member, 5000, 5510), family(2024, c.Family, 5000, 5510))
}
