package ledger

import (
	"fmt"
	"math"
	"slices"
	"strconv"
	"testing"

	"leechbook/api"
)

const (
	first  = 20240301
	second = 20240302
	third  = 20240303
	dear   = api.MaxCents
)

// covering is a plan of one rule: all is covered, and these are set, too.
func covering(sets ...api.Set) api.Plan {
	sets = append([]api.Set{{What: api.SCover, N: 1}}, sets...)
	return api.Plan{Rules: []api.Rule{{Sets: sets}}}
}

// sample are tables by which a deductible of 50.00 (80.00 of a family) and a fifth are borne.
func sample() api.Tables {
	p := covering(api.Set{What: api.SDeduct, N: 1}, api.Set{What: api.SCoins, N: 2000})
	p.IndDed, p.FamDed, p.IndOop, p.FamOop = 5000, 8000, 10000, 20000
	return api.Tables{
		Plan: p,
		Fees: []api.Fee{
			{Proc: "99213", From: 20200101, Cents: 7550},
			{Proc: "99213", Net: 1, From: 20200101, Cents: 6000},
			{Proc: "J1100", From: 20200101, Cents: 100},
		},
	}
}

// flat are tables by which all is covered, nothing borne, and a visit costs so much.
func flat(cents int64) api.Tables {
	return api.Tables{Plan: covering(), Fees: []api.Fee{{Proc: "99213", From: 20200101, Cents: cents}}}
}

// steep are tables by which members bear all, up to as much as a family may: of two families a member bears what no row holds.
func steep() api.Tables {
	p := covering(api.Set{What: api.SDeduct, N: 1})
	p.Mode, p.IndDed, p.FamDed, p.IndOop, p.FamOop = 1, dear, dear, dear, dear
	return api.Tables{Plan: p, Fees: []api.Fee{
		{Proc: "99213", From: 20200101, Cents: dear},
		{Proc: "99213", Net: 1, From: 20200101, Cents: dear},
	}}
}

func visit(day int) api.Line { return visitFor(day, 10000) }

func visitFor(day int, billed int64) api.Line {
	return api.Line{Proc: "99213", Date: day, Units: 1, Billed: billed}
}

func original(id, member, family string, l ...api.Line) api.Claim {
	return api.Claim{Id: id, Member: member, Family: family, Does: api.Original, Lines: l}
}

// inPlace is a claim in the place of another one, of whoever that is.
func inPlace(id string, of api.Claim, l ...api.Line) api.Claim {
	return api.Claim{Id: id, Member: of.Member, Family: of.Family, Does: api.Replace, Ref: of.Id, Lines: l}
}

func void(id string, of api.Claim) api.Claim {
	return api.Claim{Id: id, Member: of.Member, Family: of.Family, Does: api.Void, Ref: of.Id}
}

// settled is what becomes of a visit by the sample's tables.
func settled(deduct, coins int64) api.Out {
	return api.Out{Allowed: 7550, Deduct: deduct, Coins: coins, Plan: 7550 - deduct - coins, Write: 2450}
}

// paid is what becomes of one by flat tables.
func paid(cents int64) api.Out { return api.Out{Allowed: cents, Plan: cents, Write: 10000 - cents} }

func denied(why int) api.Out { return api.Out{Write: 10000, Deny: why} }

func member(who string, deduct, oop int64) api.Acc {
	return api.Acc{Who: who, Year: 2024, Deduct: deduct, Oop: oop}
}

func family(who string, deduct, oop int64) api.Acc {
	return api.Acc{Who: who, Family: true, Year: 2024, Deduct: deduct, Oop: oop}
}

// started is a ledger for so many claims, by these tables.
func started(t *testing.T, most int, l ...api.Tables) *Ledger {
	t.Helper()
	g, e := New(most)
	if e != api.OK {
		t.Fatalf("New(%d): %d", most, e)
	}
	load(t, g, l...)
	return g
}

func load(t *testing.T, g *Ledger, l ...api.Tables) {
	t.Helper()
	for _, tab := range l {
		if e := g.Load(tab); e != api.OK {
			t.Fatalf("Load of %+v: %d", tab, e)
		}
	}
}

func submit(t *testing.T, g *Ledger, l ...api.Claim) {
	t.Helper()
	for _, c := range l {
		if e := g.Submit(c); e != api.OK {
			t.Fatalf("Submit of %+v: %d", c, e)
		}
	}
}

// told is all that a ledger answers.
func told(g *Ledger) string {
	return fmt.Sprintf("%+v %+v %d", g.Entries(), g.Rows(), g.Tables())
}

// expectRefused asks for an error, and that all stays as it was.
func expectRefused(t *testing.T, g *Ledger, want api.Errno, l ...api.Claim) {
	t.Helper()
	was := told(g)
	for _, c := range l {
		if e := g.Submit(c); e != want {
			t.Errorf("Submit of %.300v: %d, want %d", c, e, want)
		}
		if now := told(g); now != was {
			t.Fatalf("by an error %s became %s", was, now)
		}
	}
}

// expectRejected is that of tables.
func expectRejected(t *testing.T, g *Ledger, want api.Errno, tab api.Tables) {
	t.Helper()
	was := told(g)
	if e := g.Load(tab); e != want {
		t.Errorf("Load of %.300v: %d, want %d", tab, e, want)
	}
	if now := told(g); now != was {
		t.Fatalf("by an error %s became %s", was, now)
	}
}

// expectEntry asks for a claim's place, its tables, its state and what became of it.
func expectEntry(t *testing.T, g *Ledger, at int, id string, tables, state int, outs ...api.Out) {
	t.Helper()
	l := g.Entries()
	if at >= len(l) {
		t.Errorf("of %d entries none is at %d", len(l), at)
		return
	}
	if x := l[at]; x.Claim.Id != id || x.Tables != tables || x.State != state || !slices.Equal(x.Outs, outs) {
		t.Errorf("at %d is %s, %d, %d, %+v, want %s, %d, %d, %+v", at, x.Claim.Id, x.Tables, x.State, x.Outs, id, tables, state, outs)
	}
}

// expectLive is that of a claim that stands, by the first tables.
func expectLive(t *testing.T, g *Ledger, at int, id string, outs ...api.Out) {
	t.Helper()
	expectEntry(t, g, at, id, 0, api.Live, outs...)
}

func expectRows(t *testing.T, g *Ledger, want ...api.Acc) {
	t.Helper()
	if got := g.Rows(); !slices.Equal(got, want) {
		t.Errorf("rows %+v, want %+v", got, want)
	}
}

// expectSizes asks how many entries, rows and tables there are.
func expectSizes(t *testing.T, g *Ledger, entries, rows, tables int) {
	t.Helper()
	if a, b, c := len(g.Entries()), len(g.Rows()), g.Tables(); a != entries || b != rows || c != tables {
		t.Errorf("%d entries, %d rows, %d tables, want %d, %d, %d", a, b, c, entries, rows, tables)
	}
}

// Promise 19.1: the least and the greatest, one less and one more.
func TestNew(t *testing.T) {
	for _, most := range []int{1, 2, 9, 64, 65, 511, 512} {
		expectSizes(t, started(t, most), 0, 0, 0)
	}
	for _, most := range []int{0, 513, -1, -512, 1 << 32, math.MaxInt, math.MinInt} {
		if g, e := New(most); g != nil || e != api.ErrRange {
			t.Errorf("New(%d): %v, %d", most, g, e)
		}
	}
	// Each is one of its own.
	g, other := started(t, 9, sample()), started(t, 9)
	submit(t, g, original("C1", "M1", "F1", visit(first)))
	expectSizes(t, g, 1, 2, 1)
	expectSizes(t, other, 0, 0, 0)
}

// Promises 19.1 and 19.3: so many entries, and not one more, whatever it does.
func TestFull(t *testing.T) {
	for _, most := range []int{1, 2, 3, 100, 512} {
		g := started(t, most, sample())
		var l []api.Claim
		for i := range most {
			l = append(l, original("C"+strconv.Itoa(i), "M"+strconv.Itoa(i), "F"+strconv.Itoa(i%7), visit(first)))
		}
		submit(t, g, l...)
		expectRefused(t, g, api.ErrFull,
			original("X", "M1", "F1", visit(second)),
			inPlace("X", l[0], visit(second)),
			void("X", l[0]),
			void("X", l[most-1]),
		)
		expectRefused(t, g, api.ErrTwice, l[0], l[most-1])
		if n := len(g.Entries()); n != most {
			t.Errorf("%d entries, of %d", n, most)
		}
	}
	// What does not stand has its place.
	g := started(t, 3, sample())
	c := original("C1", "M1", "F1", visit(first))
	submit(t, g, c, void("C2", c), c2(3))
	expectRefused(t, g, api.ErrFull, c2(4))
	expectSizes(t, g, 3, 2, 1)
}

func c2(n int) api.Claim { return original("C"+strconv.Itoa(n), "M1", "F1", visit(first)) }

// badTables are tables that may not be, with their errors: plan, fees and edits alone, and with what stands behind them.
func badTables() ([]api.Tables, []api.Errno) {
	plan := func(t *api.Tables) { t.Plan.IndDed = t.Plan.FamDed + 1 }
	rule := func(t *api.Tables) { t.Plan.Rules[0].If = api.Cond{Kind: api.CNot} }
	twice := func(t *api.Tables) { t.Fees = append(t.Fees, t.Fees[2]) }
	money := func(t *api.Tables) { t.Fees[0].Cents = -1 }
	edit := func(t *api.Tables) { t.Edits = []api.Edit{{Kind: api.EUnits, A: "99213"}} }
	code := func(t *api.Tables) { t.Edits = []api.Edit{{Kind: api.EUnits, A: "9921", N: 1}} }
	spoils := [][]func(*api.Tables){
		{plan}, {rule}, {twice}, {money}, {edit}, {code},
		{plan, money}, {rule, code}, {plan, twice, edit}, {twice, edit}, {money, code},
	}
	var l []api.Tables
	for _, s := range spoils {
		tab := sample()
		for _, spoil := range s {
			spoil(&tab)
		}
		l = append(l, tab)
	}
	return l, []api.Errno{
		api.ErrPlan, api.ErrPlan, api.ErrTwice, api.ErrMoney, api.ErrArg, api.ErrCode,
		api.ErrPlan, api.ErrPlan, api.ErrPlan, api.ErrTwice, api.ErrMoney,
	}
}

// Promise 19.1: tables that may not be are none, at first, behind others, and where there are as many as may be.
func TestLoadRefused(t *testing.T) {
	c := original("C1", "M1", "F1", visit(first))
	bad, errors := badTables()
	for i, tab := range bad {
		g := started(t, 9)
		expectRejected(t, g, errors[i], tab)
		expectRefused(t, g, api.ErrNone, c)
		load(t, g, sample())
		expectRejected(t, g, errors[i], tab)
		submit(t, g, c)
		expectLive(t, g, 0, "C1", settled(5000, 510))
		expectSizes(t, g, 1, 2, 1)
		for range 63 {
			load(t, g, flat(100))
		}
		expectRejected(t, g, errors[i], tab)
		expectSizes(t, g, 1, 2, 64)
	}
}

// Promise 19.1: the sixty-fourth tables, and the sixty-fifth.
func TestLoadFull(t *testing.T) {
	g := started(t, 100)
	for i := range 64 {
		load(t, g, flat(int64(i)))
		submit(t, g, original("C"+strconv.Itoa(i), "M"+strconv.Itoa(i), "F1", visit(first)))
		expectSizes(t, g, i+1, 0, i+1)
	}
	for range 3 {
		expectRejected(t, g, api.ErrFull, flat(64))
		expectRejected(t, g, api.ErrFull, sample())
		expectRejected(t, g, api.ErrFull, api.Tables{})
	}
	// By the sixty-fourth all are judged from now on.
	submit(t, g, original("X", "MX", "F1", visit(first)))
	expectEntry(t, g, 64, "X", 63, api.Live, paid(63))
	// Those ahead keep theirs, when they are judged anew, too.
	submit(t, g, void("V", original("C0", "M0", "F1")))
	for i := 1; i < 64; i++ {
		expectEntry(t, g, i, "C"+strconv.Itoa(i), i, api.Live, paid(int64(i)))
	}
	// Tables without anything in them may be.
	expectSizes(t, started(t, 1, api.Tables{}), 0, 0, 1)
}

// Promise 19.3: ahead of all tables nothing can be submitted, whatever it is.
func TestAheadOfTables(t *testing.T) {
	g := started(t, 1)
	c := original("C1", "M1", "F1", visit(first))
	expectRefused(t, g, api.ErrNone, c, c, void("C1", c), inPlace("C2", c, visit(first)), api.Claim{}, original("?", "", ""))
	expectSizes(t, g, 0, 0, 0)
	load(t, g, sample())
	submit(t, g, c)
	expectLive(t, g, 0, "C1", settled(5000, 510))
}

// Promise 19.2: claims behind one another, in the rows that the one ahead left, service by service.
func TestBehindOneAnother(t *testing.T) {
	g := started(t, 9, sample())
	submit(t, g, original("C1", "M1", "F1", visit(first)))
	expectLive(t, g, 0, "C1", settled(5000, 510))
	expectRows(t, g, member("M1", 5000, 5510), family("F1", 5000, 5510))
	submit(t, g, original("C2", "M1", "F1", visit(second), visit(third)))
	expectLive(t, g, 0, "C1", settled(5000, 510))
	expectLive(t, g, 1, "C2", settled(0, 1510), settled(0, 1510))
	expectRows(t, g, member("M1", 5000, 8530), family("F1", 5000, 8530))
	submit(t, g, original("C3", "M2", "F1", visit(first)))
	expectLive(t, g, 2, "C3", settled(3000, 910))
	expectRows(t, g, member("M1", 5000, 8530), member("M2", 3000, 3910), family("F1", 8000, 12440))
	// Out of the network nothing is counted, and nothing within limits.
	c := original("C4", "M1", "F1", visit(20240304))
	c.Net = 1
	submit(t, g, c)
	expectLive(t, g, 3, "C4", api.Out{Allowed: 6000, Coins: 1200, Plan: 4800, Write: 4000})
	expectRows(t, g, member("M1", 5000, 8530), member("M2", 3000, 3910), family("F1", 8000, 12440))
	// A year counts for itself.
	submit(t, g, original("C5", "M1", "F1", visit(20230301)))
	expectLive(t, g, 4, "C5", settled(5000, 510))
	expectRows(t, g,
		api.Acc{Who: "M1", Year: 2023, Deduct: 5000, Oop: 5510}, api.Acc{Who: "F1", Family: true, Year: 2023, Deduct: 5000, Oop: 5510},
		member("M1", 5000, 8530), member("M2", 3000, 3910), family("F1", 8000, 12440))
	// What another payer paid helps the member.
	x := visit(20240305)
	x.Prior = 7000
	submit(t, g, original("C6", "M1", "F1", x))
	expectLive(t, g, 5, "C6", api.Out{Allowed: 7550, Plan: 550, Prior: 7000, Write: 2450})
}

// The chapter's example.
func TestExample(t *testing.T) {
	g := started(t, 9, sample())
	c := original("C1", "M1", "F1", visit(first))
	submit(t, g, c)
	expectLive(t, g, 0, "C1", settled(5000, 510))
	expectRows(t, g, member("M1", 5000, 5510), family("F1", 5000, 5510))
	submit(t, g, void("C2", c))
	expectEntry(t, g, 0, "C1", 0, api.Voided)
	expectEntry(t, g, 1, "C2", 0, api.Voided)
	expectSizes(t, g, 2, 0, 1)
}

// Promise 19.2: by the tables that were loaded last when a claim was submitted, and one in another one's place by that one's.
func TestTables(t *testing.T) {
	g := started(t, 20, flat(100))
	a, b := original("A", "M1", "F1", visit(first)), original("B", "M1", "F1", visit(second))
	submit(t, g, a)
	load(t, g, flat(200))
	submit(t, g, b)
	load(t, g, flat(300))
	expectEntry(t, g, 0, "A", 0, api.Live, paid(100))
	expectEntry(t, g, 1, "B", 1, api.Live, paid(200))
	// Judged anew, each by its own.
	c := inPlace("C", a, visit(third))
	submit(t, g, c)
	expectEntry(t, g, 0, "A", 0, api.Replaced)
	expectEntry(t, g, 1, "C", 0, api.Live, paid(100))
	expectEntry(t, g, 2, "B", 1, api.Live, paid(200))
	d := inPlace("D", b, visit(first))
	submit(t, g, d, original("E", "M1", "F1", visit(second)))
	expectEntry(t, g, 2, "B", 1, api.Replaced)
	expectEntry(t, g, 3, "D", 1, api.Live, paid(200))
	expectEntry(t, g, 4, "E", 2, api.Live, paid(300))
	load(t, g, flat(400))
	submit(t, g, inPlace("F", c, visit(20240304)), void("G", d))
	for i, id := range []string{"A", "C", "F", "B", "D", "E", "G"} {
		tables := []int{0, 0, 0, 1, 1, 2, 3}[i]
		switch id {
		case "F", "E":
			expectEntry(t, g, i, id, tables, api.Live, paid(int64(100+100*tables)))
		case "D", "G":
			expectEntry(t, g, i, id, tables, api.Voided)
		default:
			expectEntry(t, g, i, id, tables, api.Replaced)
		}
	}
	expectSizes(t, g, 7, 0, 4)
}

// Promise 19.2: rows go on from one plan to another one, whose limits then hold.
func TestRowsOfOtherTables(t *testing.T) {
	low := sample()
	low.Plan.IndDed, low.Plan.IndOop = 1000, 6000
	c := original("C1", "M1", "F1", visit(first))
	g := started(t, 9, sample())
	submit(t, g, c)
	load(t, g, low)
	submit(t, g, original("C2", "M1", "F1", visit(second)), original("C3", "M1", "F1", visit(third)))
	expectEntry(t, g, 1, "C2", 1, api.Live, settled(0, 490))
	expectEntry(t, g, 2, "C3", 1, api.Live, settled(0, 0))
	expectRows(t, g, member("M1", 5000, 6000), family("F1", 5000, 6000))
	load(t, g, sample())
	submit(t, g, void("C4", c), original("C5", "M1", "F1", visit(20240304)))
	expectEntry(t, g, 1, "C2", 1, api.Live, settled(1000, 1310))
	expectEntry(t, g, 2, "C3", 1, api.Live, settled(0, 1510))
	expectEntry(t, g, 4, "C5", 2, api.Live, settled(4000, 710))
	expectRows(t, g, member("M1", 5000, 8530), family("F1", 5000, 8530))
}

// Promise 19.2: a claim in whose place another one stands, with later claims of that member, of that family and of another one.
func TestReplace(t *testing.T) {
	g := started(t, 20, sample())
	c1 := original("C1", "M1", "F1", visit(first))
	submit(t, g, c1,
		original("C2", "M2", "F1", visit(first)),
		original("C3", "M1", "F1", visit(second)),
		original("C4", "M3", "F2", visit(first)),
	)
	expectLive(t, g, 0, "C1", settled(5000, 510))
	expectLive(t, g, 1, "C2", settled(3000, 910))
	expectLive(t, g, 2, "C3", settled(0, 1510))
	expectLive(t, g, 3, "C4", settled(5000, 510))
	expectRows(t, g,
		member("M1", 5000, 7020), member("M2", 3000, 3910), member("M3", 5000, 5510),
		family("F1", 8000, 10930), family("F2", 5000, 5510))

	small := api.Line{Proc: "J1100", Date: first, Units: 1, Billed: 100}
	c5 := inPlace("C5", c1, small)
	submit(t, g, c5)
	expectEntry(t, g, 0, "C1", 0, api.Replaced)
	expectLive(t, g, 1, "C5", api.Out{Allowed: 100, Deduct: 100})
	expectLive(t, g, 2, "C2", settled(5000, 510))
	expectLive(t, g, 3, "C3", settled(2900, 930))
	expectLive(t, g, 4, "C4", settled(5000, 510))
	expectRows(t, g,
		member("M1", 3000, 3930), member("M2", 5000, 5510), member("M3", 5000, 5510),
		family("F1", 8000, 9440), family("F2", 5000, 5510))

	// Out of the network, and the same service as a later one.
	c6 := inPlace("C6", c5, visit(second))
	c6.Net = 1
	submit(t, g, c6)
	expectEntry(t, g, 1, "C5", 0, api.Replaced)
	expectLive(t, g, 2, "C6", api.Out{Allowed: 6000, Coins: 1200, Plan: 4800, Write: 4000})
	expectLive(t, g, 3, "C2", settled(5000, 510))
	expectLive(t, g, 4, "C3", denied(api.DTwice))
	expectRows(t, g,
		member("M2", 5000, 5510), member("M3", 5000, 5510),
		family("F1", 5000, 5510), family("F2", 5000, 5510))

	submit(t, g, void("C7", c6))
	expectEntry(t, g, 2, "C6", 0, api.Voided)
	expectLive(t, g, 4, "C3", settled(3000, 910))
	expectRows(t, g,
		member("M1", 3000, 3910), member("M2", 5000, 5510), member("M3", 5000, 5510),
		family("F1", 8000, 9420), family("F2", 5000, 5510))
	// One that stands last: those ahead stay what they were.
	submit(t, g, inPlace("C8", original("C4", "M3", "F2"), visit(first), visit(second)))
	expectLive(t, g, 6, "C8", settled(5000, 510), settled(0, 1510))
	expectLive(t, g, 4, "C3", settled(3000, 910))
}

// Promise 19.2: a service that was not denied is billed already for all behind it, one that was denied is not.
func TestBilledAhead(t *testing.T) {
	g := started(t, 20, sample())
	l := []api.Claim{
		original("C1", "M1", "F1", visit(first)),
		original("C2", "M1", "F1", visit(first)),
		original("C3", "M1", "F1", visit(second), visit(first)),
		original("C4", "M1", "F1", visit(first), visit(second)),
	}
	submit(t, g, l...)
	expectLive(t, g, 0, "C1", settled(5000, 510))
	expectLive(t, g, 1, "C2", denied(api.DTwice))
	expectLive(t, g, 2, "C3", settled(0, 1510), denied(api.DTwice))
	expectLive(t, g, 3, "C4", denied(api.DTwice), denied(api.DTwice))
	submit(t, g, void("C5", l[0]))
	expectLive(t, g, 1, "C2", settled(5000, 510))
	expectLive(t, g, 2, "C3", settled(0, 1510), denied(api.DTwice))
	submit(t, g, void("C6", l[1]))
	expectLive(t, g, 2, "C3", settled(5000, 510), settled(0, 1510))
	expectLive(t, g, 3, "C4", denied(api.DTwice), denied(api.DTwice))
	submit(t, g, void("C7", l[2]))
	expectLive(t, g, 3, "C4", settled(5000, 510), settled(0, 1510))
	expectRows(t, g, member("M1", 5000, 7020), family("F1", 5000, 7020))
}

// Promise 19.2: denied for whatever reason, a service may be billed once more.
func TestDeniedAhead(t *testing.T) {
	none, noFee, units := sample(), sample(), sample()
	none.Plan.Rules = nil
	noFee.Fees = nil
	units.Edits = []api.Edit{{Kind: api.EUnits, A: "99213", N: 1}}
	g := started(t, 20, none)
	submit(t, g, original("C1", "M1", "F1", visit(first)))
	load(t, g, noFee)
	submit(t, g, original("C2", "M1", "F1", visit(first)))
	load(t, g, units)
	many := visit(first)
	many.Units = 2
	submit(t, g, original("C3", "M1", "F1", many))
	load(t, g, sample())
	submit(t, g, original("C4", "M1", "F1", visit(first)), original("C5", "M1", "F1", visit(first)))
	for i, why := range []int{api.DCover, api.DFee, api.DUnits} {
		expectEntry(t, g, i, "C"+strconv.Itoa(i+1), i, api.Live, denied(why))
	}
	expectEntry(t, g, 3, "C4", 3, api.Live, settled(5000, 510))
	expectEntry(t, g, 4, "C5", 3, api.Live, denied(api.DTwice))
	// Within one claim what was denied is billed all the same (17.2), but not for the next one.
	many.Date = second
	load(t, g, units)
	submit(t, g, original("C6", "M1", "F1", many, visit(second)), original("C7", "M1", "F1", visit(second)))
	expectEntry(t, g, 5, "C6", 4, api.Live, denied(api.DUnits), denied(api.DTwice))
	expectEntry(t, g, 6, "C7", 4, api.Live, settled(0, 1510))
}

// Promise 19.2: what a member was billed is asked of that member alone, of whichever family; what is out of the network counts, too.
func TestBilledOfMember(t *testing.T) {
	g := started(t, 20, sample())
	c := original("C1", "M1", "F1", visit(first))
	c.Net = 1
	submit(t, g, c,
		original("C2", "M2", "F1", visit(first)),
		original("C3", "F1", "M1", visit(first)),
		original("C4", "M1", "F2", visit(first)),
		original("C5", "M1", "F1", visit(first)),
	)
	expectLive(t, g, 0, "C1", api.Out{Allowed: 6000, Coins: 1200, Plan: 4800, Write: 4000})
	expectLive(t, g, 1, "C2", settled(5000, 510))
	expectLive(t, g, 2, "C3", settled(5000, 510))
	expectLive(t, g, 3, "C4", denied(api.DTwice))
	expectLive(t, g, 4, "C5", denied(api.DTwice))
	// One behind it is not ahead.
	c6 := inPlace("C6", c, visit(second))
	c6.Net = 1
	submit(t, g, c6)
	expectLive(t, g, 4, "C4", settled(5000, 510))
	expectLive(t, g, 5, "C5", denied(api.DTwice))
}

// Promise 19.3: each error of a claim that is put into the book.
func TestPutErrors(t *testing.T) {
	g := started(t, 9, sample())
	a, b := original("A", "M1", "F1", visit(first)), original("B", "M1", "F1", visit(second))
	submit(t, g, a, b, void("V", b))
	bad := func(does func(c *api.Claim)) api.Claim {
		c := original("X", "M1", "F1", visit(first), visit(second))
		does(&c)
		return c
	}
	expectRefused(t, g, api.ErrCode,
		api.Claim{},
		bad(func(c *api.Claim) { c.Id = "" }),
		bad(func(c *api.Claim) { c.Member = "m1" }),
		bad(func(c *api.Claim) { c.Ref = "A" }),
		bad(func(c *api.Claim) { c.Lines[1].Proc = "1" }),
		inPlace("X", original("A", "M2", "F1"), visit(first)),
		inPlace("X", original("A", "M1", "F2"), visit(first)),
		void("X", original("A", "M2", "F1")),
		void("X", original("A", "F1", "M1")),
		void("X", original("", "M1", "F1")),
	)
	expectRefused(t, g, api.ErrRange,
		bad(func(c *api.Claim) { c.Net = 2 }),
		bad(func(c *api.Claim) { c.Does, c.Ref = 2, "A" }),
		bad(func(c *api.Claim) { c.Lines[1].Units = 0 }),
	)
	expectRefused(t, g, api.ErrLimit, bad(func(c *api.Claim) { c.Lines = slices.Repeat(c.Lines, 500) }))
	expectRefused(t, g, api.ErrCount, original("X", "M1", "F1"), inPlace("X", a), bad(func(c *api.Claim) { c.Does, c.Ref = api.Void, "A" }))
	expectRefused(t, g, api.ErrDate,
		bad(func(c *api.Claim) { c.Lines[1].Date = 20230229 }),
		bad(func(c *api.Claim) { c.Lines[1].Date = 20230301 }),
	)
	expectRefused(t, g, api.ErrMoney,
		bad(func(c *api.Claim) { c.Lines[0].Prior = 10001 }),
		bad(func(c *api.Claim) { c.Lines[0].Billed = dear }),
	)
	expectRefused(t, g, api.ErrTwice, a, b, original("V", "M1", "F1", visit(first)), void("A", a), inPlace("B", a, visit(first)))
	expectRefused(t, g, api.ErrNone, void("X", original("Y", "M1", "F1")), inPlace("X", original("X", "M1", "F1"), visit(first)))
	expectRefused(t, g, api.ErrState,
		void("X", b), inPlace("X", b, visit(third)),
		void("X", original("V", "M1", "F1")),
		void("X", original("B", "M2", "F2")),
	)
	// None of all these took a number.
	submit(t, g, original("X", "M1", "F1", visit(second)))
	expectSizes(t, g, 4, 2, 1)
}

// Promise 19.3: a claim that can't be judged itself, as its member's row would hold too much.
func TestCannotBeJudged(t *testing.T) {
	g := started(t, 3, steep())
	submit(t, g, original("C1", "M1", "F1", visitFor(first, dear)))
	expectRefused(t, g, api.ErrOverflow, original("C2", "M1", "F2", visitFor(second, 1)))
	submit(t, g, original("C2", "M2", "F2", visitFor(second, 1)))
	// What is denied, or not counted, is no more than there was.
	out := original("C3", "M1", "F2", visitFor(first, 1), visitFor(second, 0))
	submit(t, g, out)
	expectRows(t, g, member("M1", dear, dear), member("M2", 1, 1), family("F1", dear, dear), family("F2", 1, 1))
	// The book's error comes first.
	expectRefused(t, g, api.ErrFull, original("C4", "M1", "F2", visitFor(third, 1)))
	expectRefused(t, g, api.ErrTwice, original("C3", "M1", "F2", visitFor(third, 1)))
}

// Promise 19.3: a later claim that can't be judged any more, when another one comes into the place of one ahead of it.
func TestLaterCannotBeJudged(t *testing.T) {
	for _, billed := range []int64{99, 100, 101, 102, dear} {
		for between := range 3 {
			g := started(t, 20, steep())
			a, b := original("A", "M1", "F1", visitFor(first, 100)), original("B", "M1", "F2", visitFor(second, dear-100))
			submit(t, g, a)
			for i := range between {
				submit(t, g, original("C"+strconv.Itoa(i), "M2", "F1", visitFor(first+i, 7)))
			}
			submit(t, g, b, original("D", "M3", "F3", visitFor(first, 5)))
			x := inPlace("X", a, visitFor(first, billed))
			if billed > 100 {
				expectRefused(t, g, api.ErrOverflow, x, x)
				// It is still the first one that stands, and the number is free.
				submit(t, g, void("V", b))
			}
			submit(t, g, x)
			expectLive(t, g, 1, "X", api.Out{Allowed: billed, Deduct: billed})
			rest := dear - 100
			if billed > 100 {
				rest = 0
			}
			if row := g.Rows()[0]; row != member("M1", billed+int64(rest), billed+int64(rest)) {
				t.Errorf("%d: %+v", billed, row)
			}
		}
	}
}

// Promise 19.3: likewise, when a claim is taken back by which a service ahead was denied.
func TestTakenBackCannotBeJudged(t *testing.T) {
	g := started(t, 20, steep())
	a := original("A", "M1", "F1", visitFor(first, 1))
	a.Net = 1
	b, c := original("B", "M1", "F1", visitFor(first, 1)), original("C", "M1", "F2", visitFor(second, dear))
	submit(t, g, a, b, c)
	expectLive(t, g, 1, "B", api.Out{Write: 1, Deny: api.DTwice})
	expectRows(t, g, member("M1", dear, dear), family("F2", dear, dear))
	expectRefused(t, g, api.ErrOverflow, void("X", a), inPlace("X", a, visitFor(third, 1)))
	submit(t, g, void("V", c), void("X", a))
	expectLive(t, g, 1, "B", api.Out{Allowed: 1, Deduct: 1})
	expectRows(t, g, member("M1", 1, 1), family("F1", 1, 1))
}

// Promise 19.4: all entries in order, as they were submitted, with what became of each.
func TestEntries(t *testing.T) {
	g := started(t, 9, sample())
	x, y := visit(first), visit(second)
	x.Mods, x.Prior = []string{"25", "59"}, 100
	y.Mods = []string{}
	a := original("A", "M1", "F1", x, y)
	a.Net = 1
	b := inPlace("B", a, y, x)
	submit(t, g, a, b, void("C", b))
	l := g.Entries()
	want := []api.Entry{{Claim: a, State: api.Replaced}, {Claim: b, State: api.Voided}, {Claim: void("C", b), State: api.Voided}}
	if fmt.Sprintf("%+v", l) != fmt.Sprintf("%+v", want) {
		t.Errorf("%+v, want %+v", l, want)
	}
	expectSizes(t, g, 3, 0, 1)
}

// To ask changes nothing.
func TestAsking(t *testing.T) {
	g := started(t, 9, sample())
	submit(t, g, original("A", "M1", "F1", visit(first)))
	was := told(g)
	for range 5 {
		if now := told(g); now != was {
			t.Fatalf("%s became %s", was, now)
		}
	}
}
