package svc

import (
	"fmt"
	"math"
	"slices"
	"testing"

	"leechbook/api"
)

const most = api.MaxCents

// noAmounts are numbers that are no amount, those next to the amounts first.
var noAmounts = []int64{-1, most + 1, -2, most + 2, -most, -most - 1, 1 << 60, -1 << 60, 1 << 62, math.MaxInt64, math.MinInt64 + 1, math.MinInt64}

// statuses are those of claims that may be, with the sign of their amounts.
var statuses = []struct {
	status int
	sign   int64
}{{1, 1}, {22, -1}}

func visit(billed int64) api.Line { return api.Line{Proc: "99213", Billed: billed} }

func claimOf(lines ...api.Line) api.Claim { return api.Claim{Id: "C1", Lines: lines} }

func cas(group string, why int, cents int64) api.Cas {
	return api.Cas{Group: group, Why: why, Cents: cents}
}

// paidFor is a claim of a remittance, with the sums that its services come to.
func paidFor(status int, services ...api.Svc) api.Clp {
	x := api.Clp{Id: "C1", Status: status, Svcs: services}
	for _, s := range services {
		x.Billed += s.Billed
		x.Paid += s.Paid
		for _, a := range s.Cas {
			if a.Group == "PR" {
				x.Member += a.Cents
			}
		}
	}
	return x
}

// two is a claim of two services that balances, of that status, with amounts of that sign.
func two(status int, sign int64) api.Clp {
	return paidFor(status,
		api.Svc{Proc: "99213", Billed: sign * 100, Paid: sign * 50, Cas: []api.Cas{cas("CO", 45, sign*20), cas("PR", 1, sign*10), cas("PR", 2, sign*15), cas("OA", 23, sign*5)}},
		api.Svc{Proc: "J1100", Billed: sign * 70, Paid: sign * 30, Cas: []api.Cas{cas("CO", 97, sign*33), cas("PR", 3, sign*7)}},
	)
}

// many is a claim of so many services, each billed at 1 and paid.
func many(n int) api.Clp {
	return paidFor(1, slices.Repeat([]api.Svc{{Proc: "99213", Billed: 1, Paid: 1}}, n)...)
}

// plain is a claim as a text; lists that are nil and empty ones are alike.
func plain(x api.Clp) string { return fmt.Sprintf("%+v", x) }

func expectOf(t *testing.T, c api.Claim, outs []api.Out, want api.Clp) {
	t.Helper()
	if x, e := Of(c, outs); e != api.OK || plain(x) != plain(want) {
		t.Errorf("Of(%+v, %+v): %+v, %d, want %+v", c, outs, x, e, want)
	}
}

func expectNotOf(t *testing.T, c api.Claim, outs []api.Out, want api.Errno) {
	t.Helper()
	if x, e := Of(c, outs); e != want || plain(x) != plain(api.Clp{}) {
		t.Errorf("Of(%+v, %+v): %+v, %d, want nothing and %d", c, outs, x, e, want)
	}
}

func expectCheck(t *testing.T, x api.Clp, want api.Errno) {
	t.Helper()
	if e := Check(x); e != want {
		t.Errorf("Check(%+v): %d, want %d", x, e, want)
	}
}

// expectService holds what Of makes of one service against its adjustments.
func expectService(t *testing.T, l api.Line, o api.Out, want ...api.Cas) {
	t.Helper()
	expectOf(t, claimOf(l), []api.Out{o}, paidFor(1, api.Svc{Proc: l.Proc, Billed: l.Billed, Paid: o.Plan, Cas: want}))
}

// Promises 20.1 to 20.3: the chapter's example.
func TestExample(t *testing.T) {
	l := visit(100)
	l.Prior = 5
	o := api.Out{Allowed: 80, Deduct: 10, Coins: 15, Plan: 50, Write: 20, Prior: 5}
	x, e := Of(claimOf(l), []api.Out{o})
	want := api.Clp{Id: "C1", Status: 1, Billed: 100, Paid: 50, Member: 25, Svcs: []api.Svc{
		{Proc: "99213", Billed: 100, Paid: 50, Cas: []api.Cas{cas("CO", 45, 20), cas("PR", 1, 10), cas("PR", 2, 15), cas("OA", 23, 5)}},
	}}
	if e != api.OK || plain(x) != plain(want) {
		t.Errorf("%+v, %d, want %+v", x, e, want)
	}
	want = api.Clp{Id: "C1", Status: 22, Billed: -100, Paid: -50, Member: -25, Svcs: []api.Svc{
		{Proc: "99213", Billed: -100, Paid: -50, Cas: []api.Cas{cas("CO", 45, -20), cas("PR", 1, -10), cas("PR", 2, -15), cas("OA", 23, -5)}},
	}}
	if b := Back(x); plain(b) != plain(want) || Check(b) != api.OK {
		t.Errorf("%+v, %d, want %+v", b, Check(b), want)
	}
}

// Promise 20.1: each adjustment alone, none, all five in their order, and each left out.
func TestAdjustments(t *testing.T) {
	expectService(t, visit(100), api.Out{Plan: 100})
	expectService(t, visit(0), api.Out{})
	expectService(t, visit(100), api.Out{Write: 100}, cas("CO", 45, 100))
	expectService(t, visit(100), api.Out{Deduct: 100}, cas("PR", 1, 100))
	expectService(t, visit(100), api.Out{Coins: 100}, cas("PR", 2, 100))
	expectService(t, visit(100), api.Out{Copay: 100}, cas("PR", 3, 100))
	expectService(t, visit(100), api.Out{Prior: 100}, cas("OA", 23, 100))
	all := api.Out{Plan: 1, Write: 2, Deduct: 4, Coins: 8, Copay: 16, Prior: 32}
	told := []api.Cas{cas("CO", 45, 2), cas("PR", 1, 4), cas("PR", 2, 8), cas("PR", 3, 16), cas("OA", 23, 32)}
	expectService(t, visit(63), all, told...)
	for i, left := range []func(*api.Out){
		func(o *api.Out) { o.Write = 0 }, func(o *api.Out) { o.Deduct = 0 }, func(o *api.Out) { o.Coins = 0 },
		func(o *api.Out) { o.Copay = 0 }, func(o *api.Out) { o.Prior = 0 },
	} {
		o := all
		left(&o)
		expectService(t, visit(63-told[i].Cents), o, slices.Delete(slices.Clone(told), i, i+1)...)
	}
	// A cent is not nothing; nor is as much as there may be.
	expectService(t, visit(5), api.Out{Write: 1, Deduct: 1, Coins: 1, Copay: 1, Prior: 1}, cas("CO", 45, 1), cas("PR", 1, 1), cas("PR", 2, 1), cas("PR", 3, 1), cas("OA", 23, 1))
	expectService(t, visit(most), api.Out{Plan: most - 1, Copay: 1}, cas("PR", 3, 1))
	expectService(t, visit(most), api.Out{Write: most}, cas("CO", 45, most))
}

// Promise 20.1: of a service that is denied the reason stands in the place of 45, and nowhere else.
func TestDenied(t *testing.T) {
	for _, why := range []int{api.DTwice, api.DCover, api.DBundle, api.DFee, api.DUnits, api.DEither, 1, 2, 45, 998, 999} {
		expectService(t, visit(100), api.Out{Write: 100, Deny: why}, cas("CO", why, 100))
		expectService(t, visit(100), api.Out{Write: 60, Prior: 40, Deny: why}, cas("CO", why, 60), cas("OA", 23, 40))
		expectService(t, visit(100), api.Out{Prior: 100, Deny: why}, cas("OA", 23, 100))
		expectService(t, visit(0), api.Out{Deny: why})
		// Whether something is borne or paid all the same is not asked.
		expectService(t, visit(100), api.Out{Plan: 50, Write: 10, Deduct: 40, Deny: why}, cas("CO", why, 10), cas("PR", 1, 40))
	}
	for _, why := range []int{-1, 1000, -45, math.MinInt, math.MaxInt, 1 << 32} {
		expectNotOf(t, claimOf(visit(100)), []api.Out{{Write: 100, Deny: why}}, api.ErrCode)
		// Where nothing is written off the reason is not told.
		expectService(t, visit(100), api.Out{Plan: 100, Deny: why})
	}
}

// Promise 20.1: what is allowed, the service's own Prior, and all else that it says play no part.
func TestPlaysNoPart(t *testing.T) {
	l := api.Line{Proc: "99213", Mods: []string{"?"}, Date: -1, Units: -1, Billed: 100, Prior: 77}
	c := api.Claim{Id: "C1", Member: "?", Family: "?", Net: -1, Does: 99, Ref: "?", Lines: []api.Line{l}}
	for _, allowed := range []int64{0, 1, 99, 100, 101, -1, math.MinInt64, math.MaxInt64} {
		expectOf(t, c, []api.Out{{Allowed: allowed, Plan: 60, Prior: 40}}, paidFor(1, api.Svc{Proc: "99213", Billed: 100, Paid: 60, Cas: []api.Cas{cas("OA", 23, 40)}}))
	}
}

// Promise 20.2: the services stand in their order, each with its own Out; sums are of all together.
func TestOfServices(t *testing.T) {
	c := claimOf(visit(100), api.Line{Proc: "J1100", Billed: 70}, visit(0), api.Line{Proc: "A0428", Billed: 9})
	outs := []api.Out{
		{Plan: 50, Write: 20, Deduct: 10, Coins: 15, Prior: 5}, {Plan: 30, Write: 33, Copay: 7},
		{}, {Write: 9, Deny: api.DCover},
	}
	x, e := Of(c, outs)
	want := two(1, 1)
	want.Billed += 9
	want.Svcs = append(want.Svcs, api.Svc{Proc: "99213"}, api.Svc{Proc: "A0428", Billed: 9, Cas: []api.Cas{cas("CO", 96, 9)}})
	want.Svcs[1].Cas[0].Why = 45
	if e != api.OK || plain(x) != plain(want) || x.Billed != 179 || x.Paid != 80 || x.Member != 32 {
		t.Errorf("%+v, %d, want %+v", x, e, want)
	}
}

// Promise 20.2: ErrArg, if there are fewer or more Outs than Lines, ahead of all else.
func TestOfCount(t *testing.T) {
	for lines := range 5 {
		for outs := range 5 {
			c := claimOf(slices.Repeat([]api.Line{visit(7)}, lines)...)
			l := slices.Repeat([]api.Out{{Plan: 7}}, outs)
			switch {
			case lines != outs:
				expectNotOf(t, c, l, api.ErrArg)
				c.Id = "?"
				expectNotOf(t, c, l, api.ErrArg)
			case lines == 0:
				expectNotOf(t, c, l, api.ErrCount)
			default:
				expectOf(t, c, l, paidFor(1, slices.Repeat([]api.Svc{{Proc: "99213", Billed: 7, Paid: 7}}, lines)...))
			}
		}
	}
	expectNotOf(t, api.Claim{Id: "?", Lines: []api.Line{{Proc: "?", Billed: -1}}}, nil, api.ErrArg)
	expectNotOf(t, api.Claim{Id: "?"}, []api.Out{{Deny: -1, Plan: -1}}, api.ErrArg)
	expectNotOf(t, api.Claim{}, nil, api.ErrCode)
}

// Promise 20.2: no service, MaxLines of them, and one more.
func TestOfManyServices(t *testing.T) {
	expectNotOf(t, claimOf(), nil, api.ErrCount)
	expectNotOf(t, claimOf([]api.Line{}...), []api.Out{}, api.ErrCount)
	for _, n := range []int{1, api.MaxLines - 1, api.MaxLines} {
		expectOf(t, claimOf(slices.Repeat([]api.Line{visit(1)}, n)...), slices.Repeat([]api.Out{{Plan: 1}}, n), many(n))
	}
	for _, n := range []int{api.MaxLines + 1, api.MaxLines + 2, 1 << 17} {
		c := claimOf(slices.Repeat([]api.Line{visit(1)}, n)...)
		outs := slices.Repeat([]api.Out{{Plan: 1}}, n)
		expectNotOf(t, c, outs, api.ErrCount)
		c.Lines[0].Proc = "?"
		expectNotOf(t, c, outs, api.ErrCount)
		if made := testing.AllocsPerRun(3, func() { Of(c, outs) }); made != 0 {
			t.Errorf("of %d services %v lists are made", n, made)
		}
		c.Id = ""
		expectNotOf(t, c, outs, api.ErrCode)
	}
}

// Promise 20.2: Check's errors, each as that of the Outs that lead to it.
func TestOfErrors(t *testing.T) {
	c := claimOf(visit(100))
	for _, id := range []string{"", "c1", "ABCDEFGHIJKLM", "C 1", "Ä"} {
		d := c
		d.Id = id
		expectNotOf(t, d, []api.Out{{Plan: 100}}, api.ErrCode)
	}
	for _, proc := range []string{"", "9921", "992131", "9921a", "9921-"} {
		d := claimOf(api.Line{Proc: proc, Billed: 100})
		expectNotOf(t, d, []api.Out{{Plan: 100}}, api.ErrCode)
		expectNotOf(t, d, []api.Out{{Plan: -1}}, api.ErrCode)
	}
	for _, o := range []api.Out{{}, {Plan: 99}, {Plan: 101}, {Plan: 60, Write: 10, Deduct: 10, Coins: 10, Copay: 10, Prior: 1}, {Write: 99, Deny: 96}, {Prior: 101}} {
		expectNotOf(t, c, []api.Out{o}, api.ErrBalance)
	}
	for _, id := range []string{"0", "Z", "C2", "ABCDEFGHIJKL"} {
		d, want := c, paidFor(1, api.Svc{Proc: "99213", Billed: 100, Paid: 100})
		d.Id, want.Id = id, id
		expectOf(t, d, []api.Out{{Plan: 100}}, want)
	}
	// The first service's error comes first, and that of what is billed ahead of that of an adjustment.
	expectNotOf(t, claimOf(visit(100), visit(-1)), []api.Out{{Plan: 99}, {Plan: -1}}, api.ErrBalance)
	expectNotOf(t, claimOf(visit(-1), visit(100)), []api.Out{{Plan: -1}, {Plan: 99}}, api.ErrMoney)
	expectNotOf(t, claimOf(visit(-1)), []api.Out{{Write: 1, Deny: 1000}}, api.ErrMoney)
	expectNotOf(t, claimOf(visit(1)), []api.Out{{Write: -1, Deny: 1000}}, api.ErrCode)
	expectNotOf(t, claimOf(visit(1)), []api.Out{{Plan: -1, Write: -1, Deny: 1000}}, api.ErrMoney)
}

// Promise 20.2: amounts at the ends of what an amount may be, and outside them.
func TestOfAmounts(t *testing.T) {
	fields := []func(*api.Out, int64){
		func(o *api.Out, n int64) { o.Plan = n }, func(o *api.Out, n int64) { o.Write = n }, func(o *api.Out, n int64) { o.Deduct = n },
		func(o *api.Out, n int64) { o.Coins = n }, func(o *api.Out, n int64) { o.Copay = n }, func(o *api.Out, n int64) { o.Prior = n },
	}
	for _, set := range fields {
		for _, n := range []int64{0, 1, most - 1, most} {
			o := api.Out{}
			set(&o, n)
			if x, e := Of(claimOf(visit(n)), []api.Out{o}); e != api.OK || x.Billed != n || x.Svcs[0].Billed != n {
				t.Errorf("%d by %+v: %+v, %d", n, o, x, e)
			}
		}
		for _, n := range noAmounts {
			o := api.Out{}
			set(&o, n)
			for _, billed := range []int64{0, 1, n, -n, most} {
				expectNotOf(t, claimOf(visit(billed)), []api.Out{o}, api.ErrMoney)
			}
			for _, other := range fields {
				twice := o
				other(&twice, -n)
				set(&twice, n)
				expectNotOf(t, claimOf(visit(0)), []api.Out{twice}, api.ErrMoney)
			}
		}
	}
	for _, n := range noAmounts {
		expectNotOf(t, claimOf(visit(n)), []api.Out{{}}, api.ErrMoney)
		expectNotOf(t, claimOf(visit(n), visit(-n)), []api.Out{{}, {}}, api.ErrMoney)
	}
}

// Promise 20.2: amounts never go round, be it in a service or in all together.
func TestOfGoesNotRound(t *testing.T) {
	const high = math.MaxInt64
	for _, o := range []api.Out{
		{Plan: high, Write: high, Deduct: 102}, {Plan: 102, Deduct: high, Coins: high}, {Plan: 101, Copay: high, Prior: math.MinInt64},
		{Plan: 100, Write: math.MinInt64, Prior: math.MinInt64}, {Plan: 100, Deduct: math.MinInt64, Coins: math.MinInt64},
	} {
		if sum := o.Plan + o.Write + o.Deduct + o.Coins + o.Copay + o.Prior; sum != 100 {
			t.Fatalf("%+v comes round to %d", o, sum)
		}
		expectNotOf(t, claimOf(visit(100)), []api.Out{o}, api.ErrMoney)
	}
	expectNotOf(t, claimOf(visit(high), visit(high), visit(102)), []api.Out{{Plan: high}, {Plan: high}, {Plan: 102}}, api.ErrMoney)
	// Each is an amount, but what is billed in all is none.
	expectOf(t, claimOf(visit(most-1), visit(1)), []api.Out{{Plan: most - 1}, {Copay: 1}}, paidFor(1, api.Svc{Proc: "99213", Billed: most - 1, Paid: most - 1}, api.Svc{Proc: "99213", Billed: 1, Cas: []api.Cas{cas("PR", 3, 1)}}))
	expectNotOf(t, claimOf(visit(most), visit(1)), []api.Out{{Plan: most}, {Plan: 1}}, api.ErrBalance)
	expectNotOf(t, claimOf(visit(most), visit(1)), []api.Out{{Write: most}, {Write: 1}}, api.ErrBalance)
	expectNotOf(t, claimOf(slices.Repeat([]api.Line{visit(most)}, api.MaxLines)...), slices.Repeat([]api.Out{{Deduct: most}}, api.MaxLines), api.ErrBalance)
}

// Promise 20.3: Status 22, and all amounts' opposites; all else as it was.
func TestBack(t *testing.T) {
	for _, status := range []int{1, 22, 0, -1, 7, math.MaxInt, math.MinInt} {
		x := two(status, 1)
		if b := Back(x); plain(b) != plain(two(22, -1)) {
			t.Errorf("Back(%+v): %+v", x, b)
		}
		x = two(status, -1)
		if b := Back(x); plain(b) != plain(two(22, 1)) {
			t.Errorf("Back(%+v): %+v", x, b)
		}
	}
	for _, x := range []api.Clp{{}, {Svcs: []api.Svc{}}, {Svcs: []api.Svc{{}, {Cas: []api.Cas{{}, {}}}}}} {
		want := x
		want.Status = 22
		if b := Back(x); plain(b) != plain(want) {
			t.Errorf("Back(%+v): %+v", x, b)
		}
	}
	// What may not be is taken back, too.
	odd := api.Clp{Id: "?", Status: 3, Paid: -4, Svcs: []api.Svc{{Proc: "!", Billed: 5, Cas: []api.Cas{cas("ZZ", -6, 7)}}}}
	want := api.Clp{Id: "?", Status: 22, Paid: 4, Svcs: []api.Svc{{Proc: "!", Billed: -5, Cas: []api.Cas{cas("ZZ", -6, -7)}}}}
	if b := Back(odd); plain(b) != plain(want) {
		t.Errorf("Back(%+v): %+v", odd, b)
	}
}

// amountsOf are all amounts of a claim, those of its services behind its own.
func amountsOf(x *api.Clp) []*int64 {
	l := []*int64{&x.Billed, &x.Paid, &x.Member}
	for i := range x.Svcs {
		s := &x.Svcs[i]
		l = append(l, &s.Billed, &s.Paid)
		for k := range s.Cas {
			l = append(l, &s.Cas[k].Cents)
		}
	}
	return l
}

// Promise 20.3: each amount alone, at the ends of what an amount may be and outside them; the least number goes not round.
func TestBackAmounts(t *testing.T) {
	for i := range amountsOf(new(two(1, 1))) {
		for _, n := range append([]int64{0, 1, most - 1, most}, noAmounts...) {
			x := two(1, 1)
			*amountsOf(&x)[i] = n
			b := Back(x)
			want := two(22, -1)
			*amountsOf(&want)[i] = -n
			if n == math.MinInt64 {
				*amountsOf(&want)[i] = math.MaxInt64
			}
			if plain(b) != plain(want) {
				t.Errorf("Back(%+v): %+v", x, b)
			}
			if Check(b) != Check(x) {
				t.Errorf("Check of %+v: %d; taken back: %d", x, Check(x), Check(b))
			}
		}
	}
}

// Promise 20.3: taken back a claim balances just as it does, and taken back twice it is the claim again.
func TestBackTwice(t *testing.T) {
	for _, x := range []api.Clp{
		two(1, 1), many(1), many(api.MaxLines), paidFor(1, api.Svc{Proc: "99213", Billed: most, Paid: most}), paidFor(1, api.Svc{Proc: "99213"}),
		paidFor(1, api.Svc{Proc: "99213", Billed: most, Cas: []api.Cas{cas("PR", 3, most)}}),
	} {
		b := Back(x)
		expectCheck(t, x, api.OK)
		expectCheck(t, b, api.OK)
		again := Back(b)
		if again.Status != 22 || Same(again, x) {
			t.Errorf("taken back twice: %+v", again)
		}
		again.Status = 1
		if !Same(again, x) || plain(again) != plain(x) {
			t.Errorf("%+v, taken back twice, became %+v", x, again)
		}
	}
}
