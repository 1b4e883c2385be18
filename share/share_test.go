package share

import (
	"math"
	"math/big"
	"math/rand"
	"testing"

	"leechbook/api"
)

const most = api.MaxCents

// noAmounts are numbers that are no amount, those next to the amounts first.
var noAmounts = []int64{-1, most + 1, -2, most + 2, -most, 1 << 62, math.MinInt64, math.MaxInt64}

// bearing is a call of Bear.
type bearing struct {
	allowed int64
	b       api.Benefit
	ded     int64
	oop     int64
	net     int
}

// borne is what Bear answers, all but the error.
type borne struct{ deduct, copay, coins int64 }

func (x bearing) bear() (borne, api.Errno) {
	d, c, k, e := Bear(x.allowed, x.b, x.ded, x.oop, x.net)
	return borne{d, c, k}, e
}

func expectBear(t *testing.T, x bearing, want borne) {
	t.Helper()
	if got, e := x.bear(); e != api.OK || got != want {
		t.Errorf("Bear of %+v: %+v, %d, want %+v", x, got, e, want)
	}
}

func expectNoBear(t *testing.T, x bearing) {
	t.Helper()
	if got, e := x.bear(); e != api.ErrArg || got != (borne{}) {
		t.Errorf("Bear of %+v: %+v, %d, want nothing and ErrArg", x, got, e)
	}
}

// settling is a call of Settle.
type settling struct{ billed, allowed, prior, ded, copay, coins int64 }

func (x settling) settle() (api.Out, api.Errno) {
	return Settle(x.billed, x.allowed, x.prior, x.ded, x.copay, x.coins)
}

func expectSettle(t *testing.T, x settling, want api.Out) {
	t.Helper()
	if o, e := x.settle(); e != api.OK || o != want {
		t.Errorf("Settle of %+v: %+v, %d, want %+v", x, o, e, want)
	}
}

func expectNoSettle(t *testing.T, x settling, want api.Errno) {
	t.Helper()
	if o, e := x.settle(); e != want || o != (api.Out{}) {
		t.Errorf("Settle of %+v: %+v, %d, want nothing and %d", x, o, e, want)
	}
}

// Promise 15.1: the chapter's example, and those of the whole.
func TestBearExamples(t *testing.T) {
	b := api.Benefit{Cover: true, Deduct: true, Copay: 2000, Coins: 2000}
	expectBear(t, bearing{10000, b, 3000, 9000, 0}, borne{3000, 2000, 1000})
	expectBear(t, bearing{10000, b, 3000, 3500, 0}, borne{3000, 500, 0})
	fifth := api.Benefit{Cover: true, Deduct: true, Coins: 2000}
	expectBear(t, bearing{7550, fifth, 5000, most, 0}, borne{5000, 0, 510})
	expectBear(t, bearing{7550, fifth, 0, most, 0}, borne{0, 0, 1510})
}

// Promise 15.1: the deductible in the network, if the benefit says so, and nowhere else.
func TestDeductible(t *testing.T) {
	yes, no := api.Benefit{Deduct: true}, api.Benefit{}
	for _, c := range []struct{ allowed, ded, want int64 }{
		{100, 0, 0}, {100, 1, 1}, {100, 99, 99}, {100, 100, 100}, {100, 101, 100}, {100, most, 100},
		{0, 0, 0}, {0, 1, 0}, {0, most, 0},
		{1, 0, 0}, {1, 1, 1}, {1, 2, 1},
		{most, 0, 0}, {most, most - 1, most - 1}, {most, most, most}, {most - 1, most, most - 1},
	} {
		expectBear(t, bearing{c.allowed, yes, c.ded, most, 0}, borne{deduct: c.want})
		expectBear(t, bearing{c.allowed, no, c.ded, most, 0}, borne{})
		for _, net := range []int{1, 2, -1, 7, math.MaxInt, math.MinInt} {
			expectBear(t, bearing{c.allowed, yes, c.ded, most, net}, borne{})
			expectBear(t, bearing{c.allowed, no, c.ded, most, net}, borne{})
		}
	}
}

// Promise 15.1: the copay, of what the deductible leaves.
func TestCopay(t *testing.T) {
	for _, c := range []struct{ allowed, ded, copay, in, out int64 }{
		{100, 30, 0, 0, 0}, {100, 30, 1, 1, 1}, {100, 30, 69, 69, 69}, {100, 30, 70, 70, 70}, {100, 30, 71, 70, 71},
		{100, 30, 99, 70, 99}, {100, 30, 100, 70, 100}, {100, 30, 101, 70, 100}, {100, 30, most, 70, 100},
		{100, 100, 20, 0, 20}, {100, 500, 20, 0, 20}, {100, 0, 20, 20, 20}, {100, 99, 20, 1, 20},
		{0, 0, 20, 0, 0}, {0, 30, 20, 0, 0}, {1, 0, 1, 1, 1}, {1, 1, 1, 0, 1},
		{most, 1, most, most - 1, most}, {most, most, most, 0, most}, {most, 0, most, most, most},
	} {
		deduct := min(c.ded, c.allowed)
		with, without := api.Benefit{Deduct: true, Copay: c.copay}, api.Benefit{Copay: c.copay}
		expectBear(t, bearing{c.allowed, with, c.ded, most, 0}, borne{deduct: deduct, copay: c.in})
		expectBear(t, bearing{c.allowed, without, c.ded, most, 0}, borne{copay: c.out})
		expectBear(t, bearing{c.allowed, with, c.ded, most, 1}, borne{copay: c.out})
		expectBear(t, bearing{c.allowed, without, c.ded, most, 1}, borne{copay: c.out})
	}
}

// Promise 15.1: the coinsurance, of what deductible and copay leave, cut off to a whole cent.
func TestCoinsurance(t *testing.T) {
	for _, c := range []struct{ allowed, ded, copay, coins, in, out int64 }{
		{10000, 3000, 2000, 0, 0, 0}, {10000, 3000, 2000, 1, 0, 0}, {10000, 3000, 2000, 2, 1, 1},
		{10000, 3000, 2000, 2000, 1000, 1600}, {10000, 3000, 2000, 9999, 4999, 7999}, {10000, 3000, 2000, 10000, 5000, 8000},
		{199, 0, 0, 5000, 99, 99}, {1, 0, 0, 9999, 0, 0}, {1, 0, 0, 10000, 1, 1}, {3, 1, 0, 5000, 1, 1}, {4, 1, 0, 5000, 1, 2},
		{100, 100, 0, 10000, 0, 100}, {100, 0, 100, 10000, 0, 0}, {100, 50, 50, 10000, 0, 50}, {100, 50, 49, 10000, 1, 51},
		{100, 200, 0, 10000, 0, 100}, {100, 0, 200, 10000, 0, 0}, {0, 0, 0, 10000, 0, 0},
		{most, 0, 0, 10000, most, most}, {most, 0, 0, 9999, most - most/10000, most - most/10000}, {most, 1, 1, 10000, most - 2, most - 1},
	} {
		b := api.Benefit{Deduct: true, Copay: c.copay, Coins: c.coins}
		deduct := min(c.ded, c.allowed)
		expectBear(t, bearing{c.allowed, b, c.ded, most, 0}, borne{deduct, min(c.copay, c.allowed-deduct), c.in})
		expectBear(t, bearing{c.allowed, b, c.ded, most, 1}, borne{0, min(c.copay, c.allowed), c.out})
	}
}

// Promise 15.1: in the network all three are cut to what is left of the limit, the deductible last of all; out of it none is.
func TestLimit(t *testing.T) {
	b := api.Benefit{Deduct: true, Copay: 20, Coins: 5000}
	for _, c := range []struct {
		oop  int64
		want borne
	}{
		{0, borne{}}, {1, borne{1, 0, 0}}, {29, borne{29, 0, 0}}, {30, borne{30, 0, 0}},
		{31, borne{30, 1, 0}}, {49, borne{30, 19, 0}}, {50, borne{30, 20, 0}},
		{51, borne{30, 20, 1}}, {74, borne{30, 20, 24}}, {75, borne{30, 20, 25}},
		{76, borne{30, 20, 25}}, {100, borne{30, 20, 25}}, {most, borne{30, 20, 25}},
	} {
		expectBear(t, bearing{100, b, 30, c.oop, 0}, c.want)
		for _, net := range []int{1, 2, -1, math.MaxInt, math.MinInt} {
			expectBear(t, bearing{100, b, 30, c.oop, net}, borne{0, 20, 40})
		}
	}
	// What is cut off of one is not borne as another: the coinsurance is of what was left ahead of the cut.
	expectBear(t, bearing{100, b, 30, 60, 0}, borne{30, 20, 10})
	expectBear(t, bearing{100, api.Benefit{Copay: 20, Coins: 5000}, 30, 20, 0}, borne{0, 20, 0})
	expectBear(t, bearing{100, api.Benefit{Coins: 5000}, 30, 20, 0}, borne{0, 0, 20})
	expectBear(t, bearing{most, api.Benefit{Coins: 10000}, 0, most - 1, 0}, borne{0, 0, most - 1})
}

// Promise 15.1: whether it is covered plays no part here.
func TestCoverPlaysNoPart(t *testing.T) {
	for _, cover := range []bool{false, true} {
		b := api.Benefit{Cover: cover, Deduct: true, Copay: 20, Coins: 5000}
		expectBear(t, bearing{100, b, 30, 60, 0}, borne{30, 20, 10})
		expectBear(t, bearing{100, b, 30, 60, 1}, borne{0, 20, 40})
	}
}

// Promise 15.1: ErrArg of each amount that is none, and of each Coins that is no part, where it would play no part, too.
func TestBearWrong(t *testing.T) {
	for _, x := range []bearing{
		{100, api.Benefit{Deduct: true, Copay: 20, Coins: 5000}, 30, 60, 0},
		{100, api.Benefit{Copay: 20, Coins: 5000}, 30, 60, 0},
		{100, api.Benefit{Deduct: true, Copay: 20, Coins: 5000}, 30, 60, 1},
		{0, api.Benefit{}, 0, 0, 0},
		{0, api.Benefit{}, 0, 0, 1},
		{10, api.Benefit{Deduct: true, Copay: 20, Coins: 10000}, 30, 0, 0},
		{most, api.Benefit{Deduct: true, Copay: most, Coins: 10000}, most, most, -1},
	} {
		if _, e := x.bear(); e != api.OK {
			t.Fatalf("Bear of %+v: %d", x, e)
		}
		for _, n := range noAmounts {
			a, c, d, o := x, x, x, x
			a.allowed, c.b.Copay, d.ded, o.oop = n, n, n, n
			for _, y := range []bearing{a, c, d, o} {
				expectNoBear(t, y)
			}
			expectNoBear(t, bearing{n, api.Benefit{Deduct: true, Copay: n, Coins: n}, n, n, x.net})
		}
		for _, n := range []int64{-1, 10001, -5000, -10000, 20000, 10000 + 1<<32, most, math.MinInt64, math.MaxInt64} {
			y := x
			y.b.Coins = n
			expectNoBear(t, y)
		}
	}
}

// Promise 15.2: the chapter's example, and the seventh of the whole.
func TestSettleExamples(t *testing.T) {
	expectSettle(t, settling{12000, 10000, 1000, 3000, 2000, 1000}, api.Out{Allowed: 10000, Prior: 1000, Plan: 4000, Deduct: 3000, Copay: 2000, Write: 2000})
	expectSettle(t, settling{10000, 7550, 0, 5000, 0, 510}, api.Out{Allowed: 7550, Plan: 2040, Deduct: 5000, Coins: 510, Write: 2450})
	expectSettle(t, settling{7550, 7550, 4000, 2000, 0, 0}, api.Out{Allowed: 7550, Prior: 4000, Plan: 3550})
	if m := Member(api.Out{Allowed: 10000, Prior: 1000, Plan: 4000, Deduct: 3000, Copay: 2000, Write: 2000}); m != 5000 {
		t.Errorf("the member bears %d", m)
	}
}

// Promise 15.2: what another payer paid is taken off the coinsurance first, then off the copay, the deductible, the plan's part; beyond that it is taken off what is written off.
func TestSettlePrior(t *testing.T) {
	for _, c := range []struct{ prior, plan, ded, copay, coins, write int64 }{
		{0, 40, 30, 20, 10, 20},
		{1, 40, 30, 20, 9, 20}, {9, 40, 30, 20, 1, 20}, {10, 40, 30, 20, 0, 20},
		{11, 40, 30, 19, 0, 20}, {29, 40, 30, 1, 0, 20}, {30, 40, 30, 0, 0, 20},
		{31, 40, 29, 0, 0, 20}, {59, 40, 1, 0, 0, 20}, {60, 40, 0, 0, 0, 20},
		{61, 39, 0, 0, 0, 20}, {99, 1, 0, 0, 0, 20}, {100, 0, 0, 0, 0, 20},
		{101, 0, 0, 0, 0, 19}, {119, 0, 0, 0, 0, 1}, {120, 0, 0, 0, 0, 0},
	} {
		want := api.Out{Allowed: 100, Prior: c.prior, Plan: c.plan, Deduct: c.ded, Copay: c.copay, Coins: c.coins, Write: c.write}
		expectSettle(t, settling{120, 100, c.prior, 30, 20, 10}, want)
	}
	expectNoSettle(t, settling{120, 100, 121, 30, 20, 10}, api.ErrRange)
}

// Promise 15.2: the edges: nothing, all of it, as much as there may be.
func TestSettleEdges(t *testing.T) {
	expectSettle(t, settling{}, api.Out{})
	expectSettle(t, settling{billed: 100}, api.Out{Write: 100})
	expectSettle(t, settling{billed: 100, prior: 100}, api.Out{Prior: 100})
	expectSettle(t, settling{billed: 100, prior: 99}, api.Out{Prior: 99, Write: 1})
	expectSettle(t, settling{billed: 100, allowed: 100}, api.Out{Allowed: 100, Plan: 100})
	expectSettle(t, settling{billed: 100, allowed: 99}, api.Out{Allowed: 99, Plan: 99, Write: 1})
	expectSettle(t, settling{100, 100, 100, 30, 20, 10}, api.Out{Allowed: 100, Prior: 100})
	expectSettle(t, settling{100, 1, 100, 1, 0, 0}, api.Out{Allowed: 1, Prior: 100})
	// All of it is borne.
	expectSettle(t, settling{100, 100, 0, 100, 0, 0}, api.Out{Allowed: 100, Deduct: 100})
	expectSettle(t, settling{100, 100, 0, 0, 100, 0}, api.Out{Allowed: 100, Copay: 100})
	expectSettle(t, settling{100, 100, 0, 0, 0, 100}, api.Out{Allowed: 100, Coins: 100})
	expectSettle(t, settling{100, 90, 0, 40, 30, 20}, api.Out{Allowed: 90, Deduct: 40, Copay: 30, Coins: 20, Write: 10})
	expectSettle(t, settling{100, 90, 60, 40, 30, 20}, api.Out{Allowed: 90, Prior: 60, Deduct: 30, Write: 10})
	// As much as there may be.
	expectSettle(t, settling{billed: most}, api.Out{Write: most})
	expectSettle(t, settling{billed: most, prior: most}, api.Out{Prior: most})
	expectSettle(t, settling{billed: most, allowed: most}, api.Out{Allowed: most, Plan: most})
	expectSettle(t, settling{most, most, most, most, 0, 0}, api.Out{Allowed: most, Prior: most})
	expectSettle(t, settling{most, most, 0, most - 2, 1, 1}, api.Out{Allowed: most, Deduct: most - 2, Copay: 1, Coins: 1})
	expectSettle(t, settling{most, most - 1, 0, 0, most - 1, 0}, api.Out{Allowed: most - 1, Copay: most - 1, Write: 1})
}

// Promise 15.2: ErrArg, if one is no amount, ahead of all else.
func TestSettleNoAmount(t *testing.T) {
	for _, x := range []settling{
		{120, 100, 10, 30, 20, 10},
		{},
		{most, most, most, most, 0, 0},
		// Of these one is out of range: ErrArg comes first.
		{100, 101, 0, 0, 0, 0}, {100, 100, 101, 0, 0, 0}, {100, 100, 0, 101, 0, 0}, {0, most, most, most, most, most},
	} {
		for _, n := range noAmounts {
			for i := range 6 {
				y := x
				*[]*int64{&y.billed, &y.allowed, &y.prior, &y.ded, &y.copay, &y.coins}[i] = n
				expectNoSettle(t, y, api.ErrArg)
			}
			expectNoSettle(t, settling{n, n, n, n, n, n}, api.ErrArg)
		}
	}
	// Together these would be less than allowed.
	expectNoSettle(t, settling{100, 100, 0, 101, -1, 0}, api.ErrArg)
	expectNoSettle(t, settling{100, 100, 0, 0, 101, -2}, api.ErrArg)
	expectNoSettle(t, settling{100, 100, 0, math.MaxInt64, math.MaxInt64, 2}, api.ErrArg)
}

// Promise 15.2: ErrRange, if more is allowed, or was paid, than is billed, or more is borne than is allowed.
func TestSettleRange(t *testing.T) {
	for _, x := range []settling{
		{100, 101, 0, 0, 0, 0}, {0, 1, 0, 0, 0, 0}, {most - 1, most, 0, 0, 0, 0}, {0, most, 0, 0, 0, 0},
		{100, 0, 101, 0, 0, 0}, {100, 100, 101, 0, 0, 0}, {0, 0, 1, 0, 0, 0}, {most - 1, 0, most, 0, 0, 0},
		{100, 90, 0, 91, 0, 0}, {100, 90, 0, 0, 91, 0}, {100, 90, 0, 0, 0, 91},
		{100, 90, 0, 90, 1, 0}, {100, 90, 0, 90, 0, 1}, {100, 90, 0, 0, 90, 1}, {100, 90, 0, 30, 30, 31},
		{100, 0, 0, 1, 0, 0}, {100, 0, 0, 0, 1, 0}, {100, 0, 0, 0, 0, 1}, {0, 0, 0, 0, 0, 1},
		// What another payer paid makes no room for what is borne.
		{100, 50, 100, 51, 0, 0}, {100, 50, 50, 50, 1, 0},
		// Together they are no amount.
		{most, most, 0, most, 1, 0}, {most, most, 0, most, 0, 1}, {most, most, 0, 0, most, 1},
		{most, most, 0, most, most, 0}, {most, most, most, most, most, most}, {0, 0, 0, most, most, most},
	} {
		expectNoSettle(t, x, api.ErrRange)
	}
}

func expectRefuse(t *testing.T, billed, prior int64, why int, want api.Out, wrong api.Errno) {
	t.Helper()
	if o, e := Refuse(billed, prior, why); e != wrong || o != want {
		t.Errorf("Refuse(%d, %d, %d): %+v, %d, want %+v, %d", billed, prior, why, o, e, want, wrong)
	}
}

// Promise 15.3: what becomes of a service that is denied, for whatever reason.
func TestRefuse(t *testing.T) {
	for _, why := range []int{api.DTwice, api.DCover, api.DBundle, api.DFee, api.DUnits, api.DEither, 1, 45, -1, 1000, math.MaxInt, math.MinInt, 1 << 32} {
		for _, c := range []struct{ billed, prior int64 }{
			{0, 0}, {1, 0}, {1, 1}, {100, 0}, {100, 40}, {100, 99}, {100, 100}, {most, 0}, {most, 1}, {most, most - 1}, {most, most},
		} {
			expectRefuse(t, c.billed, c.prior, why, api.Out{Prior: c.prior, Deny: why, Write: c.billed - c.prior}, api.OK)
			expectRefuse(t, c.billed, c.prior, api.DNone, api.Out{}, api.ErrArg)
		}
		for _, c := range []struct{ billed, prior int64 }{{0, 1}, {100, 101}, {100, most}, {most - 1, most}, {0, most}} {
			expectRefuse(t, c.billed, c.prior, why, api.Out{}, api.ErrRange)
			expectRefuse(t, c.billed, c.prior, api.DNone, api.Out{}, api.ErrArg)
		}
		for _, n := range noAmounts {
			for _, w := range []int{why, api.DNone} {
				expectRefuse(t, n, 0, w, api.Out{}, api.ErrArg)
				expectRefuse(t, 0, n, w, api.Out{}, api.ErrArg)
				expectRefuse(t, most, n, w, api.Out{}, api.ErrArg)
				expectRefuse(t, n, most, w, api.Out{}, api.ErrArg)
				expectRefuse(t, n, n, w, api.Out{}, api.ErrArg)
			}
		}
	}
}

// Promise 15.3: the three together, whatever else an Out says.
func TestMember(t *testing.T) {
	for _, c := range []struct {
		o    api.Out
		want int64
	}{
		{api.Out{}, 0},
		{api.Out{Deduct: 1}, 1}, {api.Out{Copay: 1}, 1}, {api.Out{Coins: 1}, 1},
		{api.Out{Deduct: 100, Copay: 20, Coins: 3}, 123},
		{api.Out{Allowed: 1, Plan: 2, Write: 3, Prior: 4, Deny: 5}, 0},
		{api.Out{Allowed: 9, Deduct: 100, Copay: 20, Coins: 3, Plan: 9, Write: 9, Prior: 9, Deny: 97}, 123},
		{api.Out{Deduct: most, Copay: most, Coins: most}, 3 * most},
		{api.Out{Deduct: -most, Copay: 1, Coins: -2}, -most - 1},
	} {
		if m := Member(c.o); m != c.want {
			t.Errorf("Member(%+v): %d, want %d", c.o, m, c.want)
		}
	}
}

// laid is amounts laid one behind the other, each cut where room ends: worked out from where they begin and end, in numbers that never go round.
func laid(room int64, list ...int64) []int64 {
	end, out := new(big.Int), []int64{}
	cut := func() *big.Int {
		if end.Cmp(big.NewInt(room)) > 0 {
			return big.NewInt(room)
		}
		return new(big.Int).Set(end)
	}
	for _, a := range list {
		begin := cut()
		end.Add(end, big.NewInt(a))
		out = append(out, new(big.Int).Sub(cut(), begin).Int64())
	}
	return out
}

func (x bearing) otherWay() borne {
	ded := x.ded
	if x.net != 0 || !x.b.Deduct {
		ded = 0
	}
	first := laid(x.allowed, ded, x.b.Copay, most)
	coins := new(big.Int).Mul(big.NewInt(first[2]), big.NewInt(x.b.Coins))
	first[2] = coins.Div(coins, big.NewInt(10000)).Int64()
	if x.net == 0 {
		first = laid(x.oop, first...)
	}
	return borne{first[0], first[1], first[2]}
}

func (x settling) otherWay() api.Out {
	rest := laid(x.allowed, x.prior, most)[1]
	plan := x.allowed - x.ded - x.copay - x.coins
	l := laid(rest, plan, x.ded, x.copay, x.coins)
	o := api.Out{Allowed: x.allowed, Prior: x.prior, Plan: l[0], Deduct: l[1], Copay: l[2], Coins: l[3]}
	o.Write = x.billed - x.prior
	for _, a := range l {
		o.Write -= a
	}
	return o
}

// amountBy is an amount from 0 to top, mostly near the edges that are told, or small ones.
func amountBy(r *rand.Rand, top int64, near ...int64) int64 {
	a := int64(0)
	switch k := r.Intn(6); {
	case k == 0:
		a = r.Int63n(top + 1)
	case k == 1:
		a = r.Int63n(20)
	case k == 2:
		a = top - r.Int63n(3)
	case len(near) > 0:
		a = near[r.Intn(len(near))] + r.Int63n(3) - 1
	}
	return min(max(a, 0), top)
}

func bearingBy(r *rand.Rand) bearing {
	top := []int64{10, 1000, 100000, most}[r.Intn(4)]
	x := bearing{allowed: amountBy(r, top), net: []int{0, 0, 0, 1, 2, -1}[r.Intn(6)]}
	x.b = api.Benefit{Cover: r.Intn(2) == 0, Deduct: r.Intn(4) > 0}
	x.ded = amountBy(r, top, x.allowed, x.allowed/2, x.allowed/3)
	left := max(x.allowed-x.ded, 0)
	x.b.Copay = amountBy(r, top, left, left/2, x.allowed)
	x.b.Coins = amountBy(r, 10000, 2000, 5000)
	x.oop = amountBy(r, top, x.ded, x.ded+x.b.Copay, x.allowed, x.allowed/2)
	return x
}

// Promise 15.1, held against another way, and 15.4: nothing is below nothing, no more than is allowed is borne, in the network no more than is left.
func TestBearByChance(t *testing.T) {
	r := rand.New(rand.NewSource(151))
	full, cut, out, half := 0, 0, 0, 0
	for range 200000 {
		x := bearingBy(r)
		expectBear(t, x, x.otherWay())
		got, _ := x.bear()
		total := got.deduct + got.copay + got.coins
		if got.deduct < 0 || got.copay < 0 || got.coins < 0 || total > x.allowed {
			t.Fatalf("Bear of %+v: %+v", x, got)
		}
		if x.net == 0 && (total > x.oop || got.deduct > x.ded) {
			t.Fatalf("Bear of %+v: %+v is more than is left", x, got)
		}
		free := x
		free.oop = most
		uncut, _ := free.bear()
		switch {
		case x.net != 0:
			out++
		case uncut != got:
			cut++
			if total != x.oop {
				t.Fatalf("Bear of %+v: %+v is cut to less than is left", x, got)
			}
		case total == x.allowed && total > 0:
			full++
		case got.deduct > 0 && got.copay > 0 && got.coins > 0:
			half++
		}
	}
	if min(full, cut, out, half) < 1000 {
		t.Errorf("too few were met: %d, %d, %d, %d", full, cut, out, half)
	}
}

func settlingBy(r *rand.Rand) settling {
	top := []int64{10, 1000, 100000, most}[r.Intn(4)]
	x := settling{billed: amountBy(r, top)}
	x.allowed = amountBy(r, x.billed, x.billed/2, x.billed/3)
	x.ded = amountBy(r, x.allowed, x.allowed/2, x.allowed/3)
	x.copay = amountBy(r, x.allowed-x.ded, (x.allowed-x.ded)/2)
	x.coins = amountBy(r, x.allowed-x.ded-x.copay, (x.allowed-x.ded-x.copay)/2)
	x.prior = amountBy(r, x.billed, x.allowed, x.ded+x.copay, x.ded+x.coins, x.copay+x.coins, x.coins, x.ded+x.copay+x.coins)
	return x
}

// whole is all that an Out says of what was billed.
func whole(o api.Out) int64 { return o.Prior + o.Plan + o.Deduct + o.Copay + o.Coins + o.Write }

func expectAll(t *testing.T, billed int64, o api.Out) {
	t.Helper()
	if whole(o) != billed {
		t.Fatalf("%+v: together %d, billed %d", o, whole(o), billed)
	}
	if min(o.Allowed, o.Prior, o.Plan, o.Deduct, o.Copay, o.Coins, o.Write) < 0 {
		t.Fatalf("%+v: something is below nothing", o)
	}
}

// Promise 15.2, held against another way, and 15.4: all of what was billed goes somewhere.
func TestSettleByChance(t *testing.T) {
	r := rand.New(rand.NewSource(152))
	above, none, some, helped := 0, 0, 0, 0
	for range 200000 {
		x := settlingBy(r)
		expectSettle(t, x, x.otherWay())
		o, _ := x.settle()
		expectAll(t, x.billed, o)
		if o.Deduct > x.ded || o.Copay > x.copay || o.Coins > x.coins || o.Plan > x.allowed {
			t.Fatalf("Settle of %+v: %+v", x, o)
		}
		switch {
		case x.prior > x.allowed:
			above++
		case x.prior == 0:
			none++
		case Member(o) == 0 && o.Plan > 0:
			helped++
		case Member(o) > 0:
			some++
		}
	}
	if min(above, none, some, helped) < 1000 {
		t.Errorf("too few were met: %d, %d, %d, %d", above, none, some, helped)
	}
}

// Promise 15.2: which calls are refused, held against what the chapter says in numbers that never go round.
func TestSettleErrorsByChance(t *testing.T) {
	r := rand.New(rand.NewSource(153))
	met := map[api.Errno]int{}
	pick := []int64{0, 1, 2, 3, 4, 5, most / 3, most/3 + 1, most / 2, most - 1, most, most + 1, -1, math.MaxInt64, math.MinInt64}
	for range 200000 {
		n, l := len(pick)-r.Intn(5), [6]int64{}
		want := api.OK
		for i := range l {
			l[i] = pick[r.Intn(n)]
			if l[i] < 0 || l[i] > most {
				want = api.ErrArg
			}
		}
		x := settling{l[0], l[1], l[2], l[3], l[4], l[5]}
		sum := new(big.Int)
		for _, a := range l[3:] {
			sum.Add(sum, big.NewInt(a))
		}
		if want == api.OK && (x.allowed > x.billed || x.prior > x.billed || sum.Cmp(big.NewInt(x.allowed)) > 0) {
			want = api.ErrRange
		}
		met[want]++
		if want == api.OK {
			expectSettle(t, x, x.otherWay())
		} else {
			expectNoSettle(t, x, want)
		}
	}
	if min(met[api.OK], met[api.ErrArg], met[api.ErrRange]) < 1000 {
		t.Errorf("too few were met: %v", met)
	}
}

// centByCent hands out so many cents one by one, each to the first one who still may have one.
func centByCent(cents int64, may ...int64) []int64 {
	got := make([]int64, len(may))
	for range cents {
		for i := range may {
			if got[i] < may[i] {
				got[i]++
				break
			}
		}
	}
	return got
}

// Promises 15.1 and 15.2: all small amounts there are, handed out cent by cent.
func TestSmallOnes(t *testing.T) {
	const top = 4
	for i := range int64(5 * 5 * 5 * 5 * 2 * 2) {
		x := bearing{allowed: i % 5, ded: i / 5 % 5, oop: i / 25 % 5, net: int(i / 125 % 2)}
		x.b = api.Benefit{Deduct: i/250%2 == 0, Copay: i / 500 % 5, Coins: 10000}
		ded := x.ded
		if !x.b.Deduct || x.net == 1 {
			ded = 0
		}
		got := centByCent(x.allowed, ded, x.b.Copay, top)
		if x.net == 0 {
			got = centByCent(x.oop, got...)
		}
		expectBear(t, x, borne{got[0], got[1], got[2]})
	}
	for i := range int64(5 * 5 * 5 * 5 * 5 * 5) {
		x := settling{i % 5, i / 5 % 5, i / 25 % 5, i / 125 % 5, i / 625 % 5, i / 3125 % 5}
		plan := x.allowed - x.ded - x.copay - x.coins
		if x.allowed > x.billed || x.prior > x.billed || plan < 0 {
			expectNoSettle(t, x, api.ErrRange)
			continue
		}
		// Of what is billed the other payer has his part first; he stands for cents that are allowed while there are some.
		got := centByCent(x.allowed, x.prior, plan, x.ded, x.copay, x.coins)
		o := api.Out{Allowed: x.allowed, Prior: x.prior, Plan: got[1], Deduct: got[2], Copay: got[3], Coins: got[4]}
		o.Write = x.billed - max(x.allowed, x.prior)
		expectSettle(t, x, o)
	}
}

// Promise 15.4: borne, then settled or refused: all goes somewhere, the member bears no more than was left of the limits, nor than is allowed.
func TestAllGoesSomewhere(t *testing.T) {
	r := rand.New(rand.NewSource(154))
	for range 100000 {
		x := bearingBy(r)
		billed := min(x.allowed+amountBy(r, most, 1, 100), most)
		prior := amountBy(r, billed, x.allowed, x.allowed/2)
		b, e := x.bear()
		if e != api.OK {
			t.Fatalf("Bear of %+v: %d", x, e)
		}
		o, e := Settle(billed, x.allowed, prior, b.deduct, b.copay, b.coins)
		if e != api.OK {
			t.Fatalf("Settle of %d, %+v, %d, %+v: %d", billed, x, prior, b, e)
		}
		expectAll(t, billed, o)
		if Member(o) > x.allowed || x.net == 0 && (Member(o) > x.oop || o.Deduct > x.ded) {
			t.Fatalf("%+v of %+v: more is borne than is left", o, x)
		}
		o, e = Refuse(billed, prior, api.DFee)
		if e != api.OK || Member(o) != 0 || o.Plan != 0 || o.Allowed != 0 {
			t.Fatalf("Refuse(%d, %d): %+v, %d", billed, prior, o, e)
		}
		expectAll(t, billed, o)
	}
}

// P6: a call answers as it did ahead, whatever came between; so nothing that was taken is kept.
func TestAlike(t *testing.T) {
	r := rand.New(rand.NewSource(155))
	var xs []bearing
	var ys []settling
	var bs []borne
	var os []api.Out
	for range 200 {
		x, y := bearingBy(r), settlingBy(r)
		b, _ := x.bear()
		o, _ := y.settle()
		xs, ys, bs, os = append(xs, x), append(ys, y), append(bs, b), append(os, o)
	}
	for range 2000 {
		i, j := r.Intn(len(xs)), r.Intn(len(ys))
		expectBear(t, xs[i], bs[i])
		expectSettle(t, ys[j], os[j])
	}
}
