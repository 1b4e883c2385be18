package svc

import (
	"math"
	"slices"
	"testing"

	"leechbook/api"
)

// Promise 20.4: claims that may be, of both statuses.
func TestCheckOK(t *testing.T) {
	for _, s := range statuses {
		for _, x := range []api.Clp{
			two(s.status, s.sign),
			paidFor(s.status, api.Svc{Proc: "99213"}),
			paidFor(s.status, api.Svc{Proc: "00000", Billed: s.sign * most, Paid: s.sign * most}),
			paidFor(s.status, api.Svc{Proc: "ZZZZZ", Billed: s.sign * most, Cas: []api.Cas{cas("OA", 1, s.sign*most)}}),
			paidFor(s.status, api.Svc{Proc: "99213", Billed: s.sign * (most - 1), Paid: s.sign * (most - 1)}, api.Svc{Proc: "99213", Billed: s.sign, Cas: []api.Cas{cas("PR", 999, s.sign)}}),
		} {
			for _, id := range []string{"C1", "0", "Z", "ABCDEFGHIJKL", "012345678901"} {
				x.Id = id
				expectCheck(t, x, api.OK)
			}
		}
	}
	// The groups go with each reason, in each order, more than once.
	for _, l := range [][]api.Cas{
		{cas("OA", 23, 1), cas("PR", 1, 2), cas("CO", 45, 4)},
		{cas("PR", 45, 1), cas("PR", 45, 1)},
		{cas("CO", 1, 1), cas("CO", 2, 1), cas("CO", 3, 1), cas("CO", 3, 1), cas("CO", 3, 1)},
		{cas("OA", 999, 1), cas("PR", 999, 2)},
	} {
		s := api.Svc{Proc: "99213", Billed: 10, Cas: l}
		s.Paid = 10
		for _, a := range l {
			s.Paid -= a.Cents
		}
		expectCheck(t, paidFor(1, s), api.OK)
	}
}

// Promise 20.4: ErrCode of a wrong Id, and of a wrong Status.
func TestCheckHead(t *testing.T) {
	for _, s := range statuses {
		for _, id := range []string{"", "c1", "ABCDEFGHIJKLM", "C-1", " ", "C1 ", "Ä", "\xff", "C\x001"} {
			x := two(s.status, s.sign)
			x.Id = id
			expectCheck(t, x, api.ErrCode)
		}
		for _, status := range []int{0, 2, -1, 21, 23, -22, 4, 1 << 32, 1<<32 + 1, math.MaxInt, math.MinInt} {
			x := two(status, s.sign)
			expectCheck(t, x, api.ErrCode)
		}
	}
}

// Promise 20.4: ErrCount of no service, and of more than MaxLines.
func TestCheckServices(t *testing.T) {
	for _, status := range []int{1, 22} {
		expectCheck(t, api.Clp{Id: "C1", Status: status}, api.ErrCount)
		expectCheck(t, api.Clp{Id: "C1", Status: status, Svcs: []api.Svc{}}, api.ErrCount)
		expectCheck(t, api.Clp{Id: "C1", Status: status, Svcs: make([]api.Svc, 5)[:0]}, api.ErrCount)
	}
	for n, want := range map[int]api.Errno{1: api.OK, api.MaxLines - 1: api.OK, api.MaxLines: api.OK, api.MaxLines + 1: api.ErrCount, 1 << 16: api.ErrCount} {
		expectCheck(t, many(n), want)
		expectCheck(t, Back(many(n)), want)
	}
}

// Promise 20.4: ErrCode of a wrong Proc, of the first service or the last one.
func TestCheckProc(t *testing.T) {
	for _, s := range statuses {
		for _, proc := range []string{"", "9", "9921", "992131", "9921a", "9921 ", "99.13", "992Ä", "9921\x00"} {
			for i := range 2 {
				x := two(s.status, s.sign)
				x.Svcs[i].Proc = proc
				expectCheck(t, x, api.ErrCode)
			}
		}
	}
}

// Promise 20.4: five adjustments may be, six and more may not, whatever they are.
func TestCheckAdjustments(t *testing.T) {
	for n := range 12 {
		want := api.OK
		if n > 5 {
			want = api.ErrCount
		}
		l := slices.Repeat([]api.Cas{cas("PR", 2, 1)}, n)
		x := paidFor(1, api.Svc{Proc: "99213", Billed: int64(n) + 7, Paid: 7, Cas: l})
		expectCheck(t, x, want)
		expectCheck(t, Back(x), want)
		if n > 5 {
			l[0], x.Svcs[0].Billed = api.Cas{}, -1
			expectCheck(t, x, api.ErrCount)
		}
	}
}

// Promise 20.4: ErrCode of each Group but three, and of each Why but 1 to 999.
func TestCheckCodes(t *testing.T) {
	for _, s := range statuses {
		for i := range two(1, 1).Svcs {
			for k := range two(1, 1).Svcs[i].Cas {
				for _, group := range []string{"", "C", "CO ", "co", "PI", "CR", "OP", "OC", "PRO", "C0", "\xffCO"} {
					x := two(s.status, s.sign)
					x.Svcs[i].Cas[k].Group = group
					expectCheck(t, x, api.ErrCode)
				}
				for _, why := range []int{0, -1, 1000, 1001, -999, 1<<32 + 1, math.MaxInt, math.MinInt} {
					x := two(s.status, s.sign)
					x.Svcs[i].Cas[k].Why = why
					expectCheck(t, x, api.ErrCode)
				}
				for _, why := range []int{1, 2, 22, 24, 998, 999} {
					x := two(s.status, s.sign)
					x.Svcs[i].Cas[k].Why = why
					expectCheck(t, x, api.OK)
				}
			}
		}
	}
}

// Promise 20.4: ErrMoney of each amount of a service that is none, and, taken back, that is no amount's opposite.
func TestCheckMoney(t *testing.T) {
	for _, s := range statuses {
		x := two(s.status, s.sign)
		for i := range amountsOf(&x)[3:] {
			for _, n := range noAmounts {
				y := two(s.status, s.sign)
				*amountsOf(&y)[3+i] = s.sign * n
				expectCheck(t, y, api.ErrMoney)
				// Balanced by its own service it is ErrMoney, too.
				y = paidFor(s.status, y.Svcs...)
				expectCheck(t, y, api.ErrMoney)
			}
		}
	}
	// An adjustment of nothing is none; nothing billed and nothing paid are amounts.
	for _, s := range statuses {
		expectCheck(t, paidFor(s.status, api.Svc{Proc: "99213", Cas: []api.Cas{cas("CO", 45, 0)}}), api.ErrMoney)
		expectCheck(t, paidFor(s.status, api.Svc{Proc: "99213", Billed: s.sign * 5, Paid: s.sign * 4, Cas: []api.Cas{cas("CO", 45, 0), cas("PR", 1, s.sign)}}), api.ErrMoney)
		expectCheck(t, paidFor(s.status, api.Svc{Proc: "99213", Billed: s.sign * 5, Paid: s.sign * 4, Cas: []api.Cas{cas("PR", 1, s.sign), cas("CO", 45, 0)}}), api.ErrMoney)
		expectCheck(t, paidFor(s.status, api.Svc{Proc: "99213", Billed: s.sign, Cas: []api.Cas{cas("PR", 1, s.sign)}}), api.OK)
	}
	// Amounts of the other status, as which they balance.
	expectCheck(t, two(1, -1), api.ErrMoney)
	expectCheck(t, two(22, 1), api.ErrMoney)
	expectCheck(t, paidFor(1, api.Svc{Proc: "99213", Billed: 2, Paid: 3, Cas: []api.Cas{cas("CO", 45, -1)}}), api.ErrMoney)
	expectCheck(t, paidFor(22, api.Svc{Proc: "99213", Billed: -2, Paid: -3, Cas: []api.Cas{cas("CO", 45, 1)}}), api.ErrMoney)
	expectCheck(t, paidFor(1, api.Svc{Proc: "99213", Billed: 2, Paid: -1, Cas: []api.Cas{cas("CO", 45, 3)}}), api.ErrMoney)
}

// Promise 20.4: ErrBalance of a service that is billed at more or less than it is paid and adjusted, the sums being right.
func TestCheckServiceBalance(t *testing.T) {
	for _, s := range statuses {
		for i := range amountsOf(new(two(1, 1)))[3:] {
			for _, d := range []int64{1, -1, 2} {
				x := two(s.status, s.sign)
				*amountsOf(&x)[3+i] += d * s.sign
				expectCheck(t, paidFor(s.status, x.Svcs...), api.ErrBalance)
			}
		}
		// What is too much in one service is too little in the other one.
		x := two(s.status, s.sign)
		x.Svcs[0].Paid += s.sign
		x.Svcs[1].Paid -= s.sign
		expectCheck(t, x, api.ErrBalance)
		x = two(s.status, s.sign)
		x.Svcs[0].Cas = x.Svcs[0].Cas[:3]
		expectCheck(t, paidFor(s.status, x.Svcs...), api.ErrBalance)
	}
	for _, s := range statuses {
		const n = most
		l := []api.Cas{cas("CO", 45, s.sign*n), cas("PR", 1, s.sign*n), cas("PR", 2, s.sign*n), cas("PR", 3, s.sign*n), cas("OA", 23, s.sign*n)}
		expectCheck(t, paidFor(s.status, api.Svc{Proc: "99213", Billed: s.sign * n, Paid: s.sign * n, Cas: l}), api.ErrBalance)
		expectCheck(t, paidFor(s.status, api.Svc{Proc: "99213", Cas: l}), api.ErrBalance)
	}
}

// Promise 20.4: ErrBalance of a claim whose sums are not those of its services.
func TestCheckSums(t *testing.T) {
	for _, s := range statuses {
		for i := range 3 {
			for _, d := range []int64{1, -1, 5, most, math.MaxInt64, math.MinInt64} {
				x := two(s.status, s.sign)
				*amountsOf(&x)[i] += d
				expectCheck(t, x, api.ErrBalance)
			}
			x := two(s.status, s.sign)
			*amountsOf(&x)[i] *= -1
			expectCheck(t, x, api.ErrBalance)
			*amountsOf(&x)[i] = 0
			expectCheck(t, x, api.ErrBalance)
		}
		// Member is what the adjustments PR are, whatever their reasons, and no others.
		x := two(s.status, s.sign)
		x.Svcs[0].Cas[0].Group = "PR"
		expectCheck(t, x, api.ErrBalance)
		x.Member += s.sign * 20
		expectCheck(t, x, api.OK)
		x.Svcs[1].Cas[1].Group = "OA"
		expectCheck(t, x, api.ErrBalance)
		x.Member -= s.sign * 7
		expectCheck(t, x, api.OK)
	}
}

// Promise 20.4: ErrBalance of a claim that is billed at more than an amount may be, though all of its services may be.
func TestCheckTotal(t *testing.T) {
	for _, s := range statuses {
		whole := api.Svc{Proc: "99213", Billed: s.sign * most, Paid: s.sign * most}
		cent := api.Svc{Proc: "99213", Billed: s.sign, Cas: []api.Cas{cas("PR", 1, s.sign)}}
		rest := api.Svc{Proc: "99213", Billed: s.sign * (most - 1), Cas: []api.Cas{cas("CO", 45, s.sign*(most-1))}}
		expectCheck(t, paidFor(s.status, whole), api.OK)
		expectCheck(t, paidFor(s.status, cent, rest), api.OK)
		expectCheck(t, paidFor(s.status, whole, cent), api.ErrBalance)
		expectCheck(t, paidFor(s.status, rest, cent, cent), api.ErrBalance)
		expectCheck(t, paidFor(s.status, whole, whole), api.ErrBalance)
		expectCheck(t, paidFor(s.status, slices.Repeat([]api.Svc{whole}, api.MaxLines)...), api.ErrBalance)
	}
}

// Promise 20.4: amounts never go round: these come round to what would balance.
func TestCheckGoesNotRound(t *testing.T) {
	const high, low = math.MaxInt64, math.MinInt64
	for _, s := range []api.Svc{
		{Proc: "99213", Billed: 100, Paid: high, Cas: []api.Cas{cas("CO", 45, high), cas("PR", 1, 102)}},
		{Proc: "99213", Billed: 100, Paid: 100, Cas: []api.Cas{cas("CO", 45, low), cas("PR", 1, low)}},
		{Proc: "99213", Billed: low, Paid: high, Cas: []api.Cas{cas("CO", 45, 1)}},
		{Proc: "99213", Billed: low, Paid: 0, Cas: []api.Cas{cas("CO", 45, low)}},
		{Proc: "99213", Billed: 100, Paid: 100, Cas: []api.Cas{cas("CO", 45, 1<<62), cas("CO", 45, 1<<62), cas("CO", 45, 1<<62), cas("CO", 45, 1<<62)}},
	} {
		sum := s.Paid
		for _, a := range s.Cas {
			sum += a.Cents
		}
		if sum != s.Billed {
			t.Fatalf("%+v comes round to %d", s, sum)
		}
		for _, status := range []int{1, 22} {
			expectCheck(t, paidFor(status, s), api.ErrMoney)
			expectCheck(t, Back(paidFor(status, s)), api.ErrMoney)
		}
	}
	least := api.Svc{Proc: "99213", Billed: low, Paid: low}
	expectCheck(t, paidFor(22, least, least), api.ErrMoney)
	expectCheck(t, paidFor(22, least), api.ErrMoney)
	expectCheck(t, paidFor(1, least), api.ErrMoney)
}

// fault is one thing that is wrong with a claim.
type fault struct {
	e   api.Errno
	put func(x *api.Clp, sign int64)
}

// faults are things that are wrong with a claim of two services, in the order in which they are to be told.
func faults() []fault {
	l := []fault{
		{api.ErrCode, func(x *api.Clp, _ int64) { x.Id = "c" }},
		{api.ErrCode, func(x *api.Clp, _ int64) { x.Status = 2 }},
		{api.ErrCount, func(x *api.Clp, _ int64) { x.Svcs = slices.Concat(x.Svcs, make([]api.Svc, api.MaxLines+1)) }},
		{api.ErrCount, func(x *api.Clp, _ int64) { x.Svcs = nil }},
	}
	for i := range 2 {
		l = append(l,
			fault{api.ErrCode, func(x *api.Clp, _ int64) { x.Svcs[i].Proc = "9921" }},
			fault{api.ErrCount, func(x *api.Clp, _ int64) { x.Svcs[i].Cas = slices.Concat(x.Svcs[i].Cas, make([]api.Cas, 4)) }},
			fault{api.ErrMoney, func(x *api.Clp, sign int64) { x.Svcs[i].Billed = sign * (most + 1) }},
			fault{api.ErrMoney, func(x *api.Clp, sign int64) { x.Svcs[i].Paid = -sign }},
		)
		for k := range 2 {
			l = append(l,
				fault{api.ErrCode, func(x *api.Clp, _ int64) { x.Svcs[i].Cas[k].Group = "PI" }},
				fault{api.ErrCode, func(x *api.Clp, _ int64) { x.Svcs[i].Cas[k].Why = 1000 }},
				fault{api.ErrMoney, func(x *api.Clp, _ int64) { x.Svcs[i].Cas[k].Cents = 0 }},
				fault{api.ErrMoney, func(x *api.Clp, sign int64) { x.Svcs[i].Cas[k].Cents = -sign }},
			)
		}
		l = append(l, fault{api.ErrBalance, func(x *api.Clp, sign int64) { x.Svcs[i].Billed += sign }})
	}
	return append(l,
		fault{api.ErrBalance, func(x *api.Clp, sign int64) { x.Billed += sign }},
		fault{api.ErrBalance, func(x *api.Clp, sign int64) { x.Paid = -x.Paid }},
		fault{api.ErrBalance, func(x *api.Clp, sign int64) { x.Member = 0 }},
	)
}

// Promise 20.4, rule R6: of each two things that are wrong, the one that is named first is told; and of all from one on.
func TestCheckFirst(t *testing.T) {
	l := faults()
	for _, s := range statuses {
		for i, first := range l {
			all := two(s.status, s.sign)
			for k := len(l) - 1; k >= i; k-- {
				// Those named later are put in ahead of the first, so that it stays as it is.
				x := two(s.status, s.sign)
				l[k].put(&x, s.sign)
				if k != i {
					first.put(&x, s.sign)
				}
				if e := Check(x); e != first.e {
					t.Errorf("faults %d and %d of %d: %d, want %d", i, k, s.status, e, first.e)
				}
				l[k].put(&all, s.sign)
			}
			if e := Check(all); e != first.e {
				t.Errorf("all faults from %d on: %d, want %d", i, e, first.e)
			}
		}
	}
}

// changes are all fields of a claim of two services, each changed alone.
func changes() []func(*api.Clp) {
	return []func(*api.Clp){
		func(x *api.Clp) { x.Id = "C2" }, func(x *api.Clp) { x.Id = "" }, func(x *api.Clp) { x.Id = "c1" },
		func(x *api.Clp) { x.Status++ }, func(x *api.Clp) { x.Status = 0 },
		func(x *api.Clp) { x.Billed++ }, func(x *api.Clp) { x.Billed = -x.Billed },
		func(x *api.Clp) { x.Paid++ }, func(x *api.Clp) { x.Paid = -x.Paid },
		func(x *api.Clp) { x.Member++ }, func(x *api.Clp) { x.Member = -x.Member },
		func(x *api.Clp) { x.Svcs = nil }, func(x *api.Clp) { x.Svcs = x.Svcs[:1] }, func(x *api.Clp) { x.Svcs = x.Svcs[1:] },
		func(x *api.Clp) { x.Svcs = append(x.Svcs, api.Svc{}) }, func(x *api.Clp) { x.Svcs = append(x.Svcs, x.Svcs[1]) },
		func(x *api.Clp) { x.Svcs[0], x.Svcs[1] = x.Svcs[1], x.Svcs[0] },
	}
}

// changesOf are all fields of a service, each changed alone.
func changesOf(i int) []func(*api.Clp) {
	return []func(*api.Clp){
		func(x *api.Clp) { x.Svcs[i].Proc = "99214" }, func(x *api.Clp) { x.Svcs[i].Proc = "" },
		func(x *api.Clp) { x.Svcs[i].Billed++ }, func(x *api.Clp) { x.Svcs[i].Paid++ },
		func(x *api.Clp) { x.Svcs[i].Cas = nil }, func(x *api.Clp) { x.Svcs[i].Cas = x.Svcs[i].Cas[1:] },
		func(x *api.Clp) { x.Svcs[i].Cas = append(x.Svcs[i].Cas, api.Cas{}) },
		func(x *api.Clp) { l := x.Svcs[i].Cas; l[0], l[1] = l[1], l[0] },
		func(x *api.Clp) { x.Svcs[i].Cas[0].Group = "OA" }, func(x *api.Clp) { x.Svcs[i].Cas[0].Why++ }, func(x *api.Clp) { x.Svcs[i].Cas[0].Cents++ },
		func(x *api.Clp) { x.Svcs[i].Cas[1].Group = "CO" }, func(x *api.Clp) { x.Svcs[i].Cas[1].Why-- }, func(x *api.Clp) { x.Svcs[i].Cas[1].Cents-- },
	}
}

// Promise 20.5: two that are alike, and two that differ in one field alone.
func TestSame(t *testing.T) {
	for _, s := range statuses {
		l := slices.Concat(changes(), changesOf(0), changesOf(1))
		if a, b := two(s.status, s.sign), two(s.status, s.sign); !Same(a, b) || !Same(a, a) {
			t.Errorf("%+v is not the same as %+v", a, b)
		}
		for i, change := range l {
			a, b, c := two(s.status, s.sign), two(s.status, s.sign), two(s.status, s.sign)
			change(&b)
			change(&c)
			if Same(a, b) || Same(b, a) {
				t.Errorf("change %d: %+v is the same as %+v", i, a, b)
			}
			if !Same(b, c) {
				t.Errorf("change %d: %+v is not the same as %+v", i, b, c)
			}
		}
	}
	if Same(two(1, 1), Back(two(1, 1))) || !Same(two(22, -1), Back(two(1, 1))) {
		t.Errorf("taken back")
	}
	if !Same(many(api.MaxLines), many(api.MaxLines)) || Same(many(api.MaxLines), many(api.MaxLines-1)) {
		t.Errorf("many services")
	}
}

// Rule R3: a list that is nil and one without elements are the same, to Same, Check and Back.
func TestEmptyLists(t *testing.T) {
	bare, empty := api.Clp{}, api.Clp{Svcs: []api.Svc{}}
	if !Same(bare, empty) || !Same(empty, bare) || !Same(bare, bare) || !Same(Back(bare), Back(empty)) {
		t.Errorf("without services")
	}
	bare = paidFor(1, api.Svc{Proc: "99213", Billed: 1, Paid: 1})
	empty = paidFor(1, api.Svc{Proc: "99213", Billed: 1, Paid: 1, Cas: []api.Cas{}})
	if !Same(bare, empty) || !Same(empty, bare) || !Same(Back(bare), Back(empty)) || Check(empty) != api.OK {
		t.Errorf("without adjustments")
	}
}
