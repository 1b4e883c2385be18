package remit

import (
	"fmt"
	"math"
	"slices"
	"strconv"
	"testing"

	"leechbook/api"
	"leechbook/svc"
)

const most = api.MaxCents

// entry is a claim of one service of that state, billed at n and paid all of it.
func entry(id string, state int, n int64) api.Entry {
	return part(id, state, n, n)
}

// part is a claim of one service of that state, billed at so much and paid so much of it, the rest written off.
func part(id string, state int, billed, paid int64) api.Entry {
	return api.Entry{
		Claim: api.Claim{Id: id, Lines: []api.Line{{Proc: "99213", Billed: billed}}}, State: state,
		Outs: []api.Out{{Plan: paid, Write: billed - paid}},
	}
}

// told is an entry as it is told.
func told(e api.Entry) api.Clp {
	x, err := svc.Of(e.Claim, e.Outs)
	if err != api.OK {
		panic(err)
	}
	return x
}

// now is so many entries as they are told.
func now(l ...api.Entry) []api.Clp {
	var made []api.Clp
	for _, e := range l {
		made = append(made, told(e))
	}
	return made
}

// back is an entry as it is told when it is taken back.
func back(e api.Entry) api.Clp { return svc.Back(told(e)) }

func list[T any](l ...T) []T { return l }

// plain is a value as a text; lists that are nil and empty ones are alike.
func plain(x any) string { return fmt.Sprintf("%+v", x) }

// expectMake holds all that Make answers; of the remittance its claims, what is paid and held.
func expectMake(t *testing.T, was []api.Clp, l []api.Entry, held int64, claims []api.Clp, paid, kept int64, next []api.Clp, left int64) {
	t.Helper()
	want := api.Remit{Number: 7, Paid: paid, Held: kept, Claims: claims}
	r, n, h, e := Make(7, was, l, held)
	if e != api.OK || plain(r) != plain(want) || plain(n) != plain(next) || h != left {
		t.Errorf("Make(7, %+v, %+v, %d): %+v, %+v, %d, %d, want %+v, %+v, %d", was, l, held, r, n, h, e, want, next, left)
	}
	if e := Check(r); e != api.OK {
		t.Errorf("%+v: %d", r, e)
	}
}

func expectNotMake(t *testing.T, number int, was []api.Clp, l []api.Entry, held int64, want api.Errno) {
	t.Helper()
	r, n, h, e := Make(number, was, l, held)
	if e != want || plain(r) != plain(api.Remit{}) || len(n) != 0 || h != 0 {
		t.Errorf("Make(%d, %+v, %+v, %d): %+v, %+v, %d, %d, want nothing and %d", number, was, l, held, r, n, h, e, want)
	}
}

func expectCheck(t *testing.T, r api.Remit, want api.Errno) {
	t.Helper()
	if e := Check(r); e != want {
		t.Errorf("Check(%+v): %d, want %d", r, e, want)
	}
}

// Promises 21.2 to 21.4: the chapter's example.
func TestExample(t *testing.T) {
	r, was, held, e := Make(1, nil, list(entry("C1", api.Live, 100)), 0)
	if e != api.OK || r.Number != 1 || r.Paid != 100 || r.Held != 0 || held != 0 || plain(r.Claims) != plain(now(entry("C1", 0, 100))) {
		t.Fatalf("%+v, %d, %d", r, held, e)
	}
	r, was, held, e = Make(2, was, list(entry("C1", api.Voided, 100), entry("C2", api.Live, 30)), held)
	if e != api.OK || r.Paid != 0 || r.Held != -70 || held != 70 || plain(r.Claims) != plain(list(back(entry("C1", 0, 100)), told(entry("C2", 0, 30)))) {
		t.Fatalf("%+v, %d, %d", r, held, e)
	}
	r, was, held, e = Make(3, was, list(entry("C1", api.Voided, 100), entry("C2", api.Live, 30), entry("C3", api.Live, 90)), held)
	if e != api.OK || r.Paid != 20 || r.Held != 70 || held != 0 || plain(r.Claims) != plain(now(entry("C3", 0, 90))) {
		t.Fatalf("%+v, %d, %d", r, held, e)
	}
	if plain(was) != plain(now(entry("C2", 0, 30), entry("C3", 0, 90))) {
		t.Errorf("%+v", was)
	}
}

// Promise 21.2: the ends of the number, and one past them.
func TestNumber(t *testing.T) {
	for _, n := range []int{0, 1, 999999998, 999999999} {
		r, was, held, e := Make(n, nil, list(entry("C1", 0, 5)), 0)
		if e != api.OK || r.Number != n || r.Paid != 5 || len(was) != 1 || held != 0 {
			t.Errorf("%d: %+v, %+v, %d, %d", n, r, was, held, e)
		}
		expectCheck(t, api.Remit{Number: n}, api.OK)
	}
	for _, n := range []int{-1, 1000000000, -2, 1000000001, math.MinInt, math.MaxInt} {
		expectNotMake(t, n, nil, list(entry("C1", 0, 5)), 0, api.ErrArg)
		expectNotMake(t, n, nil, nil, 0, api.ErrArg)
		expectCheck(t, api.Remit{Number: n}, api.ErrArg)
	}
}

// Promise 21.2: the ends of what is held, and one past them.
func TestHeldEnds(t *testing.T) {
	five := list(entry("C1", 0, 5))
	for _, held := range []int64{5, 6, 1<<60 - 1, 1 << 60} {
		expectMake(t, nil, five, held, now(five...), 0, 5, now(five...), held-5)
		expectMake(t, nil, nil, held, nil, 0, 0, nil, held)
	}
	for _, held := range []int64{-1, -2, 1<<60 + 1, math.MinInt64, math.MaxInt64, -1 << 60} {
		expectNotMake(t, 7, nil, five, held, api.ErrArg)
		expectNotMake(t, 7, nil, nil, held, api.ErrArg)
	}
}

// Promise 21.2: held is what was held, or, if that is less, what all are paid together; paid is the rest of that.
func TestHeld(t *testing.T) {
	c := list(entry("C1", 0, 60), entry("C2", 0, 40))
	for _, x := range []struct{ held, paid, kept, left int64 }{
		{0, 100, 0, 0}, {1, 99, 1, 0}, {99, 1, 99, 0}, {100, 0, 100, 0}, {101, 0, 100, 1}, {250, 0, 100, 150},
	} {
		expectMake(t, nil, c, x.held, now(c...), x.paid, x.kept, now(c...), x.left)
	}
	// Where as much is taken back as is paid, what was held stays.
	gone := list(entry("C1", api.Voided, 0), entry("C2", 0, 40))
	for _, held := range []int64{0, 1, 40, 1 << 60} {
		expectMake(t, now(entry("C1", 0, 40)), gone, held, list(back(entry("C1", 0, 40)), told(gone[1])), 0, 0, now(gone[1]), held)
	}
	// Where more is, it comes to what was held; so it may come above what a next one is handed.
	for _, held := range []int64{0, 1, 40, 1<<60 - 2, 1 << 60} {
		expectMake(t, now(entry("C1", 0, 42)), gone, held, list(back(entry("C1", 0, 42)), told(gone[1])), 0, -2, now(gone[1]), held+2)
	}
}

// Promise 21.2: none of anything is a remittance of nothing.
func TestNothing(t *testing.T) {
	expectMake(t, nil, nil, 0, nil, 0, 0, nil, 0)
	expectMake(t, []api.Clp{}, []api.Entry{}, 0, nil, 0, 0, nil, 0)
	expectMake(t, nil, list(entry("C1", api.Voided, 5), entry("C2", api.Replaced, 5)), 3, nil, 0, 0, nil, 3)
}

// Promise 21.2: an entry that is Live, and one that is not, with and without something told of it.
func TestEntries(t *testing.T) {
	five := entry("C1", 0, 5)
	expectMake(t, nil, list(five), 0, now(five), 5, 0, now(five), 0)
	expectMake(t, now(five), list(five), 0, nil, 0, 0, now(five), 0)
	for _, state := range []int{api.Voided, api.Replaced, 3, -1, math.MinInt, math.MaxInt} {
		gone := entry("C1", state, 5)
		expectMake(t, nil, list(gone), 0, nil, 0, 0, nil, 0)
		expectMake(t, now(five), list(gone), 0, list(back(five)), 0, -5, nil, 5)
		// Of what does not stand nothing is asked but its number, and it is taken back as it was told.
		expectMake(t, now(five), list(api.Entry{Claim: api.Claim{Id: "C1"}, State: state, Outs: []api.Out{{Plan: -1}}}), 0, list(back(five)), 0, -5, nil, 5)
		expectMake(t, nil, list(api.Entry{Claim: api.Claim{Id: "no code", Lines: []api.Line{{}}}, State: state}), 0, nil, 0, 0, nil, 0)
	}
}

// Promise 21.2: what is told is in the order of the entries, whatever the order of what was told.
func TestOrder(t *testing.T) {
	a, b, c, d := entry("A", 0, 1), entry("B", 0, 2), entry("C", 0, 4), entry("D", 0, 8)
	newer := part("D", 0, 100, 16)
	l := list(newer, entry("C", api.Replaced, 4), b, entry("A", api.Voided, 1), entry("E", 0, 32))
	claims := list(back(d), told(newer), back(c), back(a), told(l[4]))
	for _, was := range [][]api.Clp{now(a, b, c, d), now(d, c, b, a), now(b, d, a, c)} {
		expectMake(t, was, l, 0, claims, 16+32-8-4-1, 0, now(newer, b, l[4]), 0)
	}
}

// Promise 21.2: the same as what was told is told no more, but stands in what is told now.
func TestSame(t *testing.T) {
	l := list(entry("C1", 0, 5), part("C2", 0, 50, 0), entry("C3", 0, 0), part("C4", 0, most, most-1))
	expectMake(t, now(l...), l, 9, nil, 0, 0, now(l...), 9)
	// Adjustments that are none and an empty list are alike.
	was := now(l[0])
	was[0].Svcs[0].Cas = []api.Cas{}
	expectMake(t, was, l[:1], 0, nil, 0, 0, now(l[0]), 0)
}

// full is a claim with every kind of an adjustment.
func full() api.Entry {
	return api.Entry{
		Claim: api.Claim{Id: "C1", Lines: []api.Line{{Proc: "99213", Billed: 63}, {Proc: "J1100", Billed: 100}}},
		Outs:  []api.Out{{Plan: 1, Write: 2, Deduct: 4, Coins: 8, Copay: 16, Prior: 32}, {Write: 100, Deny: api.DCover}},
	}
}

// Promise 21.2: whatever is not the same is told anew, with what was told taken back ahead of it, even if as much is paid.
func TestChanged(t *testing.T) {
	for i, change := range []func(*api.Entry){
		func(e *api.Entry) { e.Claim.Lines[0].Proc = "99214" },
		func(e *api.Entry) { e.Claim.Lines[0].Billed++; e.Outs[0].Plan++ },
		func(e *api.Entry) { e.Claim.Lines[1].Billed--; e.Outs[1].Write-- },
		func(e *api.Entry) { e.Outs[0].Plan++; e.Outs[0].Write-- },
		func(e *api.Entry) { e.Outs[0].Deduct, e.Outs[0].Coins = 8, 4 },
		func(e *api.Entry) { e.Outs[0].Copay--; e.Outs[0].Prior++ },
		func(e *api.Entry) { e.Outs[0].Deny = api.DTwice },
		func(e *api.Entry) { e.Outs[1].Deny = api.DBundle },
		func(e *api.Entry) { e.Claim.Lines[1].Proc = "A0428" },
		func(e *api.Entry) {
			e.Claim.Lines, e.Outs = append(e.Claim.Lines, api.Line{Proc: "A0428"}), append(e.Outs, api.Out{})
		},
		func(e *api.Entry) {
			e.Claim.Lines, e.Outs = e.Claim.Lines[:1], e.Outs[:1]
		},
		func(e *api.Entry) {
			slices.Reverse(e.Claim.Lines)
			slices.Reverse(e.Outs)
		},
	} {
		e := full()
		change(&e)
		more := told(e).Paid - told(full()).Paid
		t.Run(strconv.Itoa(i), func(t *testing.T) {
			expectMake(t, now(full()), list(e), 0, list(back(full()), told(e)), more, 0, now(e), 0)
		})
	}
	// What is asked of a claim elsewhere alone is no change.
	e := full()
	e.Claim.Member, e.Claim.Does, e.Tables, e.Outs[0].Allowed = "M9", api.Replace, 3, 61
	expectMake(t, now(full()), list(e), 0, nil, 0, 0, now(full()), 0)
	// Told by adjustments in another order, it was not told the same.
	was := now(full())
	slices.Reverse(was[0].Svcs[0].Cas)
	expectMake(t, was, list(full()), 0, list(svc.Back(was[0]), told(full())), 0, 0, now(full()), 0)
}

// Promise 21.2: what was told is told of one entry alone, the first one of its number.
func TestTwoEntries(t *testing.T) {
	five, six := entry("C1", 0, 5), entry("C1", 0, 6)
	gone := entry("C1", api.Voided, 5)
	expectMake(t, now(five), list(gone, five), 0, list(back(five), told(five)), 0, 0, now(five), 0)
	expectMake(t, now(five), list(five, gone), 0, nil, 0, 0, now(five), 0)
	expectMake(t, now(five), list(gone, gone, gone), 0, list(back(five)), 0, -5, nil, 5)
	expectMake(t, now(five), list(six, five), 0, list(back(five), told(six), told(five)), 6, 0, now(six, five), 0)
	expectMake(t, now(five), list(five, five), 0, now(five), 5, 0, now(five, five), 0)
	expectMake(t, nil, list(five, six), 0, now(five, six), 11, 0, now(five, six), 0)
	// Told of twice, it is told twice now: the next remittance can't be.
	_, was, _, _ := Make(7, nil, list(five, six), 0)
	expectNotMake(t, 7, was, list(five, six), 0, api.ErrTwice)
}

// Promise 21.2: a number that was told twice.
func TestToldTwice(t *testing.T) {
	a, b := entry("A", 0, 1), entry("B", 0, 2)
	for _, was := range [][]api.Clp{now(a, a), now(a, b, a), now(a, b, b), now(b, a, b), now(a, part("A", 0, 9, 3))} {
		expectNotMake(t, 7, was, list(a, b), 0, api.ErrTwice)
		expectNotMake(t, 7, was, nil, 0, api.ErrTwice)
	}
	// A number within another one is not it.
	l := list(entry("A", 0, 1), entry("AA", 0, 1), entry("B", 0, 1))
	expectMake(t, now(l...), l, 0, nil, 0, 0, now(l...), 0)
}

// refused make of a claim what must not have been told: it is refused by svc.Check, or taken back.
func refused() []func(*api.Clp) {
	return []func(*api.Clp){
		func(x *api.Clp) { x.Status = 0 }, func(x *api.Clp) { x.Status = 2 }, func(x *api.Clp) { x.Status = -1 },
		func(x *api.Clp) { *x = svc.Back(*x) }, func(x *api.Clp) { x.Status = 22 },
		func(x *api.Clp) { x.Id = "" }, func(x *api.Clp) { x.Id = "c1" }, func(x *api.Clp) { x.Id = "ABCDEFGHIJKLM" },
		func(x *api.Clp) { x.Svcs = nil }, func(x *api.Clp) { x.Svcs = slices.Repeat(x.Svcs[:1], 1000) },
		func(x *api.Clp) { x.Svcs[0].Proc = "9921" }, func(x *api.Clp) { x.Svcs[0].Paid-- },
		func(x *api.Clp) { x.Paid++ }, func(x *api.Clp) { x.Billed++ }, func(x *api.Clp) { x.Member++ },
		func(x *api.Clp) { x.Svcs[1].Cas[0].Why = 0 }, func(x *api.Clp) { x.Svcs[1].Cas[0].Group = "PI" },
		func(x *api.Clp) { x.Svcs[1].Paid, x.Svcs[1].Cas[0].Cents = -1, 101 },
		func(x *api.Clp) { *x = api.Clp{} },
	}
}

// Promise 21.2: what was told of no Status 1, and what svc.Check refuses.
func TestToldRefused(t *testing.T) {
	for i, spoil := range refused() {
		x := told(full())
		spoil(&x)
		l := list(full(), entry(x.Id, 0, 1), entry("B", 0, 1))
		t.Run(strconv.Itoa(i), func(t *testing.T) {
			expectNotMake(t, 7, list(x), l, 0, api.ErrArg)
			expectNotMake(t, 7, append(now(entry("B", 0, 1)), x), l, 0, api.ErrArg)
			expectNotMake(t, 7, append(list(x), now(entry("B", 0, 1))...), nil, 0, api.ErrArg)
		})
	}
}

// Promise 21.2: told without an entry.
func TestNoEntry(t *testing.T) {
	a, b, c := entry("A", 0, 1), entry("B", 0, 2), entry("C", 0, 4)
	expectNotMake(t, 7, now(a), nil, 0, api.ErrNone)
	expectNotMake(t, 7, now(a), list(b), 0, api.ErrNone)
	expectNotMake(t, 7, now(a, b, c), list(a, b), 0, api.ErrNone)
	expectNotMake(t, 7, now(a, b, c), list(c, entry("B", api.Voided, 2)), 0, api.ErrNone)
	expectNotMake(t, 7, now(a, b), list(a, a), 0, api.ErrNone)
	expectMake(t, now(a, b, c), list(c, b, a), 0, nil, 0, 0, now(c, b, a), 0)
}

// Promise 21.2: the Outs that svc.Of refuses, with its error, of the first entry that it refuses.
func TestOutsRefused(t *testing.T) {
	a, b := full(), entry("B", 0, 1)
	spoilt := []struct {
		spoil func(*api.Entry)
		want  api.Errno
	}{
		{func(e *api.Entry) { e.Outs = e.Outs[:1] }, api.ErrArg},
		{func(e *api.Entry) { e.Outs = nil }, api.ErrArg},
		{func(e *api.Entry) { e.Outs = append(e.Outs, api.Out{}) }, api.ErrArg},
		{func(e *api.Entry) { e.Claim.Id = "c1" }, api.ErrCode},
		{func(e *api.Entry) { e.Claim.Lines[1].Proc = "J110" }, api.ErrCode},
		{func(e *api.Entry) { e.Claim.Lines, e.Outs = nil, nil }, api.ErrCount},
		{func(e *api.Entry) { e.Outs[0].Plan = -1 }, api.ErrMoney},
		{func(e *api.Entry) { e.Outs[1].Write = most + 1 }, api.ErrMoney},
		{func(e *api.Entry) { e.Outs[0].Plan++ }, api.ErrBalance},
	}
	for i, x := range spoilt {
		e := full()
		x.spoil(&e)
		t.Run(strconv.Itoa(i), func(t *testing.T) {
			expectNotMake(t, 7, nil, list(e), 0, x.want)
			expectNotMake(t, 7, now(b), list(b, e), 5, x.want)
			expectNotMake(t, 7, now(a, b), list(e, b), 0, x.want)
			expectNotMake(t, 7, nil, list(b, a, e), 0, x.want)
			for _, y := range spoilt {
				other := full()
				y.spoil(&other)
				expectNotMake(t, 7, nil, list(e, other), 0, x.want)
			}
			// It is asked of what is Live alone.
			e.State = api.Replaced
			expectMake(t, now(b), list(e, b), 0, nil, 0, 0, now(b), 0)
		})
	}
}

// Rule R6: which error is named where there are two.
func TestMakeErrorsOrder(t *testing.T) {
	a, b := entry("A", 0, 1), entry("B", 0, 2)
	wrong := entry("B", 0, 2)
	wrong.Outs[0].Plan = -1 // ErrMoney
	bad := told(b)
	bad.Status = 0
	badA := told(a)
	badA.Paid++
	twice := now(a, a)
	expectNotMake(t, -1, twice, list(wrong), -1, api.ErrArg)
	expectNotMake(t, -1, twice, list(wrong), 0, api.ErrArg)
	expectNotMake(t, 7, twice, list(wrong), -1, api.ErrArg)
	expectNotMake(t, -1, nil, list(wrong), 0, api.ErrArg)
	expectNotMake(t, 7, nil, list(wrong), -1, api.ErrArg)
	expectNotMake(t, 7, now(a), nil, 1<<60+1, api.ErrArg)
	expectNotMake(t, 1000000000, now(a), nil, 0, api.ErrArg)
	// Of what was told one by one; of the same one the number ahead of all else.
	expectNotMake(t, 7, append(now(a), badA), list(a), 0, api.ErrTwice)
	expectNotMake(t, 7, append(twice, bad), list(a, b), 0, api.ErrTwice)
	expectNotMake(t, 7, append(list(bad), twice...), list(a, b), 0, api.ErrArg)
	expectNotMake(t, 7, append(now(a), bad, told(a)), list(a, b), 0, api.ErrArg)
	// Two that may not be are refused for the first one, even if their numbers are the same.
	expectNotMake(t, 7, list(bad, bad), list(b), 0, api.ErrArg)
	expectNotMake(t, 7, list(api.Clp{}, api.Clp{}), nil, 0, api.ErrArg)
	// All of what was told comes ahead of the entries, these ahead of what has none.
	expectNotMake(t, 7, twice, list(wrong), 0, api.ErrTwice)
	expectNotMake(t, 7, list(bad), list(wrong), 0, api.ErrArg)
	expectNotMake(t, 7, now(a), list(wrong), 0, api.ErrMoney)
	expectNotMake(t, 7, twice, nil, 0, api.ErrTwice)
	expectNotMake(t, 7, list(bad), nil, 0, api.ErrArg)
}
