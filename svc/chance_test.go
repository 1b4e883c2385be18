package svc

import (
	"fmt"
	"math"
	"math/big"
	"math/rand"
	"slices"
	"testing"

	"leechbook/api"
	"leechbook/share"
)

func pick[T any](r *rand.Rand, l ...T) T { return l[r.Intn(len(l))] }

// rarely picks one of the others now and then, and the usual one else.
func rarely[T any](r *rand.Rand, usual T, others ...T) T {
	if r.Intn(60) > 0 {
		return usual
	}
	return pick(r, others...)
}

func isCode(s string, from, to int) bool {
	for _, b := range []byte(s) {
		if !(b >= 'A' && b <= 'Z') && !(b >= '0' && b <= '9') {
			return false
		}
	}
	return len(s) >= from && len(s) <= to
}

// another is Check in numbers without a bound, all of a taken back claim's turned round ahead of it.
func another(x api.Clp) api.Errno {
	turn := func(n int64) *big.Int {
		b := big.NewInt(n)
		if x.Status == 22 {
			b.Neg(b)
		}
		return b
	}
	amount := func(b *big.Int) bool { return b.Sign() >= 0 && b.Cmp(big.NewInt(most)) <= 0 }
	if !isCode(x.Id, 1, 12) || !slices.Contains([]int{1, 22}, x.Status) {
		return api.ErrCode
	}
	if len(x.Svcs) == 0 || len(x.Svcs) > 999 {
		return api.ErrCount
	}
	left := map[string]*big.Int{"billed": turn(x.Billed), "paid": turn(x.Paid), "PR": turn(x.Member), "CO": new(big.Int), "OA": new(big.Int)}
	for _, s := range x.Svcs {
		billed, paid := turn(s.Billed), turn(s.Paid)
		left["billed"].Sub(left["billed"], billed)
		left["paid"].Sub(left["paid"], paid)
		switch {
		case !isCode(s.Proc, 5, 5):
			return api.ErrCode
		case len(s.Cas) >= 6:
			return api.ErrCount
		case !amount(billed) || !amount(paid):
			return api.ErrMoney
		}
		rest := billed.Sub(billed, paid)
		for _, a := range s.Cas {
			if !slices.Contains([]string{"CO", "PR", "OA"}, a.Group) || a.Why <= 0 || a.Why >= 1000 {
				return api.ErrCode
			}
			if n := turn(a.Cents); n.Sign() == 0 || !amount(n) {
				return api.ErrMoney
			}
			left[a.Group].Sub(left[a.Group], turn(a.Cents))
			rest.Sub(rest, turn(a.Cents))
		}
		if rest.Sign() != 0 {
			return api.ErrBalance
		}
	}
	if left["billed"].Sign() != 0 || left["paid"].Sign() != 0 || left["PR"].Sign() != 0 || !amount(turn(x.Billed)) {
		return api.ErrBalance
	}
	return api.OK
}

// odd is a number at which a rule may turn.
func odd(r *rand.Rand) int64 {
	return pick(r, int64(0), 1, -1, most, most+1, -most, -most-1, math.MaxInt64, math.MinInt64, 1<<62, -1<<62)
}

// claimBy is a claim by chance of which most may be.
func claimBy(r *rand.Rand) api.Clp {
	var services []api.Svc
	for range rarely(r, 1+r.Intn(4), 0) {
		s := api.Svc{Proc: rarely(r, pick(r, "99213", "J1100", "A0428"), "", "9921", "992133", "j1100")}
		for range rarely(r, r.Intn(6), 6, 7) {
			n := pick(r, int64(1), 5, 100, most/30)
			s.Billed += n
			s.Cas = append(s.Cas, cas(rarely(r, pick(r, "CO", "PR", "OA"), "", "PI", "pr"), rarely(r, 1+r.Intn(999), 0, -1, 1000), rarely(r, n, odd(r))))
		}
		n := pick(r, int64(0), 1, 50, most/30)
		s.Billed = rarely(r, s.Billed+n, odd(r), s.Billed)
		s.Paid = rarely(r, n, odd(r), n+1)
		services = append(services, s)
	}
	x := paidFor(1, services...)
	x.Id = rarely(r, "C1", "", "c", "ABCDEFGHIJKL", "ABCDEFGHIJKLM")
	x.Billed = rarely(r, x.Billed, odd(r), x.Billed+1)
	x.Paid = rarely(r, x.Paid, odd(r), x.Paid-1)
	x.Member = rarely(r, x.Member, odd(r), x.Member+1)
	x.Status = rarely(r, 1, 0, 22, -1, 2)
	if r.Intn(2) == 0 {
		x = Back(x)
	}
	return x
}

// Promises 20.3 to 20.5, held against another way.
func TestCheckByChance(t *testing.T) {
	r := rand.New(rand.NewSource(20))
	seen := map[api.Errno]int{}
	var last api.Clp
	for range 100000 {
		x := claimBy(r)
		was := plain(x)
		want := another(x)
		seen[want]++
		if e := Check(x); e != want {
			t.Fatalf("Check(%+v): %d, want %d", x, e, want)
		}
		if want == api.OK {
			if b := Back(x); x.Status == 1 && Check(b) != api.OK {
				t.Fatalf("%+v taken back: %+v, %d", x, b, Check(b))
			}
		}
		if Same(x, last) != (was == plain(last)) || !Same(x, x) {
			t.Fatalf("Same(%+v, %+v): %v", x, last, Same(x, last))
		}
		if plain(x) != was {
			t.Fatalf("%s became %+v", was, x)
		}
		last = x
	}
	for _, e := range []api.Errno{api.OK, api.ErrCode, api.ErrCount, api.ErrMoney, api.ErrBalance} {
		if seen[e] < 500 {
			t.Errorf("%d was told %d times alone", e, seen[e])
		}
	}
}

// settled is what becomes of a service by chance, by the layer that says so.
func settled(t *testing.T, r *rand.Rand, billed int64) api.Out {
	part := func(n int64) int64 { return pick(r, 0, n, n/2, r.Int63n(n+1)) }
	prior := part(billed)
	o, e := api.Out{}, api.OK
	if r.Intn(3) == 0 {
		o, e = share.Refuse(billed, prior, pick(r, api.DTwice, api.DCover, api.DBundle, api.DFee, api.DUnits, api.DEither))
	} else {
		allowed := part(billed)
		ded := part(allowed)
		copay := part(allowed - ded)
		o, e = share.Settle(billed, allowed, prior, ded, copay, part(allowed-ded-copay))
	}
	if e != api.OK {
		t.Fatalf("%d: %+v, %d", billed, o, e)
	}
	return o
}

// expectToldOf holds a service's line against what became of it, amount by amount.
func expectToldOf(t *testing.T, s api.Svc, l api.Line, o api.Out) {
	t.Helper()
	why := map[bool]int{true: 45, false: o.Deny}[o.Deny == 0]
	told := map[string]int64{}
	order := ""
	for _, a := range s.Cas {
		k := fmt.Sprint(a.Group, a.Why, " ")
		told[k] += a.Cents
		order += k
	}
	want := ""
	for _, a := range []struct {
		k string
		n int64
	}{{fmt.Sprint("CO", why, " "), o.Write}, {"PR1 ", o.Deduct}, {"PR2 ", o.Coins}, {"PR3 ", o.Copay}, {"OA23 ", o.Prior}} {
		if a.n > 0 {
			want += a.k
		}
		if told[a.k] != a.n {
			t.Fatalf("%+v of %+v: %s is %d", s, o, a.k, told[a.k])
		}
	}
	if order != want || s.Proc != l.Proc || s.Billed != l.Billed || s.Paid != o.Plan {
		t.Fatalf("%+v of %+v and %+v", s, l, o)
	}
}

// Promises 20.1, 20.2 and 20.6: what becomes of services is told to the cent, and what was billed is what is paid and all adjustments together.
func TestOfByChance(t *testing.T) {
	r := rand.New(rand.NewSource(206))
	for range 20000 {
		c := claimOf()
		var outs []api.Out
		billed, paid, member := int64(0), int64(0), int64(0)
		for range 1 + r.Intn(6) {
			l := visit(pick(r, 0, 1, 2, 100, r.Int63n(10000), most/6))
			o := settled(t, r, l.Billed)
			c.Lines, outs = append(c.Lines, l), append(outs, o)
			billed, paid, member = billed+l.Billed, paid+o.Plan, member+share.Member(o)
		}
		x, e := Of(c, outs)
		if e != api.OK || len(x.Svcs) != len(outs) || Check(x) != api.OK {
			t.Fatalf("Of(%+v, %+v): %+v, %d", c, outs, x, e)
		}
		if x.Id != c.Id || x.Status != 1 || x.Billed != billed || x.Paid != paid || x.Member != member {
			t.Fatalf("Of(%+v, %+v): %+v", c, outs, x)
		}
		rest := x.Billed - x.Paid
		for i, s := range x.Svcs {
			expectToldOf(t, s, c.Lines[i], outs[i])
			for _, a := range s.Cas {
				rest -= a.Cents
			}
		}
		if rest != 0 {
			t.Fatalf("%+v leaves %d", x, rest)
		}
	}
}
