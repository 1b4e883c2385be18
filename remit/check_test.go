package remit

import (
	"math"
	"slices"
	"strconv"
	"testing"

	"leechbook/api"
	"leechbook/svc"
)

// remittance is one of these claims that balances, with so much held.
func remittance(held int64, l ...api.Clp) api.Remit {
	r := api.Remit{Number: 7, Held: held, Claims: l}
	for _, x := range l {
		r.Paid += x.Paid
	}
	r.Paid -= held
	return r
}

// Promise 21.3: the sum is of all claims, with those that are taken back, and of nothing else.
func TestSum(t *testing.T) {
	a, b, c := entry("A", 0, 1), entry("B", 0, 20), part("C", 0, 400, 300)
	for _, x := range []struct {
		l    []api.Clp
		want int64
	}{
		{nil, 0}, {[]api.Clp{}, 0}, {now(a), 1}, {now(a, b, c), 321}, {list(back(a)), -1}, {list(back(a), told(b)), 19},
		{list(back(c), told(a), told(b)), -279}, {list(back(c), told(c)), 0}, {now(a, a, a), 3},
		{list(api.Clp{Paid: 1 << 60}, api.Clp{Paid: -1 << 60}, api.Clp{Paid: 3}), 3},
	} {
		r := api.Remit{Number: -1, Paid: 5, Held: 9, Claims: x.l}
		if n := Sum(r); n != x.want {
			t.Errorf("Sum(%+v): %d, want %d", r, n, x.want)
		}
	}
	// It is asked of a claim's own sum, not of its services'.
	if n := Sum(api.Remit{Claims: list(api.Clp{Paid: 4, Svcs: []api.Svc{{Paid: 9}}})}); n != 4 {
		t.Errorf("%d", n)
	}
}

// Promise 21.4: those that balance, at the edges of each number.
func TestCheck(t *testing.T) {
	a, b := entry("A", 0, 100), part("B", 0, 50, 20)
	expectCheck(t, api.Remit{}, api.OK)
	for _, held := range []int64{0, 1, 99, 100, -1, -100, -1 << 60, -1<<60 + 1} {
		expectCheck(t, remittance(held, told(a)), api.OK)
		expectCheck(t, remittance(held, told(a), back(b), told(b)), api.OK)
		expectCheck(t, remittance(held, told(a), told(a)), api.OK)
	}
	expectCheck(t, remittance(-100, back(a)), api.OK)
	expectCheck(t, remittance(-101, back(a)), api.OK)
	expectCheck(t, remittance(-100-1<<59, back(a)), api.OK)
	expectCheck(t, remittance(0, slices.Repeat(now(entry("A", 0, most)), 1024)...), api.OK)
	expectCheck(t, remittance(1024*most, slices.Repeat(now(entry("A", 0, most)), 1024)...), api.OK)
	expectCheck(t, remittance(-1024*most, slices.Repeat(list(back(entry("A", 0, most))), 1024)...), api.OK)
}

// Promise 21.4: what is held past its ends, what is paid below nothing, or not the sum less what is held.
func TestCheckBalance(t *testing.T) {
	a := entry("A", 0, 100)
	for _, held := range []int64{101, 102, 1<<60 - 1, 1 << 60, 1<<60 + 1, -1<<60 - 1, -1<<60 - 2, math.MaxInt64, math.MinInt64, math.MinInt64 + 1} {
		expectCheck(t, remittance(held, told(a)), api.ErrBalance)
		expectCheck(t, remittance(held), api.ErrBalance)
	}
	expectCheck(t, remittance(-99, back(a)), api.ErrBalance)
	expectCheck(t, remittance(0, back(a)), api.ErrBalance)
	for _, more := range []int64{1, -1, 50, -50, 100, -100, 1 << 62, math.MinInt64} {
		for _, held := range []int64{0, 40, -40} {
			r := remittance(held, told(a))
			r.Paid += more
			expectCheck(t, r, api.ErrBalance)
		}
	}
	// The opposite of a sum, or of what is held, does not balance.
	expectCheck(t, api.Remit{Paid: 60, Held: 40}, api.ErrBalance)
	expectCheck(t, api.Remit{Paid: 140, Held: 40, Claims: now(a)}, api.ErrBalance)
	expectCheck(t, api.Remit{Paid: 60, Held: -40, Claims: now(a)}, api.ErrBalance)
	expectCheck(t, api.Remit{Paid: 0, Held: 0, Claims: now(a)}, api.ErrBalance)
}

// Promise 21.4: 1024 claims and one more.
func TestCheckCount(t *testing.T) {
	one := now(entry("A", 0, 1))
	expectCheck(t, remittance(0, slices.Repeat(one, 1023)...), api.OK)
	expectCheck(t, remittance(0, slices.Repeat(one, 1024)...), api.OK)
	expectCheck(t, remittance(0, slices.Repeat(one, 1025)...), api.ErrArg)
	expectCheck(t, remittance(0, slices.Repeat(one, 2048)...), api.ErrArg)
	expectCheck(t, remittance(0, make([]api.Clp, 1024)...), api.ErrCode)
	expectCheck(t, remittance(0, make([]api.Clp, 1025)...), api.ErrArg)
}

// Promises 21.2 and 21.4: so many entries as a ledger has come to 1024 claims where all are changed; one more comes to more than a remittance may have.
func TestMakeCount(t *testing.T) {
	for _, n := range []int{511, 512, 513} {
		var before, after []api.Entry
		for i := range n {
			id := "C" + strconv.Itoa(i)
			before, after = append(before, part(id, 0, 10, 4)), append(after, part(id, 0, 10, 5))
		}
		r, was, held, e := Make(7, now(before...), after, 0)
		if e != api.OK || len(r.Claims) != 2*n || len(was) != n || r.Paid != int64(n) || r.Held != 0 || held != 0 {
			t.Fatalf("%d: %d claims, %d, %d, %d", n, len(r.Claims), r.Paid, held, e)
		}
		for i := range n {
			if plain(r.Claims[2*i]) != plain(back(before[i])) || plain(r.Claims[2*i+1]) != plain(told(after[i])) || plain(was[i]) != plain(told(after[i])) {
				t.Fatalf("%d: %+v", i, r.Claims[2*i:2*i+2])
			}
		}
		want := api.OK
		if n > 512 {
			want = api.ErrArg
		}
		if e := Check(r); e != want {
			t.Errorf("%d: %d, want %d", n, e, want)
		}
	}
}

// Promise 21.4: the error of each claim, of the first one that is refused; both statuses may be.
func TestCheckClaims(t *testing.T) {
	var spoilt []api.Clp
	for _, spoil := range refused() {
		x := told(full())
		spoil(&x)
		spoilt = append(spoilt, x)
	}
	good := told(entry("A", 0, 1))
	seen := map[api.Errno]bool{}
	for _, x := range spoilt {
		want := svc.Check(x)
		seen[want] = true
		if want == api.OK { // taken back
			expectCheck(t, remittance(x.Paid, x), api.OK)
			continue
		}
		expectCheck(t, remittance(0, x), want)
		expectCheck(t, remittance(0, good, x), want)
		expectCheck(t, remittance(0, x, good), want)
		expectCheck(t, remittance(0, good, svc.Back(good), x), want)
		for _, y := range spoilt {
			expectCheck(t, remittance(0, x, y), want)
		}
	}
	for _, e := range []api.Errno{api.OK, api.ErrCode, api.ErrCount, api.ErrMoney, api.ErrBalance} {
		if !seen[e] {
			t.Errorf("%d was not told", e)
		}
	}
}

// Rule R6: of Check's errors the number and the count are named ahead of the claims, these ahead of the balance.
func TestCheckErrorsOrder(t *testing.T) {
	bad := told(full())
	bad.Svcs[0].Proc = "?"
	for _, l := range [][]api.Clp{nil, {bad}, slices.Repeat(list(bad), 1025), slices.Repeat(now(full()), 1025)} {
		expectCheck(t, api.Remit{Number: -1, Paid: -1, Held: math.MinInt64, Claims: l}, api.ErrArg)
	}
	expectCheck(t, api.Remit{Paid: -1, Claims: slices.Repeat(list(bad), 1025)}, api.ErrArg)
	expectCheck(t, api.Remit{Paid: -1, Claims: slices.Repeat(now(full()), 1025)}, api.ErrArg)
	for _, r := range []api.Remit{{Paid: -1}, {Held: 1<<60 + 1}, {Held: -1<<60 - 1}, {Paid: 99}} {
		r.Claims = list(bad)
		expectCheck(t, r, api.ErrCode)
		r.Claims = now(full())
		expectCheck(t, r, api.ErrBalance)
	}
}
