package remit

import (
	"math/big"
	"math/rand"
	"slices"
	"strconv"
	"testing"

	"leechbook/api"
	"leechbook/ledger"
	"leechbook/svc"
)

func pick[T any](r *rand.Rand, l ...T) T { return l[r.Intn(len(l))] }

// rarely picks one of the others now and then, and the usual one else.
func rarely[T any](r *rand.Rand, usual T, others ...T) T {
	if r.Intn(40) > 0 {
		return usual
	}
	return pick(r, others...)
}

// answer is all that Make answers.
type answer struct {
	Remit api.Remit
	Told  []api.Clp
	Held  int64
	Err   api.Errno
}

func made(number int, was []api.Clp, l []api.Entry, held int64) answer {
	r, n, h, e := Make(number, was, l, held)
	return answer{r, n, h, e}
}

// ofFirst is the place of the first one with that number, -1 if there is none.
func ofFirst(was []api.Clp, id string) int {
	return slices.IndexFunc(was, func(x api.Clp) bool { return x.Id == id })
}

// another is Make in another way: by places, in numbers without a bound.
func another(number int, was []api.Clp, l []api.Entry, held int64) answer {
	if number < 0 || number >= 1e9 || held < 0 || held > 1<<60 {
		return answer{Err: api.ErrArg}
	}
	for i, x := range was {
		if ofFirst(was, x.Id) < i {
			return answer{Err: api.ErrTwice}
		}
		if x.Status != 1 || svc.Check(x) != api.OK {
			return answer{Err: api.ErrArg}
		}
	}
	a := answer{Remit: api.Remit{Number: number}}
	met := map[int]int{}
	sum := new(big.Int)
	tell := func(x api.Clp) {
		a.Remit.Claims = append(a.Remit.Claims, x)
		sum.Add(sum, big.NewInt(x.Paid))
	}
	for i := range l {
		at := ofFirst(was, l[i].Claim.Id)
		if met[at]++; at >= 0 && met[at] > 1 {
			at = -1
		}
		var x api.Clp
		if l[i].State == 0 {
			if x, a.Err = svc.Of(l[i].Claim, l[i].Outs); a.Err != api.OK {
				return answer{Err: a.Err}
			}
			a.Told = append(a.Told, x)
			if at >= 0 && plain(x) == plain(was[at]) {
				continue
			}
		}
		if at >= 0 {
			tell(svc.Back(was[at]))
		}
		if l[i].State == 0 {
			tell(x)
		}
	}
	for i := range was {
		if met[i] == 0 {
			return answer{Err: api.ErrNone}
		}
	}
	kept := big.NewInt(held)
	if sum.Cmp(kept) < 0 {
		kept.Set(sum)
	}
	a.Remit.Held, a.Remit.Paid = kept.Int64(), sum.Sub(sum, kept).Int64()
	a.Held = new(big.Int).Sub(big.NewInt(held), kept).Int64()
	return a
}

// entryBy is an entry of one of few numbers by chance.
func entryBy(r *rand.Rand, id string) api.Entry {
	e := full()
	e.Claim.Id = rarely(r, id, "", "?", "ABCDEFGHIJKL", "ABCDEFGHIJKLM")
	e.State = pick(r, 0, 0, 0, 1, 2)
	n := pick(r, int64(0), 0, 1, 50, most-100)
	e.Claim.Lines[1].Billed += n
	e.Outs[1].Plan += n
	if r.Intn(3) == 0 {
		e.Outs[0].Coins, e.Outs[0].Copay = e.Outs[0].Copay, e.Outs[0].Coins
	}
	e.Outs[0].Plan = rarely(r, e.Outs[0].Plan, -1, 2)
	e.Outs = rarely(r, e.Outs, e.Outs[:1])
	return e
}

// toldBy is what was told by chance of most of these.
func toldBy(r *rand.Rand, l []api.Entry) []api.Clp {
	var was []api.Clp
	for _, e := range l {
		x, err := svc.Of(e.Claim, e.Outs)
		if err != api.OK || r.Intn(3) == 0 || ofFirst(was, x.Id) >= 0 && r.Intn(6) > 0 {
			continue
		}
		if r.Intn(2) == 0 {
			x.Svcs[0].Paid, x.Paid, x.Svcs[0].Cas[0].Cents = 2, x.Paid+1, 1
		}
		x.Status = rarely(r, 1, 22, 0)
		x.Paid += rarely(r, int64(0), 1)
		was = append(was, x)
	}
	r.Shuffle(len(was), func(i, k int) { was[i], was[k] = was[k], was[i] })
	return was
}

// Promises 21.1 to 21.4, held against another way.
func TestMakeByChance(t *testing.T) {
	r := rand.New(rand.NewSource(21))
	seen := map[api.Errno]int{}
	for range 40000 {
		var l []api.Entry
		for range r.Intn(7) {
			l = append(l, entryBy(r, pick(r, "A", "B", "C", "D", "E", "F", "G", "H")))
		}
		was := toldBy(r, l)
		if r.Intn(6) == 0 && len(l) > 0 {
			l = slices.Delete(l, 0, 1)
		}
		number := rarely(r, r.Intn(1e9), -1, 1e9)
		held := rarely(r, pick(r, 0, 1, 2, 100, r.Int63n(4*most), 1<<60), -1, 1<<60+1)
		was0 := plain(was) + plain(l)
		want := another(number, was, l, held)
		a := made(number, was, l, held)
		if plain(a) != plain(want) {
			t.Fatalf("Make(%d, %+v, %+v, %d): %+v, want %+v", number, was, l, held, a, want)
		}
		if a.Err == api.OK && Check(a.Remit) != api.OK {
			t.Fatalf("%+v: %d", a.Remit, Check(a.Remit))
		}
		if now := plain(was) + plain(l); now != was0 {
			t.Fatalf("%s became %s", was0, now)
		}
		seen[want.Err]++
	}
	for _, e := range []api.Errno{api.OK, api.ErrArg, api.ErrTwice, api.ErrNone, api.ErrCode, api.ErrMoney, api.ErrBalance} {
		if seen[e] < 200 {
			t.Errorf("%d was told %d times alone", e, seen[e])
		}
	}
}

// changeBy changes some entries, and puts new ones behind them.
func changeBy(r *rand.Rand, l []api.Entry) []api.Entry {
	l = slices.Clone(l)
	for i := range l {
		switch r.Intn(8) {
		case 0:
			l[i].State = pick(r, 0, 1, 2)
		case 1:
			n := part("", 0, 1000, r.Int63n(1001))
			l[i].Claim.Lines, l[i].Outs = n.Claim.Lines, n.Outs
		}
	}
	for range r.Intn(3) {
		l = append(l, part("C"+strconv.Itoa(len(l)), 0, 1000, r.Int63n(1001)))
	}
	return l
}

// owed is what is owed of an entry.
func owed(e api.Entry) int64 {
	if e.State != api.Live {
		return 0
	}
	n := int64(0)
	for _, o := range e.Outs {
		n += o.Plan
	}
	return n
}

// Promise 21.5: remittance after remittance balances, what was paid of a claim is what it is owed, all that was paid is that and what is held.
func TestFollows(t *testing.T) {
	r := rand.New(rand.NewSource(215))
	for range 300 {
		var l []api.Entry
		var was []api.Clp
		held, paid := int64(0), int64(0)
		each := map[string]int64{}
		for k := range 12 {
			l = changeBy(r, l)
			before := held
			m, n, h, e := Make(k, was, l, held)
			if e != api.OK || Check(m) != api.OK || m.Paid < 0 || h < 0 || h != before-m.Held || m.Paid > 0 && h > 0 {
				t.Fatalf("%+v, %d: %+v, %d, %d", l, held, m, h, e)
			}
			was, held, paid = n, h, paid+m.Paid
			for _, x := range m.Claims {
				each[x.Id] += x.Paid
			}
			all := int64(0)
			for _, x := range l {
				all += owed(x)
				if each[x.Claim.Id] != owed(x) {
					t.Fatalf("%s is paid %d of %d", x.Claim.Id, each[x.Claim.Id], owed(x))
				}
			}
			if paid != all+held {
				t.Fatalf("%d is paid, %d owed, %d held", paid, all, held)
			}
			// Where nothing changed nothing is told.
			if m, n, h, e := Make(k, was, l, held); e != api.OK || len(m.Claims) != 0 || m.Paid != 0 || m.Held != 0 || h != held || plain(n) != plain(was) {
				t.Fatalf("%+v, %+v, %d, %d", m, n, h, e)
			}
		}
	}
}

// Promises 21.2 and 21.5: told in two steps and at once, the same is told last, and as much is paid beyond what is held.
func TestTwoSteps(t *testing.T) {
	r := rand.New(rand.NewSource(212))
	for range 3000 {
		first := changeBy(r, changeBy(r, nil))
		second := changeBy(r, first)
		third := changeBy(r, second)
		start := made(1, nil, first, pick(r, 0, 100, r.Int63n(3000)))
		one := made(2, start.Told, second, start.Held)
		two := made(3, one.Told, third, one.Held)
		both := made(3, start.Told, third, start.Held)
		if two.Err != api.OK || both.Err != api.OK || plain(two.Told) != plain(both.Told) {
			t.Fatalf("%+v, %+v", two, both)
		}
		if one.Remit.Paid+two.Remit.Paid-two.Held != both.Remit.Paid-both.Held {
			t.Fatalf("%+v and %+v, at once %+v", one, two, both)
		}
		if Sum(one.Remit)+Sum(two.Remit) != Sum(both.Remit) {
			t.Fatalf("%+v and %+v, at once %+v", one, two, both)
		}
	}
}

// Promise 21.2: what is held goes down with each remittance that pays, until nothing is held any more.
func TestHeldDown(t *testing.T) {
	l := list(entry("C0", api.Live, 1000))
	_, was, held, _ := Make(0, nil, l, 0)
	l[0].State = api.Voided
	want := int64(1000)
	r, was, held, e := Make(1, was, l, held)
	if e != api.OK || r.Paid != 0 || r.Held != -1000 || held != want {
		t.Fatalf("%+v, %d, %d", r, held, e)
	}
	for k, n := range []int64{1, 0, 299, 700, 5} {
		l = append(l, entry("C"+strconv.Itoa(k+1), api.Live, n))
		kept := min(want, n)
		want -= kept
		r, was, held, e = Make(k, was, l, held)
		if e != api.OK || r.Held != kept || r.Paid != n-kept || held != want || len(r.Claims) != 1 || Check(r) != api.OK {
			t.Fatalf("%d: %+v, %d, %d, want %d", k, r, held, e, want)
		}
	}
	if held != 0 || len(was) != 5 {
		t.Errorf("%d, %+v", held, was)
	}
}

// tables are a plan with a deductible and a fifth, and one fee.
func tables() api.Tables {
	sets := []api.Set{{What: api.SCover, N: 1}, {What: api.SDeduct, N: 1}, {What: api.SCoins, N: 2000}}
	return api.Tables{
		Plan: api.Plan{IndDed: 5000, FamDed: 9000, IndOop: 20000, FamOop: 30000, Rules: []api.Rule{{Rank: 1, Sets: sets}}},
		Fees: []api.Fee{{Proc: "99213", From: 20240101, Cents: 7550}},
	}
}

// submitBy submits a claim by chance: a new one, one that takes another one back, or one in its place.
func submitBy(t *testing.T, r *rand.Rand, g *ledger.Ledger, n int) {
	t.Helper()
	line := api.Line{Proc: "99213", Date: 20240101 + r.Intn(28), Units: 1 + r.Intn(3), Billed: 5000 + r.Int63n(20000)}
	c := api.Claim{Id: "C" + strconv.Itoa(n), Member: "M1", Family: "F1", Does: pick(r, 1, 1, 7, 8), Lines: []api.Line{line}}
	if c.Does != api.Original {
		c.Ref = "C" + strconv.Itoa(r.Intn(n+1))
	}
	if c.Does == api.Void {
		c.Lines = nil
	}
	was := len(g.Entries())
	if e := g.Submit(c); (e == api.OK) != (len(g.Entries()) > was) {
		t.Fatalf("%+v: %d", c, e)
	}
}

// Promises 21.1 to 21.5, with a ledger that is judged anew: what was told of its claims, all together, is what it owes.
func TestLedger(t *testing.T) {
	r := rand.New(rand.NewSource(2119))
	takenBack, kept := 0, 0
	for range 60 {
		g, _ := ledger.New(64)
		if e := g.Load(tables()); e != api.OK {
			t.Fatal(e)
		}
		var was []api.Clp
		held, paid := int64(0), int64(0)
		for n := range 30 {
			submitBy(t, r, g, n)
			if r.Intn(3) > 0 {
				continue
			}
			m, next, h, e := Make(n, was, g.Entries(), held)
			if e != api.OK || Check(m) != api.OK {
				t.Fatalf("%+v, %d", m, e)
			}
			was, held, paid = next, h, paid+m.Paid
			owes := int64(0)
			for _, x := range g.Entries() {
				owes += owed(x)
			}
			if paid != owes+held {
				t.Fatalf("%d is paid, %d owed, %d held", paid, owes, held)
			}
			if held > 0 {
				kept++
			}
			for _, x := range m.Claims {
				if x.Status == 22 {
					takenBack++
				}
			}
		}
	}
	if takenBack < 100 || kept < 20 {
		t.Errorf("%d were taken back, %d times something was held", takenBack, kept)
	}
}
