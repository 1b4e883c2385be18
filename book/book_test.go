package book

import (
	"math"
	"slices"
	"testing"

	"leechbook/api"
	"leechbook/claim"
)

func service(day int) api.Line {
	return api.Line{Proc: "99213", Mods: []string{"25"}, Date: day, Units: 1, Billed: 10000, Prior: 100}
}

// doing is a claim that may be, of M1 and F1.
func doing(does int, id, ref string) api.Claim {
	c := api.Claim{Id: id, Member: "M1", Family: "F1", Does: does, Ref: ref}
	if does != api.Void {
		c.Lines = []api.Line{service(20240301), service(20240302)}
	}
	return c
}

func original(id string) api.Claim     { return doing(api.Original, id, "") }
func replace(id, ref string) api.Claim { return doing(api.Replace, id, ref) }
func void(id, ref string) api.Claim    { return doing(api.Void, id, ref) }

func entry(c api.Claim, tables, state int, outs ...api.Out) api.Entry {
	return api.Entry{Claim: c, Tables: tables, State: state, Outs: outs}
}

// judged is an entry that stands, with something that became of its services.
func judged(id string, tables int) api.Entry {
	return entry(original(id), tables, api.Live, api.Out{Allowed: 7550, Plan: int64(tables)}, api.Out{Write: 9900, Prior: 100, Deny: api.DTwice})
}

// sample is a book of five that stand, by tables of their own.
func sample() []api.Entry {
	return []api.Entry{judged("C1", 11), judged("C2", 12), judged("C3", 13), judged("C4", 14), judged("C5", 15)}
}

func sameEntry(a, b api.Entry) bool {
	return claim.Same(a.Claim, b.Claim) && a.Tables == b.Tables && a.State == b.State && slices.Equal(a.Outs, b.Outs)
}

func sameBook(a, b []api.Entry) bool { return slices.EqualFunc(a, b, sameEntry) }

func ids(l []api.Entry) []string {
	made := []string{}
	for _, x := range l {
		made = append(made, x.Claim.Id)
	}
	return made
}

func expectFind(t *testing.T, l []api.Entry, id string, want int) {
	t.Helper()
	if at := Find(l, id); at != want {
		t.Errorf("Find of %q in %q: %d, want %d", id, ids(l), at, want)
	}
}

func expectAdmit(t *testing.T, l []api.Entry, c api.Claim, most int, want api.Errno) {
	t.Helper()
	if e := Admit(l, c, most); e != want {
		t.Errorf("Admit of %.200v, of %d in %q: %d, want %d", c, most, ids(l), e, want)
	}
}

// expectRefused asks Admit and Put.
func expectRefused(t *testing.T, l []api.Entry, c api.Claim, most int, want api.Errno) {
	t.Helper()
	expectAdmit(t, l, c, most, want)
	if made, from, e := Put(l, c, 7, most); len(made) != 0 || from != 0 || e != want {
		t.Errorf("Put of %.200v, of %d in %q: %v, %d, %d, want nothing and %d", c, most, ids(l), ids(made), from, e, want)
	}
}

// expectPut asks Admit and Put, with as little room as there has to be, and answers the book.
func expectPut(t *testing.T, l []api.Entry, c api.Claim, tables, from int, want ...api.Entry) []api.Entry {
	t.Helper()
	expectAdmit(t, l, c, len(l)+1, api.OK)
	made, place, e := Put(l, c, tables, len(l)+1)
	if e != api.OK || place != from || !sameBook(made, want) {
		t.Errorf("Put of %s in %q:\n%+v, %d, %d, want\n%+v, %d", c.Id, ids(l), made, place, e, want, from)
	}
	return made
}

func expectStanding(t *testing.T, l []api.Entry, want ...api.Entry) {
	t.Helper()
	if made := Standing(l); !sameBook(made, want) {
		t.Errorf("of %+v stand\n%+v, want\n%+v", l, made, want)
	}
}

// Promise 18.1: a number that is there, and one that is not.
func TestFind(t *testing.T) {
	l := sample()
	for i, id := range []string{"C1", "C2", "C3", "C4", "C5"} {
		expectFind(t, l, id, i)
		expectFind(t, l[:i], id, -1)
		expectFind(t, l[i:], id, 0)
		expectFind(t, l[i+1:], id, -1)
	}
	for _, id := range []string{"", "C", "C0", "C6", "C11", "c1", " C1", "C1 ", "1", "M1", "F1", "C1\x00"} {
		expectFind(t, l, id, -1)
	}
	expectFind(t, nil, "C1", -1)
	expectFind(t, nil, "", -1)
	expectFind(t, []api.Entry{}, "C1", -1)
}

// Promise 18.1: it is its own number, not the one that it names, that a claim is found by, whatever its state.
func TestFindByIdAlone(t *testing.T) {
	l := []api.Entry{
		entry(original("C1"), 0, api.Replaced),
		entry(replace("C2", "C1"), 0, api.Voided),
		entry(void("C3", "C2"), 0, api.Voided),
		entry(void("C5", "C4"), 0, 7),
		entry(original("C4"), 0, -1),
	}
	for id, want := range map[string]int{"C1": 0, "C2": 1, "C3": 2, "C5": 3, "C4": 4} {
		expectFind(t, l, id, want)
	}
}

// Promise 18.1: the first one of a number that stands twice; what may not be a number is one all the same.
func TestFindTheFirst(t *testing.T) {
	l := []api.Entry{judged("C1", 0), judged("C2", 1), judged("C1", 2), judged("", 3), judged("C2", 4), judged("", 5), judged("c\xff", 6)}
	expectFind(t, l, "C1", 0)
	expectFind(t, l, "C2", 1)
	expectFind(t, l, "", 3)
	expectFind(t, l, "c\xff", 6)
	l[0].State, l[1].State = api.Replaced, api.Voided
	expectFind(t, l, "C1", 0)
	expectFind(t, l, "C2", 1)
	expectFind(t, l[1:], "C1", 1)
	expectFind(t, l[2:], "C2", 2)
	// What lies behind the length is not there.
	expectFind(t, l[:3], "", -1)
	expectFind(t, l[:0], "C1", -1)
}

// spoiled are claims that may not be, for all kinds, with their errors.
func spoiled() ([]func(*api.Claim), []api.Errno) {
	return []func(*api.Claim){
		func(c *api.Claim) { c.Id = "" },
		func(c *api.Claim) { c.Id = "C-1" },
		func(c *api.Claim) { c.Member = "m1" },
		func(c *api.Claim) { c.Family = "FFFFFFFFFFFFF" },
		func(c *api.Claim) { c.Net = 2 },
		func(c *api.Claim) { c.Ref = "C 2" },
		func(c *api.Claim) { c.Does, c.Ref = 0, "C3" },
		func(c *api.Claim) { c.Does, c.Ref = 2, "C3" },
		func(c *api.Claim) { c.Lines = slices.Repeat([]api.Line{service(20240301)}, api.MaxLines+1) },
		func(c *api.Claim) {
			if c.Does == api.Void {
				c.Lines = []api.Line{service(20240301)}
			} else {
				c.Lines = nil
			}
		},
	}, []api.Errno{
		api.ErrCode, api.ErrCode, api.ErrCode, api.ErrCode, api.ErrRange,
		api.ErrCode, api.ErrRange, api.ErrRange, api.ErrLimit, api.ErrCount,
	}
}

// spoiledServices are claims of which a service may not be, with their errors.
func spoiledServices() ([]func(*api.Claim), []api.Errno) {
	return []func(*api.Claim){
		func(c *api.Claim) { c.Lines[1].Proc = "9921" },
		func(c *api.Claim) { c.Lines[0].Mods = []string{"1"} },
		func(c *api.Claim) { c.Lines[0].Date = 20230229 },
		func(c *api.Claim) { c.Lines[1].Date = 20250301 },
		func(c *api.Claim) { c.Lines[1].Units = 0 },
		func(c *api.Claim) { c.Lines[0].Billed = -1 },
		func(c *api.Claim) { c.Lines[0].Billed = api.MaxCents },
	}, []api.Errno{
		api.ErrCode, api.ErrCode, api.ErrDate, api.ErrDate, api.ErrRange, api.ErrMoney, api.ErrMoney,
	}
}

// stir is one of the ways in which a claim, a book and its limit go wrong, or none (0), of each kind of error.
type stir struct{ check, twice, none, state, whose, full int }

var (
	states = []int{api.Live, api.Voided, api.Replaced, 3, -1, math.MaxInt, math.MinInt}
	whose  = [][2]string{{"M1", "F1"}, {"M2", "F1"}, {"M1", "F2"}, {"M2", "F2"}, {"F1", "M1"}, {"", ""}}
)

// lay lays out a book, a claim that names C3 there, and a limit, each gone wrong as told.
func (s stir) lay(does int, checks []func(*api.Claim)) ([]api.Entry, api.Claim, int) {
	l := sample()
	c := doing(does, "C9", "C3")
	if does == api.Original {
		c.Ref = ""
	}
	l[2].State = states[s.state]
	l[2].Claim.Member, l[2].Claim.Family = whose[s.whose][0], whose[s.whose][1]
	if s.none > 0 {
		l = slices.Delete(l, 2, 3)
	}
	if s.check > 0 {
		checks[s.check-1](&c)
	}
	switch s.twice {
	case 1:
		l = slices.Insert(l, 0, judged(c.Id, 0))
	case 2:
		l = append(l, entry(void(c.Id, "C0"), 0, api.Voided))
	}
	return l, c, []int{len(l) + 1, len(l), len(l) - 1, 0, -1, math.MinInt}[s.full]
}

// want is the first of the errors.
func (s stir) want(does int, checks []api.Errno) api.Errno {
	names := does == api.Replace || does == api.Void
	switch {
	case s.check > 0:
		return checks[s.check-1]
	case s.twice > 0:
		return api.ErrTwice
	case names && s.none > 0:
		return api.ErrNone
	case names && s.state > 0:
		return api.ErrState
	case names && s.whose > 0:
		return api.ErrCode
	case s.full > 0:
		return api.ErrFull
	}
	return api.OK
}

// Promises 18.2 and 18.3: each error alone, each two of them together, and all others together, for an Original, a Replace and a Void.
func TestErrors(t *testing.T) {
	met := map[api.Errno]int{}
	for _, does := range []int{api.Original, api.Replace, api.Void} {
		checks, errs := spoiled()
		if does != api.Void {
			more, errors := spoiledServices()
			checks, errs = append(checks, more...), append(errs, errors...)
		}
		for check := range len(checks) + 1 {
			for n := range 3 * 2 * len(states) * len(whose) * 6 {
				s := stir{check: check, twice: n % 3, none: n / 3 % 2, state: n / 6 % len(states)}
				s.whose, s.full = n/6/len(states)%len(whose), n/6/len(states)/len(whose)
				l, c, most := s.lay(does, checks)
				want := s.want(does, errs)
				met[want]++
				if e := Admit(l, c, most); e != want {
					t.Fatalf("%d, %+v: %d, want %d", does, s, e, want)
				}
				made, from, e := Put(l, c, 7, most)
				if e != want || e != api.OK && (len(made) != 0 || from != 0) || e == api.OK && len(made) != len(l)+1 {
					t.Fatalf("Put, %d, %+v: %q, %d, %d, want %d", does, s, ids(made), from, e, want)
				}
			}
		}
	}
	if len(met) != 11 {
		t.Errorf("met: %v", met)
	}
}

// Promise 18.2: the first error of a claim that may not be, where its number is taken, or the one that it names is none.
func TestCheckFirst(t *testing.T) {
	l := sample()
	c := void("C1", "C9")
	c.Lines = []api.Line{service(20240301)}
	expectRefused(t, l, c, 0, api.ErrCount)
	c.Net = -1
	expectRefused(t, l, c, 0, api.ErrRange)
	expectRefused(t, l, api.Claim{}, 9, api.ErrCode)
	expectRefused(t, nil, api.Claim{}, 0, api.ErrCode)
	x := original("C1")
	x.Ref = "C1"
	expectRefused(t, l, x, 9, api.ErrCode)
	y := replace("C9", "")
	expectRefused(t, l, y, 9, api.ErrCode)
	y.Ref = "CCCCCCCCCCCCC"
	expectRefused(t, l, y, 9, api.ErrCode)
}

// Promise 18.2: a number is taken by whatever has it; one that just names it does not take it.
func TestTwice(t *testing.T) {
	for _, x := range []api.Entry{
		judged("C9", 0),
		entry(original("C9"), 0, api.Voided),
		entry(original("C9"), 0, api.Replaced),
		entry(replace("C9", "C1"), 0, api.Live),
		entry(void("C9", "C1"), 0, api.Voided),
		entry(original("C9"), 0, -5),
	} {
		for at := range 6 {
			l := slices.Insert(sample(), at, x)
			expectRefused(t, l, original("C9"), 9, api.ErrTwice)
			expectRefused(t, l, replace("C9", "C2"), 9, api.ErrTwice)
			expectRefused(t, l, void("C9", "C2"), 9, api.ErrTwice)
			// Of another member, too.
			c := original("C9")
			c.Member, c.Family = "M2", "F2"
			expectRefused(t, l, c, 9, api.ErrTwice)
		}
	}
	l := append(sample(), entry(void("C8", "C9"), 0, api.Voided))
	expectAdmit(t, l, original("C9"), 9, api.OK)
	expectAdmit(t, l, replace("C9", "C2"), 9, api.OK)
	expectAdmit(t, l, void("C9", "C2"), 9, api.OK)
}

// Promise 18.2: a claim that names itself.
func TestNamesItself(t *testing.T) {
	l := sample()
	for _, does := range []int{api.Replace, api.Void} {
		expectRefused(t, l, doing(does, "C3", "C3"), 9, api.ErrTwice)
		expectRefused(t, l, doing(does, "C9", "C9"), 9, api.ErrNone)
		expectRefused(t, nil, doing(does, "C9", "C9"), 9, api.ErrNone)
		expectRefused(t, nil, doing(does, "C9", "C9"), 0, api.ErrNone)
	}
}

// Promise 18.2: of a number that stands twice the first one is asked, whatever the other one is.
func TestNamesTheFirst(t *testing.T) {
	other := judged("C3", 33)
	other.Claim.Member = "M2"
	for _, does := range []int{api.Replace, api.Void} {
		c := doing(does, "C9", "C3")
		l := append(sample(), other)
		expectAdmit(t, l, c, 9, api.OK)
		l[5].State = api.Voided
		expectAdmit(t, l, c, 9, api.OK)
		l[5].State, l[2].State = api.Live, api.Replaced
		expectRefused(t, l, c, 9, api.ErrState)
		l = slices.Insert(sample(), 2, other)
		expectRefused(t, l, c, 9, api.ErrCode)
		l[2].State = api.Voided
		expectRefused(t, l, c, 9, api.ErrState)
	}
}

// Promise 18.2: what stands of others plays no part; nor does an entry without a number, for an Original, which names none.
func TestOthersPlayNoPart(t *testing.T) {
	l := sample()
	for i := range l {
		if i != 2 {
			l[i].State, l[i].Claim.Member, l[i].Claim.Family = api.Voided, "M2", "F2"
		}
	}
	expectAdmit(t, l, replace("C9", "C3"), 6, api.OK)
	expectAdmit(t, l, void("C9", "C3"), 6, api.OK)
	l[0].Claim.Id = ""
	expectAdmit(t, l, original("C9"), 6, api.OK)
	expectAdmit(t, l[1:], original("C9"), 6, api.OK)
	// The net, the day and the services of the one that is named are its own.
	c := replace("C9", "C3")
	c.Net = 1
	c.Lines = []api.Line{{Proc: "J1100", Date: 19991231, Units: 9999}}
	expectAdmit(t, l, c, 6, api.OK)
	c = void("C9", "C3")
	c.Net = 1
	expectAdmit(t, l, c, 6, api.OK)
}

// Promise 18.2: as many entries as may be, one fewer and one more; those that do not stand count, too.
func TestFull(t *testing.T) {
	for n := range 6 {
		for _, state := range states {
			l := sample()[:n]
			for i := range l {
				l[i].State = state
			}
			c := original("C9")
			for _, most := range []int{n + 1, n + 2, api.MaxLedger, math.MaxInt} {
				expectAdmit(t, l, c, most, api.OK)
				if made, from, e := Put(l, c, 7, most); e != api.OK || from != n || len(made) != n+1 {
					t.Errorf("Put of %d into %d: %d, %d, %d", n, most, len(made), from, e)
				}
			}
			for _, most := range []int{n, n - 1, 0, -1, -n, math.MinInt} {
				expectRefused(t, l, c, most, api.ErrFull)
			}
		}
	}
	l := sample()
	for _, does := range []int{api.Replace, api.Void} {
		expectAdmit(t, l, doing(does, "C9", "C3"), 6, api.OK)
		expectRefused(t, l, doing(does, "C9", "C3"), 5, api.ErrFull)
		expectRefused(t, l, doing(does, "C9", "C3"), 4, api.ErrFull)
	}
	// What lies behind the length is no entry.
	expectAdmit(t, l[:2], original("C3"), 3, api.OK)
}

// Promise 18.3: an Original stands behind all.
func TestPutOriginal(t *testing.T) {
	c := original("C9")
	c.Net = 1
	expectPut(t, nil, c, 3, 0, entry(c, 3, api.Live))
	expectPut(t, []api.Entry{}, c, 0, 0, entry(c, 0, api.Live))
	for n := range 6 {
		expectPut(t, sample()[:n], c, 3, n, append(sample()[:n], entry(c, 3, api.Live))...)
	}
	// Those ahead of it stay what they were, whatever they are.
	l := sample()
	l[1].State, l[2].State, l[3].State, l[4].Claim.Id = api.Voided, api.Replaced, 7, "C1"
	for _, tables := range []int{0, 1, 63, 64, -1, math.MaxInt, math.MinInt} {
		expectPut(t, l, c, tables, 5, append(slices.Clone(l), entry(c, tables, api.Live))...)
	}
}

// Promise 18.3: a Replace stands right behind the one that it names, with its Tables, whichever of them all that is.
func TestPutReplace(t *testing.T) {
	for n := 1; n < 6; n++ {
		for at := range n {
			l := sample()[:n]
			c := replace("C9", l[at].Claim.Id)
			want := sample()[:n]
			want[at].State, want[at].Outs = api.Replaced, nil
			want = slices.Insert(want, at+1, entry(c, 11+at, api.Live))
			expectPut(t, l, c, 3, at, want...)
		}
	}
	// Tables that no ledger has.
	for _, tables := range []int{0, -1, math.MaxInt, math.MinInt} {
		l := sample()
		l[2].Tables = tables
		c := replace("C9", "C3")
		gone := entry(l[2].Claim, tables, api.Replaced)
		expectPut(t, l, c, 3, 2, l[0], l[1], gone, entry(c, tables, api.Live), l[3], l[4])
	}
}

// Promise 18.3: a Void stands behind all, and does not stand; nor does the one that it names, any more.
func TestPutVoid(t *testing.T) {
	for n := 1; n < 6; n++ {
		for at := range n {
			l := sample()[:n]
			c := void("C9", l[at].Claim.Id)
			want := sample()[:n]
			want[at].State, want[at].Outs = api.Voided, nil
			for _, tables := range []int{0, 3, -1, math.MaxInt, math.MinInt} {
				expectPut(t, l, c, tables, at, append(slices.Clone(want), entry(c, tables, api.Voided))...)
			}
		}
	}
}

// Promise 18.3: of a number that stands twice the first one is taken back.
func TestPutTheFirst(t *testing.T) {
	l := []api.Entry{judged("C1", 11), judged("C3", 12), judged("C2", 13), judged("C3", 14)}
	c := replace("C9", "C3")
	gone := entry(l[1].Claim, 12, api.Replaced)
	expectPut(t, l, c, 3, 1, l[0], gone, entry(c, 12, api.Live), l[2], l[3])
	c = void("C9", "C3")
	gone.State = api.Voided
	expectPut(t, l, c, 3, 1, l[0], gone, l[2], l[3], entry(c, 3, api.Voided))
	// A claim that takes another one back, handed in as if it stood, is one that may be taken back.
	l[1].Claim = void("C3", "C0")
	gone.Claim = l[1].Claim
	expectPut(t, l, c, 3, 1, l[0], gone, l[2], l[3], entry(c, 3, api.Voided))
}

// Promises 18.3 to 18.5: a claim in the place of one that stands in another one's place, and so on; then it is taken back.
func TestPutInPlaceOfOneInPlace(t *testing.T) {
	c1, c2, c3 := original("C1"), original("C2"), original("C3")
	l := expectPut(t, nil, c1, 1, 0, entry(c1, 1, 0))
	l = expectPut(t, l, c2, 2, 1, entry(c1, 1, 0), entry(c2, 2, 0))
	l = expectPut(t, l, c3, 3, 2, entry(c1, 1, 0), entry(c2, 2, 0), entry(c3, 3, 0))
	c4 := replace("C4", "C2")
	l = expectPut(t, l, c4, 4, 1, entry(c1, 1, 0), entry(c2, 2, 2), entry(c4, 2, 0), entry(c3, 3, 0))
	expectStanding(t, l, entry(c1, 1, 0), entry(c4, 2, 0), entry(c3, 3, 0))
	expectRefused(t, l, replace("C5", "C2"), 9, api.ErrState)
	expectRefused(t, l, void("C5", "C2"), 9, api.ErrState)
	c5 := replace("C5", "C4")
	l = expectPut(t, l, c5, 5, 2, entry(c1, 1, 0), entry(c2, 2, 2), entry(c4, 2, 2), entry(c5, 2, 0), entry(c3, 3, 0))
	expectStanding(t, l, entry(c1, 1, 0), entry(c5, 2, 0), entry(c3, 3, 0))
	c6 := replace("C6", "C1")
	l = expectPut(t, l, c6, 5, 0, entry(c1, 1, 2), entry(c6, 1, 0), entry(c2, 2, 2), entry(c4, 2, 2), entry(c5, 2, 0), entry(c3, 3, 0))
	c7 := void("C7", "C5")
	l = expectPut(t, l, c7, 5, 4, entry(c1, 1, 2), entry(c6, 1, 0), entry(c2, 2, 2), entry(c4, 2, 2), entry(c5, 2, 1), entry(c3, 3, 0), entry(c7, 5, 1))
	expectStanding(t, l, entry(c6, 1, 0), entry(c3, 3, 0))
	// What takes back can't be taken back, nor can what was; all their numbers are taken.
	for _, id := range []string{"C1", "C2", "C4", "C5", "C7"} {
		expectRefused(t, l, void("C8", id), 9, api.ErrState)
		expectRefused(t, l, replace("C8", id), 9, api.ErrState)
	}
	for _, id := range []string{"C1", "C2", "C3", "C4", "C5", "C6", "C7"} {
		expectRefused(t, l, original(id), 9, api.ErrTwice)
		expectRefused(t, l, void(id, "C3"), 9, api.ErrTwice)
	}
	// One behind all of it.
	c8 := original("C8")
	expectPut(t, l, c8, 6, 7, append(slices.Clone(l), entry(c8, 6, 0))...)
}

// The chapter's example.
func TestExample(t *testing.T) {
	c1, c2 := original("C1"), replace("C2", "C1")
	l := expectPut(t, nil, c1, 0, 0, entry(c1, 0, api.Live))
	l = expectPut(t, l, c2, 5, 0, entry(c1, 0, api.Replaced), entry(c2, 0, api.Live))
	expectRefused(t, l, void("C3", "C1"), 9, api.ErrState)
	c3 := void("C3", "C2")
	l = expectPut(t, l, c3, 0, 1, entry(c1, 0, api.Replaced), entry(c2, 0, api.Voided), entry(c3, 0, api.Voided))
	expectStanding(t, l)
}

// Promise 18.4: those whose State is Live, in order, with their Tables and their Outs.
func TestStanding(t *testing.T) {
	expectStanding(t, nil)
	expectStanding(t, []api.Entry{})
	for n := range 1 << 5 {
		for _, state := range states[1:] {
			l := sample()
			var want []api.Entry
			for i := range l {
				if n>>i&1 == 0 {
					want = append(want, sample()[i])
				} else {
					l[i].State = state
				}
			}
			expectStanding(t, l, want...)
		}
	}
	// What stands is told by the State alone, not by what the claim does, nor by its number.
	odd := []api.Entry{entry(void("C1", "C2"), 0, api.Live), entry(api.Claim{}, -1, api.Live), judged("C1", 3), judged("C1", 3)}
	expectStanding(t, odd, odd...)
	// What lies behind the length does not stand.
	l := sample()
	expectStanding(t, l[:2], l[0], l[1])
	expectStanding(t, l[:0])
}
