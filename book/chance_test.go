package book

import (
	"math/rand"
	"reflect"
	"slices"
	"strconv"
	"testing"

	"leechbook/api"
	"leechbook/claim"
)

func pick[T any](r *rand.Rand, l []T) T { return l[r.Intn(len(l))] }

func number(n int) string { return "C" + strconv.Itoa(n) }

func linesBy(r *rand.Rand) []api.Line {
	l := make([]api.Line, 1+r.Intn(3))
	for i := range l {
		l[i] = service(20240301 + r.Intn(5))
		l[i].Mods = [][]string{nil, {}, {"25"}, {"25", "59"}}[r.Intn(4)]
	}
	return l
}

// claimBy is a claim, at times one that may not be, of numbers below n.
func claimBy(r *rand.Rand, n int) api.Claim {
	c := doing(pick(r, []int{api.Original, api.Replace, api.Replace, api.Void}), number(r.Intn(n)), number(r.Intn(n)))
	if c.Does == api.Original {
		c.Ref = ""
	} else if r.Intn(20) == 0 {
		c.Ref = ""
	}
	if c.Does != api.Void {
		c.Lines = linesBy(r)
	}
	c.Member = pick(r, []string{"M1", "M1", "M1", "M2"})
	c.Family = pick(r, []string{"F1", "F1", "F1", "F2"})
	c.Net = r.Intn(2)
	if r.Intn(30) == 0 {
		c.Net = 2
	}
	return c
}

func outsBy(r *rand.Rand) []api.Out {
	l := make([]api.Out, r.Intn(3))
	for i := range l {
		l[i] = api.Out{Allowed: r.Int63n(9), Deduct: r.Int63n(9), Plan: r.Int63n(9), Deny: r.Intn(2)}
	}
	return l
}

// bookBy is entries as they come, numbers that stand twice and odd states among them.
func bookBy(r *rand.Rand, n int) []api.Entry {
	l := make([]api.Entry, r.Intn(8))
	for i := range l {
		l[i] = entry(claimBy(r, n), r.Intn(64), pick(r, []int{0, 0, 0, 0, 1, 2, 3, -1}), outsBy(r)...)
	}
	return l
}

// other is the book in another way: every entry has a number by which they are put in order at last.
type other struct {
	entry api.Entry
	at    int
}

// putOf is what Put has to answer.
func putOf(l []api.Entry, c api.Claim, tables, most int) ([]api.Entry, int, api.Errno) {
	first := map[string]int{} // the last one that is stored is the first one of that number
	for i := len(l) - 1; i >= 0; i-- {
		first[l[i].Claim.Id] = i
	}
	at, there := first[c.Ref]
	_, twice := first[c.Id]
	names := c.Does != api.Original
	for _, q := range []struct {
		wrong func() bool
		e     api.Errno
	}{
		{func() bool { return claim.Check(c) != api.OK }, claim.Check(c)},
		{func() bool { return twice }, api.ErrTwice},
		{func() bool { return names && !there }, api.ErrNone},
		{func() bool { return names && l[at].State != 0 }, api.ErrState},
		{func() bool {
			return names && [2]string{l[at].Claim.Member, l[at].Claim.Family} != [2]string{c.Member, c.Family}
		}, api.ErrCode},
		{func() bool { return most-len(l) < 1 }, api.ErrFull},
	} {
		if q.wrong() {
			return nil, 0, q.e
		}
	}
	var all []other
	for i, x := range l {
		all = append(all, other{x, 2 * i})
	}
	put, from := other{api.Entry{Claim: c, Tables: tables}, 2 * len(l)}, len(l)
	if names {
		from = at
		all[at].entry.Outs = nil
		all[at].entry.State = map[int]int{7: 2, 8: 1}[c.Does]
		if c.Does == api.Replace {
			put.at, put.entry.Tables = 2*at+1, l[at].Tables
		} else {
			put.entry.State = 1
		}
	}
	all = append(all, put)
	slices.SortFunc(all, func(a, b other) int { return a.at - b.at })
	made := make([]api.Entry, len(all))
	for i, x := range all {
		made[i] = x.entry
	}
	return made, from, api.OK
}

// Promises 18.2 and 18.3: entries and claims as they come, against the other way.
func TestPutByChance(t *testing.T) {
	r := rand.New(rand.NewSource(18))
	met := map[api.Errno]int{}
	for range 60000 {
		l, c, tables, most := bookBy(r, 9), claimBy(r, 11), r.Intn(64), 3+r.Intn(8)
		want, from, err := putOf(l, c, tables, most)
		met[err]++
		if e := Admit(l, c, most); e != err {
			t.Fatalf("Admit of %+v, of %d in\n%+v: %d, want %d", c, most, l, e, err)
		}
		made, place, e := Put(l, c, tables, most)
		if e != err || place != from || !sameBook(made, want) {
			t.Fatalf("Put of %+v, of %d in\n%+v:\n%+v, %d, %d, want\n%+v, %d, %d", c, most, l, made, place, e, want, from, err)
		}
	}
	for _, e := range []api.Errno{api.OK, api.ErrCode, api.ErrRange, api.ErrTwice, api.ErrNone, api.ErrState, api.ErrFull} {
		if met[e] < 500 {
			t.Errorf("error %d was met %d times", e, met[e])
		}
	}
}

// Promise 18.5: book behind book, as claims make them: no number stands twice; of those that stand just what a claim says changes, and ahead of the place that is told nothing at all.
func TestBooksOfClaims(t *testing.T) {
	r := rand.New(rand.NewSource(185))
	longest, deepest := 0, 0
	for range 400 {
		var l []api.Entry
		most, deep := 1+r.Intn(40), map[string]int{}
		for range 120 {
			c := claimBy(r, 60)
			if len(l) > 0 && r.Intn(2) == 0 && c.Ref != "" {
				c.Ref = pick(r, l).Claim.Id
			}
			next, from, e := Put(l, c, r.Intn(64), most)
			if e != api.OK {
				continue
			}
			expectChange(t, l, next, c, from)
			if c.Does == api.Replace {
				deep[c.Id] = deep[c.Ref] + 1
				deepest = max(deepest, deep[c.Id])
			}
			l = next
			// So that it is seen what becomes of them.
			for i := range l {
				if l[i].State == api.Live {
					l[i].Outs = outsBy(r)
				}
			}
		}
		expectBook(t, l, most)
		longest = max(longest, len(l))
	}
	if longest < 35 || deepest < 4 {
		t.Errorf("books of %d at most, places taken %d times at most", longest, deepest)
	}
}

// expectBook asks what holds in each book that claims make.
func expectBook(t *testing.T, l []api.Entry, most int) {
	t.Helper()
	if len(l) > most {
		t.Fatalf("%d entries, of %d", len(l), most)
	}
	for i, x := range l {
		if Find(l, x.Claim.Id) != i {
			t.Fatalf("%s stands twice in %q", x.Claim.Id, ids(l))
		}
		if e := claim.Check(x.Claim); e != api.OK {
			t.Fatalf("%+v may not be: %d", x, e)
		}
		if x.State != api.Live && len(x.Outs) != 0 {
			t.Fatalf("%+v does not stand", x)
		}
		if x.State == api.Replaced {
			// Right behind it stands what took its place, by the same tables.
			if next := l[i+1]; next.Claim.Ref != x.Claim.Id || next.Claim.Does != api.Replace || next.Tables != x.Tables {
				t.Fatalf("behind %+v: %+v", x, next)
			}
		}
		if x.Claim.Does == api.Void && x.State != api.Voided {
			t.Fatalf("%+v stands", x)
		}
	}
}

// expectChange asks what a claim changes.
func expectChange(t *testing.T, old, l []api.Entry, c api.Claim, from int) {
	t.Helper()
	if len(l) != len(old)+1 || from > len(old) || !sameBook(l[:from], old[:from]) {
		t.Fatalf("%+v became %+v, from %d on", old, l, from)
	}
	want := ids(Standing(old))
	at := slices.Index(want, c.Ref)
	switch c.Does {
	case api.Original:
		want = append(want, c.Id)
	case api.Replace:
		want[at] = c.Id
	case api.Void:
		want = slices.Delete(want, at, at+1)
	}
	if have := ids(Standing(l)); !slices.Equal(have, want) {
		t.Fatalf("%s (%d, %s) in %q: %q stand, want %q", c.Id, c.Does, c.Ref, ids(old), have, want)
	}
	// All others, whether they stand or not, are what they were, in their order.
	untouched := func(x api.Entry) bool { return x.Claim.Id != c.Id && x.Claim.Id != c.Ref }
	if !sameBook(keep(old, untouched), keep(l, untouched)) {
		t.Fatalf("%+v became %+v", old, l)
	}
}

func keep(l []api.Entry, wanted func(api.Entry) bool) []api.Entry {
	var made []api.Entry
	for _, x := range l {
		if wanted(x) {
			made = append(made, x)
		}
	}
	return made
}

// Promise 18.4: entries as they come.
func TestStandingByChance(t *testing.T) {
	r := rand.New(rand.NewSource(184))
	for range 5000 {
		l := bookBy(r, 9)
		expectStanding(t, l, keep(l, func(x api.Entry) bool { return x.State == 0 })...)
		expectStanding(t, Standing(l), Standing(l)...)
	}
}

// roomy is a list of n in memory that goes on behind it with what is not to be read.
func roomy[T any](n int, make1 func(i int) T) []T {
	l := make([]T, n+3)
	for i := range l {
		l[i] = make1(i)
	}
	return l[:n]
}

func roomyClaim(does int, id, ref string) api.Claim {
	c := doing(does, id, ref)
	n := 2
	if does == api.Void {
		n = 0
	}
	c.Lines = roomy(n, func(i int) api.Line {
		x := service(20240301 + i)
		x.Mods = roomy(i%2, func(j int) string { return []string{"25", "59", "TC", "26"}[j] })
		return x
	})
	return c
}

func roomyBook(n int) []api.Entry {
	return roomy(n, func(i int) api.Entry {
		x := judged(number(i), 10+i)
		x.Claim = roomyClaim(api.Original, number(i), "")
		x.Outs = roomy(i%3, func(j int) api.Out { return api.Out{Plan: int64(1 + i + j)} })
		return x
	})
}

// whole is all that lies in a list's memory, each list within it, too, in memory of its own.
func whole(v reflect.Value) any {
	switch v.Kind() {
	case reflect.Slice:
		v = v.Slice(0, v.Cap())
		made := []any{}
		for i := range v.Len() {
			made = append(made, whole(v.Index(i)))
		}
		return made
	case reflect.Struct:
		made := []any{}
		for i := range v.NumField() {
			made = append(made, whole(v.Field(i)))
		}
		return made
	}
	return v.Interface()
}

func wholeOf(v any) any { return whole(reflect.ValueOf(v)) }

// overwrite writes over all that lies in a book's memory, and puts something behind each list.
func overwrite(l []api.Entry) {
	l = l[:cap(l)]
	for i := range l {
		x := &l[i]
		lines := x.Claim.Lines[:cap(x.Claim.Lines)]
		for j := range lines {
			mods := lines[j].Mods[:cap(lines[j].Mods)]
			for k := range mods {
				mods[k] = "!!"
			}
			lines[j] = api.Line{Proc: "!!!!!"}
		}
		outs := x.Outs[:cap(x.Outs)]
		for j := range outs {
			outs[j] = api.Out{Plan: -1}
		}
		*x = api.Entry{Claim: api.Claim{Id: "!"}, State: -1}
	}
}

// expectNoRoom asks that nothing lies behind any list of a book.
func expectNoRoom(t *testing.T, l []api.Entry) {
	t.Helper()
	for _, x := range l[len(l):cap(l)] {
		if !reflect.ValueOf(x).IsZero() {
			t.Errorf("behind the entries lies %+v", x)
		}
	}
	for _, x := range l {
		for _, y := range x.Claim.Lines[len(x.Claim.Lines):cap(x.Claim.Lines)] {
			if !reflect.ValueOf(y).IsZero() {
				t.Errorf("behind the services lies %+v", y)
			}
		}
		for _, y := range x.Claim.Lines {
			for _, mod := range y.Mods[len(y.Mods):cap(y.Mods)] {
				if mod != "" {
					t.Errorf("behind the modifiers lies %q", mod)
				}
			}
		}
		for _, y := range x.Outs[len(x.Outs):cap(x.Outs)] {
			if y != (api.Out{}) {
				t.Errorf("behind what became of a claim lies %+v", y)
			}
		}
	}
}

// Rule R3: the entries and the claim that are handed in stay as they were, with all that lies behind them; what is answered is new memory.
func TestHandedIn(t *testing.T) {
	for n := range 6 {
		for ref := range n + 2 {
			for _, does := range []int{api.Original, api.Replace, api.Void} {
				l, c := roomyBook(n), roomyClaim(does, "X", number(ref))
				if does == api.Original {
					c.Ref = ""
				}
				book, one := wholeOf(l), wholeOf(c)
				expectKept := func(what string) {
					t.Helper()
					if !reflect.DeepEqual(wholeOf(l), book) || !reflect.DeepEqual(wholeOf(c), one) {
						t.Fatalf("%s, %d, %d of %d: what was handed in is not what it was", what, does, ref, n)
					}
				}
				Find(l, number(ref))
				Admit(l, c, 9)
				expectKept("asked")
				want, from, err := putOf(l, c, 3, 9)
				made, place, e := Put(l, c, 3, 9)
				if e != err || place != from || !sameBook(made, want) {
					t.Fatalf("%+v, %d, %d, want %+v, %d, %d", made, place, e, want, from, err)
				}
				if does != api.Original && ref >= n && e != api.ErrNone {
					t.Fatalf("%s lies behind the entries: %d", c.Ref, e)
				}
				expectKept("put")
				expectNoRoom(t, made)
				again, _, _ := Put(l, c, 3, 9)
				overwrite(made)
				expectKept("written over")
				if !sameBook(again, want) {
					t.Fatalf("two answers share memory: %+v", again)
				}
				standing, twin := Standing(l), Standing(l)
				expectKept("those that stand")
				expectNoRoom(t, standing)
				overwrite(standing)
				expectKept("those that stand written over")
				if !sameBook(twin, l) {
					t.Fatalf("two answers share memory: %+v", twin)
				}
			}
		}
	}
}

// Rule R3: nor does what was answered change, when what was handed in does, later.
func TestNotKept(t *testing.T) {
	for _, does := range []int{api.Original, api.Replace, api.Void} {
		l, c := roomyBook(4), roomyClaim(does, "X", "C1")
		if does == api.Original {
			c.Ref = ""
		}
		made, _, e := Put(l, c, 3, 9)
		standing := Standing(l)
		want, _, err := putOf(roomyBook(4), claim.Copy(c), 3, 9)
		overwrite([]api.Entry{entry(c, 0, 0)})
		overwrite(l)
		if e != err || !sameBook(made, want) || !sameBook(standing, roomyBook(4)) {
			t.Errorf("%+v, %d, want %+v, %d; %+v stand", made, e, want, err, standing)
		}
	}
}

// No two lists of an answer share memory, where those that are handed in do.
func TestSharedAlready(t *testing.T) {
	one := judged("C0", 1)
	l := []api.Entry{one, one, one}
	for i := range l {
		l[i].Claim.Id = number(i)
		// So that services share their modifiers, too.
		l[i].Claim.Lines[1].Mods = l[i].Claim.Lines[0].Mods
	}
	c := replace("X", "C2")
	c.Lines = one.Claim.Lines
	made, _, e := Put(l, c, 3, 9)
	want, _, err := putOf(l, c, 3, 9)
	if e != err || !sameBook(made, want) {
		t.Fatalf("%+v, %d, want %+v, %d", made, e, want, err)
	}
	for _, got := range [][]api.Entry{made, Standing(l)} {
		for i := range got {
			rest := slices.Concat(got[:i], got[i+1:])
			kept := wholeOf(rest)
			if lines := got[i].Claim.Lines; len(lines) > 1 {
				mods := wholeOf(lines[1:])
				lines[0].Mods[0] = "!!"
				if !reflect.DeepEqual(wholeOf(lines[1:]), mods) {
					t.Errorf("services share their modifiers: %+v", lines)
				}
			}
			overwrite(got[i : i+1 : i+1])
			if !reflect.DeepEqual(wholeOf(rest), kept) {
				t.Errorf("entry %d shares memory with others: %+v", i, got)
			}
		}
	}
}

// A book of as many as a ledger may have, each with as many services as may be.
func TestLargest(t *testing.T) {
	c := original("C0")
	c.Lines = slices.Repeat([]api.Line{service(20240301)}, api.MaxLines)
	l := make([]api.Entry, api.MaxLedger-1)
	for i := range l {
		l[i] = judged(number(i), i)
		l[i].Claim.Lines = c.Lines
	}
	x := replace("X", number(len(l)-1))
	x.Lines = c.Lines
	made, from, e := Put(l, x, 3, api.MaxLedger)
	if e != api.OK || from != len(l)-1 || len(made) != api.MaxLedger || made[len(l)].Tables != len(l)-1 {
		t.Fatalf("%d entries, %d, %d", len(made), from, e)
	}
	if n := len(Standing(made)); n != len(l) {
		t.Errorf("%d stand, want %d", n, len(l))
	}
	expectRefused(t, made, original("Y"), api.MaxLedger, api.ErrFull)
	expectRefused(t, made, void("Y", "X"), api.MaxLedger, api.ErrFull)
	expectRefused(t, made, void("Y", "Z"), api.MaxLedger, api.ErrNone)
}
