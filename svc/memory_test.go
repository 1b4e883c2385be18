package svc

import (
	"fmt"
	"testing"

	"leechbook/api"
)

// roomy is a list whose memory goes on behind it with what is not to be read, written or handed out.
func roomy[T any](behind T, l ...T) []T {
	made := append(append(make([]T, 0, len(l)+2), l...), behind, behind)
	return made[:len(l)]
}

// all is a list with what lies behind it.
func all[T any](l []T) []T { return l[:cap(l)] }

var (
	junkLine = api.Line{Proc: "JUNKL", Billed: -7}
	junkOut  = api.Out{Plan: -7, Deny: -7}
	junkSvc  = api.Svc{Proc: "JUNKS", Billed: -7}
	junkCas  = cas("JU", -7, -7)
)

// roomyClaim is a claim that may be with lists that go on behind it.
func roomyClaim() (api.Claim, []api.Out) {
	c := claimOf(roomy(junkLine, visit(63), visit(100), visit(7), visit(1))...)
	outs := roomy(junkOut,
		api.Out{Plan: 1, Write: 2, Deduct: 4, Coins: 8, Copay: 16, Prior: 32}, api.Out{Write: 60, Prior: 40, Deny: api.DCover},
		api.Out{Plan: 7}, api.Out{Copay: 1},
	)
	return c, outs
}

// roomyPaid is the claim two with lists that go on behind it.
func roomyPaid() api.Clp {
	x := two(1, 1)
	for i := range x.Svcs {
		x.Svcs[i].Cas = roomy(junkCas, x.Svcs[i].Cas...)
	}
	x.Svcs = roomy(junkSvc, x.Svcs...)
	return x
}

// wholePaid is all of a claim as a text, with what lies behind its lists.
func wholePaid(x api.Clp) string {
	made := fmt.Sprintf("%+v %+v", x, all(x.Svcs))
	for _, s := range x.Svcs {
		made += fmt.Sprintf(" %+v", all(s.Cas))
	}
	return made
}

// scribble writes over all of a claim's lists, with what lies behind them.
func scribble(x api.Clp) {
	for _, s := range x.Svcs {
		for k := range all(s.Cas) {
			all(s.Cas)[k] = cas("??", -1, -1)
		}
	}
	for i := range all(x.Svcs) {
		all(x.Svcs)[i] = api.Svc{Proc: "?????", Billed: -1, Paid: -1}
	}
}

// expectApart holds that no two lists of a claim share memory: to write all over one, with what lies behind it, leaves the others as they were.
func expectApart(t *testing.T, x api.Clp) {
	t.Helper()
	for i := range x.Svcs {
		for k, s := range x.Svcs {
			if k == i {
				continue
			}
			was := fmt.Sprint(s.Cas)
			for n := range all(x.Svcs[i].Cas) {
				all(x.Svcs[i].Cas)[n].Cents = int64(-1000 - i)
			}
			_ = append(x.Svcs[i].Cas, junkCas)
			if now := fmt.Sprint(s.Cas); now != was {
				t.Errorf("services %d and %d share memory: %s became %s", i, k, was, now)
			}
		}
	}
}

// Rule R3: what Of answers shares no memory with what is handed in, which stays as it was.
func TestOfMemory(t *testing.T) {
	c, outs := roomyClaim()
	whole := func() string { return fmt.Sprintf("%+v %+v %+v", c, all(c.Lines), all(outs)) }
	was := whole()
	x, e := Of(c, outs)
	y, _ := Of(c, outs)
	told := plain(x)
	if e != api.OK || whole() != was || plain(y) != told {
		t.Fatalf("%d, %s became %s", e, was, whole())
	}
	for i := range all(x.Svcs) {
		if s := all(x.Svcs)[i]; s.Proc == junkLine.Proc || s.Billed == junkLine.Billed {
			t.Errorf("what lay behind was handed out: %+v", s)
		}
	}
	for i := range all(c.Lines) {
		all(c.Lines)[i], all(outs)[i] = api.Line{Proc: "?"}, api.Out{Plan: -1}
	}
	if plain(x) != told {
		t.Errorf("%s became %+v", told, x)
	}
	c, outs = roomyClaim()
	scribble(x)
	if whole() != was || plain(y) != told {
		t.Errorf("%s became %s, %s became %+v", was, whole(), told, y)
	}
	expectApart(t, y)
}

// Rule R3: with an error what is handed in stays as it was, too.
func TestOfRefusedMemory(t *testing.T) {
	for _, spoil := range []func(*api.Claim, []api.Out){
		func(c *api.Claim, _ []api.Out) { c.Id = "?" }, func(c *api.Claim, _ []api.Out) { c.Lines = c.Lines[:3] },
		func(c *api.Claim, _ []api.Out) { c.Lines[3].Proc = "?" }, func(_ *api.Claim, outs []api.Out) { outs[3].Plan = -1 },
		func(_ *api.Claim, outs []api.Out) { outs[3].Plan = 1 },
	} {
		c, outs := roomyClaim()
		spoil(&c, outs)
		whole := func() string { return fmt.Sprintf("%+v %+v %+v", c, all(c.Lines), all(outs)) }
		was := whole()
		if x, e := Of(c, outs); e == api.OK || plain(x) != plain(api.Clp{}) || whole() != was {
			t.Errorf("%+v, %d, %s became %s", x, e, was, whole())
		}
	}
}

// Rule R3: what Back answers shares no memory with what is handed in, which stays as it was.
func TestBackMemory(t *testing.T) {
	x := roomyPaid()
	was := wholePaid(x)
	b, again := Back(x), Back(x)
	if wholePaid(x) != was || plain(b) != plain(two(22, -1)) {
		t.Fatalf("%s became %s, %+v", was, wholePaid(x), b)
	}
	for i := range all(b.Svcs) {
		if s := all(b.Svcs)[i]; s.Proc == junkSvc.Proc {
			t.Errorf("what lay behind was handed out: %+v", s)
		}
	}
	for _, s := range b.Svcs {
		for _, a := range all(s.Cas) {
			if a.Group == junkCas.Group {
				t.Errorf("what lay behind was handed out: %+v", a)
			}
		}
	}
	scribble(x)
	if plain(b) != plain(two(22, -1)) {
		t.Errorf("it became %+v", b)
	}
	x = roomyPaid()
	b = Back(x)
	scribble(b)
	_ = append(b.Svcs, junkSvc)
	if wholePaid(x) != was || plain(again) != plain(two(22, -1)) {
		t.Errorf("%s became %s, %+v", was, wholePaid(x), again)
	}
	expectApart(t, again)
}

// Rule R3: where services share their adjustments as they are handed in, those that are taken back do not.
func TestBackSharedAlready(t *testing.T) {
	l := []api.Cas{cas("PR", 1, 3), cas("CO", 45, 4)}
	s := api.Svc{Proc: "99213", Billed: 10, Paid: 3, Cas: l}
	x := paidFor(1, s, s, s)
	b := Back(x)
	if Check(x) != api.OK || Check(b) != api.OK || l[0].Cents != 3 || l[1].Cents != 4 {
		t.Fatalf("%+v became %+v", x, b)
	}
	expectApart(t, b)
}

// Rule R3: Check and Same leave what they are handed as it was, and do not read behind it.
func TestAskedMemory(t *testing.T) {
	x, y := roomyPaid(), roomyPaid()
	was := wholePaid(x)
	if Check(x) != api.OK || !Same(x, y) || !Same(x, two(1, 1)) || !Same(two(1, 1), x) {
		t.Errorf("what lies behind was read: %s", was)
	}
	all(y.Svcs)[len(y.Svcs)] = api.Svc{}
	all(y.Svcs[0].Cas)[len(y.Svcs[0].Cas)] = api.Cas{}
	if !Same(x, y) {
		t.Errorf("what lies behind was held against another")
	}
	if now := wholePaid(x); now != was {
		t.Errorf("%s became %s", was, now)
	}
}
