package remit

import (
	"fmt"
	"testing"

	"leechbook/api"
)

// roomy is a list whose memory goes on behind it with what is not to be read, written or handed out.
func roomy[T any](behind T, l ...T) []T {
	made := append(append(make([]T, 0, len(l)+2), l...), behind, behind)
	return made[:len(l)]
}

// all is a list with what lies behind it.
func all[T any](l []T) []T { return l[:cap(l)] }

var (
	junkCas   = api.Cas{Group: "JU", Why: -7, Cents: -7}
	junkSvc   = api.Svc{Proc: "JUNKS", Billed: -7}
	junkClp   = api.Clp{Id: "JUNK", Status: -7, Paid: -7}
	junkLine  = api.Line{Proc: "JUNKL", Billed: -7}
	junkOut   = api.Out{Plan: -7, Deny: -7}
	junkEntry = api.Entry{Claim: api.Claim{Id: "JUNKE"}, Outs: []api.Out{junkOut}}
)

func roomyTold(l ...api.Clp) []api.Clp {
	for i := range l {
		for k := range l[i].Svcs {
			l[i].Svcs[k].Cas = roomy(junkCas, l[i].Svcs[k].Cas...)
		}
		l[i].Svcs = roomy(junkSvc, l[i].Svcs...)
	}
	return roomy(junkClp, l...)
}

func roomyEntries(l ...api.Entry) []api.Entry {
	for i := range l {
		l[i].Claim.Lines = roomy(junkLine, l[i].Claim.Lines...)
		l[i].Outs = roomy(junkOut, l[i].Outs...)
	}
	return roomy(junkEntry, l...)
}

// named is the claim full by another number.
func named(id string, state int) api.Entry {
	e := full()
	e.Claim.Id, e.State = id, state
	return e
}

// given are what was told and entries, of which some are the same, changed, taken back and new.
func given() ([]api.Clp, []api.Entry) {
	was := roomyTold(now(named("A", 0), part("B", 0, 70, 30), named("C", 0), named("D", 0))...)
	changed := named("D", api.Live)
	changed.Outs[0].Plan, changed.Outs[0].Write = 2, 1
	l := roomyEntries(named("A", api.Live), named("B", api.Live), named("C", api.Voided), changed, named("E", api.Live), part("F", api.Live, 9, 3))
	return was, l
}

// whole is all of what is handed in as a text, with what lies behind its lists.
func whole(was []api.Clp, l []api.Entry) string {
	text := plain(all(was)) + plain(all(l))
	for _, x := range was {
		text += wholeOf(x)
	}
	for _, e := range l {
		text += plain(all(e.Claim.Lines)) + plain(all(e.Outs))
	}
	return text
}

func wholeOf(x api.Clp) string {
	text := plain(all(x.Svcs))
	for _, s := range x.Svcs {
		text += plain(all(s.Cas))
	}
	return text
}

// scribble writes over all lists of claims, with what lies behind them.
func scribble(l []api.Clp) {
	for _, x := range l {
		scribbleOf(x)
	}
	for i := range all(l) {
		all(l)[i] = api.Clp{Id: "?", Paid: -1}
	}
}

func scribbleOf(x api.Clp) {
	for _, s := range x.Svcs {
		for k := range all(s.Cas) {
			all(s.Cas)[k] = api.Cas{Group: "??", Cents: -1}
		}
	}
	for i := range all(x.Svcs) {
		all(x.Svcs)[i] = api.Svc{Proc: "?????", Billed: -1, Paid: -1}
	}
}

// Rule R3: what Make answers shares no memory with what is handed in, which stays as it was, nor with another answer.
func TestMakeMemory(t *testing.T) {
	was, l := given()
	before := whole(was, l)
	a, b := made(7, was, l, 3), made(7, was, l, 3)
	text := plain(a)
	if a.Err != api.OK || whole(was, l) != before || plain(b) != text {
		t.Fatalf("%+v, %+v, %s became %s", a, b, before, whole(was, l))
	}
	if len(a.Remit.Claims) != 7 || len(a.Told) != 5 {
		t.Fatalf("%+v", a)
	}
	scribble(was)
	for i := range l {
		for k := range all(l[i].Outs) {
			all(l[i].Outs)[k] = api.Out{Plan: -1}
		}
		for k := range all(l[i].Claim.Lines) {
			all(l[i].Claim.Lines)[k] = api.Line{Proc: "?"}
		}
		l[i] = api.Entry{}
	}
	if plain(a) != text {
		t.Errorf("%s became %+v", text, a)
	}
	was, l = given()
	a = made(7, was, l, 3)
	scribble(a.Remit.Claims)
	scribble(a.Told)
	if whole(was, l) != before || plain(b) != text {
		t.Errorf("%s became %s, %s became %+v", before, whole(was, l), text, b)
	}
}

// Rule R3: the remittance and what is told now share no memory, nor do two claims or two services of theirs.
func TestMakeApart(t *testing.T) {
	was, l := given()
	a := made(7, was, l, 3)
	told, remit := plain(a.Told), plain(a.Remit)
	scribble(a.Remit.Claims)
	if plain(a.Told) != told {
		t.Errorf("%s became %+v", told, a.Told)
	}
	a = made(7, was, l, 3)
	scribble(a.Told)
	if plain(a.Remit) != remit {
		t.Errorf("%s became %+v", remit, a.Remit)
	}
	for i := range 7 + 5 {
		a = made(7, was, l, 3)
		both := append(append([]api.Clp{}, a.Remit.Claims...), a.Told...)
		texts := make([]string, len(both))
		for k := range both {
			texts[k] = plain(both[k])
		}
		scribbleOf(both[i])
		for k := range both {
			if k != i && plain(both[k]) != texts[k] {
				t.Errorf("%d and %d share memory: %s became %+v", i, k, texts[k], both[k])
			}
		}
	}
}

// Rule R3: nothing that lies behind a list is handed out.
func TestMakeBehind(t *testing.T) {
	was, l := given()
	a := made(7, was, l, 3)
	for _, x := range append(append([]api.Clp{}, all(a.Remit.Claims)...), all(a.Told)...) {
		if x.Id == junkClp.Id || x.Id == junkEntry.Claim.Id {
			t.Errorf("%+v", x)
		}
		for _, s := range all(x.Svcs) {
			if s.Proc == junkSvc.Proc || s.Proc == junkLine.Proc {
				t.Errorf("%+v", s)
			}
			for _, c := range all(s.Cas) {
				if c.Group == junkCas.Group {
					t.Errorf("%+v", c)
				}
			}
		}
	}
	// What lies behind is not read: a number that was told stands there, an entry, and what may not be.
	behind := now(entry("A", 0, 1), entry("A", 0, 1), entry("Z", 0, 1))
	expectMake(t, behind[:1], list(entry("A", 0, 1), entry("A", 0, 2), entry("B", 0, 2))[:1], 0, nil, 0, 0, now(entry("A", 0, 1)), 0)
	expectNotMake(t, 7, behind[2:], list(entry("A", 0, 1), entry("Z", 0, 1))[:1], 0, api.ErrNone)
}

// Rule R3: with an error what is handed in stays as it was, too.
func TestRefusedMemory(t *testing.T) {
	for i, spoil := range []func([]api.Clp, []api.Entry){
		func(was []api.Clp, _ []api.Entry) { was[3].Id = "A" }, func(was []api.Clp, _ []api.Entry) { was[3].Status = 22 },
		func(was []api.Clp, _ []api.Entry) { was[3].Id = "Z" }, func(_ []api.Clp, l []api.Entry) { l[5].Outs[0].Plan = -1 },
		func(_ []api.Clp, l []api.Entry) { l[5].Claim.Id = "?" }, func(_ []api.Clp, l []api.Entry) { l[2].Claim.Id = "G" },
	} {
		was, l := given()
		spoil(was, l)
		before := whole(was, l)
		if a := made(7, was, l, 3); a.Err == api.OK || plain(a) != plain(answer{Err: a.Err}) || whole(was, l) != before {
			t.Errorf("%d: %+v, %s became %s", i, a, before, whole(was, l))
		}
	}
}

// Rule R3: Sum and Check leave what they are handed as it was, and do not read behind it.
func TestAskedMemory(t *testing.T) {
	r := remittance(3, roomyTold(now(named("A", 0), part("B", 0, 70, 30))...)...)
	r.Claims = roomy(junkClp, r.Claims...)
	text := func() string {
		made := plain(all(r.Claims))
		for _, x := range r.Claims {
			made += wholeOf(x)
		}
		return made
	}
	before := text()
	if Sum(r) != 31 || Check(r) != api.OK || text() != before {
		t.Errorf("%d, %d, %s became %s", Sum(r), Check(r), before, text())
	}
}

// Rule R3: nothing is kept from call to call; promise P6: the same is answered each time.
func TestAgain(t *testing.T) {
	was, l := given()
	first := plain(made(7, was, l, 3))
	for i := range 50 {
		made(i, nil, list(entry("C"+fmt.Sprint(i), 0, 9)), 0)
		made(i, was, nil, 0)
		if now := plain(made(7, was, l, 3)); now != first {
			t.Fatalf("%s became %s", first, now)
		}
	}
}
