package five

import (
	"fmt"
	"testing"

	"leechbook/api"
)

// roomy is a list whose memory goes on behind it with what is not to be read, written or handed out.
func roomy[T any](behind T, l ...T) []T {
	made := append(append(make([]T, 0, len(l)+2), l...), behind, behind)
	return made[:len(l)]
}

// all is a list with what lies behind it.
func all[T any](l []T) []T { return l[:cap(l)] }

var (
	junkCas = api.Cas{Group: "JU", Why: -7, Cents: -7}
	junkSvc = api.Svc{Proc: "JUNKS", Billed: -7, Paid: -7}
	junkClp = api.Clp{Id: "JUNK", Status: -7, Paid: -7}
)

// given is the longer remittance, with junk behind each of its lists.
func given() api.Remit {
	r := longer()
	for i := range r.Claims {
		for k := range r.Claims[i].Svcs {
			r.Claims[i].Svcs[k].Cas = roomy(junkCas, r.Claims[i].Svcs[k].Cas...)
		}
		r.Claims[i].Svcs = roomy(junkSvc, r.Claims[i].Svcs...)
	}
	r.Claims = roomy(junkClp, r.Claims...)
	return r
}

// everything is all of a remittance as a text, with what lies behind its lists.
func everything(r api.Remit) string {
	s := fmt.Sprint(r.Number, r.Paid, r.Held, all(r.Claims))
	for _, x := range r.Claims {
		s += fmt.Sprint(all(x.Svcs))
		for _, service := range x.Svcs {
			s += fmt.Sprint(all(service.Cas))
		}
	}
	return s
}

// Rule R3: Write leaves what is handed in as it was, and reads nothing that lies behind a list's length.
func TestWriteMemory(t *testing.T) {
	r := given()
	before := everything(r)
	expectWritten(t, usual, r, text(longerRows()...), api.OK)
	expectWritten(t, delims("**~"), r, "", api.ErrArg)
	r.Paid++
	expectWritten(t, usual, r, "", api.ErrBalance)
	r.Paid--
	if after := everything(r); after != before {
		t.Errorf("%s became %s", before, after)
	}
	// Lists that are nil, and those without elements.
	expectWritten(t, usual, api.Remit{Number: 7, Claims: []api.Clp{}}, text("BPR*0.00*0.00*0"), api.OK)
	bare := told("C1", 1, service("99213", 0, 0))
	bare.Svcs[0].Cas = []api.Cas{}
	expectWritten(t, usual, remittance(0, bare), text("BPR*0.00*0.00*1", "CLP*C1*1*0.00*0.00*0.00", "SVC*99213*0.00*0.00"), api.OK)
}

// Rule R3: what Read answers is new memory, no two lists of one answer share any, and nothing lies behind them.
func TestReadMemory(t *testing.T) {
	s := text(append(append(longerRows(), longerRows()[1:]...), "CLP*C3*1*0*0*0", "SVC*99213*0*0")...)
	s = s[:len("ISA*:~GS*835*7~ST*835*7~")] + "BPR*0.20*-1.60*5" + s[len("ISA*:~GS*835*7~ST*835*7~BPR*0.10*-0.80*2"):]
	_, a, e := Read(s)
	_, b, _ := Read(s)
	if e != api.OK || len(a.Claims) != 5 || !sameRemit(a, b) {
		t.Fatalf("%+v, %v", a, e)
	}
	before := everything(b)
	for i := range a.Claims {
		for k := range a.Claims[i].Svcs {
			l := a.Claims[i].Svcs[k].Cas
			for _, behind := range all(l)[len(l):] {
				if behind != (api.Cas{}) {
					t.Errorf("behind the end: %v", behind)
				}
			}
			for n := range all(l) {
				all(l)[n] = junkCas
			}
		}
	}
	for i, x := range a.Claims {
		for k, service := range x.Svcs {
			want := b.Claims[i].Svcs[k]
			if service.Proc != want.Proc || service.Billed != want.Billed || service.Paid != want.Paid || len(service.Cas) != len(want.Cas) {
				t.Errorf("shared: %v", service)
			}
		}
		for k := range all(x.Svcs) {
			all(x.Svcs)[k] = junkSvc
		}
	}
	for i, x := range a.Claims {
		if want := b.Claims[i]; x.Id != want.Id || x.Paid != want.Paid || len(x.Svcs) != len(want.Svcs) {
			t.Errorf("shared: %v", x)
		}
	}
	for i := range all(a.Claims) {
		all(a.Claims)[i] = junkClp
	}
	if after := everything(b); after != before {
		t.Errorf("%s became %s", before, after)
	}
}

// Rule R3: a list that has no elements is as one that is nil.
func TestReadNone(t *testing.T) {
	_, r, e := Read(text("BPR*0.00*0.00*0"))
	if e != api.OK || len(r.Claims) != 0 || r.Number != 7 {
		t.Errorf("%+v, %v", r, e)
	}
	_, r, e = Read(text("BPR*0*0*1", "CLP*C1*1*0*0*0", "SVC*99213*0*0"))
	if e != api.OK || len(r.Claims) != 1 || len(r.Claims[0].Svcs) != 1 || len(r.Claims[0].Svcs[0].Cas) != 0 {
		t.Errorf("%+v, %v", r, e)
	}
}
