package plan

import (
	"leechbook/api"
	"leechbook/digits"
	"leechbook/words"
)

// writer gathers the words of a text.
type writer struct {
	list []string
	size int // of the text, with a blank behind each word
}

// Print is a plan as a text.
func Print(p api.Plan) (s string, e api.Errno) {
	if e := Check(p); e != api.OK {
		return "", e
	}
	defer func() {
		if thrown := recover(); thrown != nil {
			s, e = "", thrown.(api.Errno)
		}
	}()
	var w writer
	w.head(p)
	for _, r := range p.Rules {
		w.rule(r)
	}
	return words.Join(w.list), api.OK
}

// add adds words; it throws where the text grows too long, as conditions that share their kids may come to far more than memory holds.
func (w *writer) add(l ...string) {
	for _, word := range l {
		w.size += len(word) + 1
	}
	if w.size-1 > api.MaxText {
		panic(api.ErrLimit)
	}
	w.list = append(w.list, l...)
}

func (w *writer) head(p api.Plan) {
	mode := "embedded"
	if p.Mode == aggregate {
		mode = "aggregate"
	}
	w.add("plan", mode)
	w.add("member", digits.Money(p.IndDed), digits.Money(p.IndOop))
	w.add("family", digits.Money(p.FamDed), digits.Money(p.FamOop))
}

func (w *writer) rule(r api.Rule) {
	w.add("rule", digits.Int(int64(r.Rank)), "if")
	w.condition(r.If)
	for _, c := range r.Unless {
		w.add("unless")
		w.condition(c)
	}
	w.add("set")
	for _, s := range r.Sets {
		w.set(s)
	}
	w.add("end")
}

func (w *writer) set(s api.Set) {
	switch s.What {
	case api.SCover:
		w.add("cover", answer(s.N))
	case api.SDeduct:
		w.add("deduct", answer(s.N))
	case api.SCopay:
		w.add("copay", digits.Money(s.N))
	case api.SCoins:
		w.add("coins", digits.Int(s.N))
	}
}

func answer(n int64) string {
	if n == yes {
		return "yes"
	}
	return "no"
}

func (w *writer) condition(c api.Cond) {
	switch c.Kind {
	case api.CAll:
		w.add("all")
	case api.CProc:
		w.add("proc", c.Lo, c.Hi)
	case api.CMod:
		w.add("mod", c.Lo)
	case api.CUnits:
		w.add("units", digits.Int(c.N))
	case api.CBilled:
		w.add("billed", digits.Money(c.N))
	case api.COut:
		w.add("out")
	case api.CNot:
		w.add("not")
		w.condition(c.Kids[0])
	case api.CAnd:
		w.pair(c.Kids, "and")
	case api.COr:
		w.pair(c.Kids, "or")
	}
}

// pair adds two conditions in brackets, with a word between.
func (w *writer) pair(kids []api.Cond, between string) {
	w.add("(")
	w.condition(kids[0])
	w.add(between)
	w.condition(kids[1])
	w.add(")")
}
