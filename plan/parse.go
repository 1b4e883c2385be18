package plan

import (
	"slices"

	"leechbook/api"
	"leechbook/digits"
	"leechbook/words"
)

// numberDigits is how many digits a number of a plan has at most.
const numberDigits = 5

// reader takes word by word, from the left; at one that is wrong it throws an api.Fault, however deep it is.
type reader struct {
	left []api.Word
	end  int // where the text ends
}

// Parse is the plan that a text is.
func Parse(s string) (p api.Plan, f api.Fault) {
	list, f := words.Split(s)
	if f.Err != api.OK {
		return api.Plan{}, f
	}
	defer func() {
		if thrown := recover(); thrown != nil {
			p, f = api.Plan{}, thrown.(api.Fault)
		}
	}()
	r := reader{left: list, end: len(s)}
	p = r.plan()
	if e := Check(p); e != api.OK {
		return api.Plan{}, api.Fault{Err: e}
	}
	return p, api.Fault{}
}

// take is the next word; behind the last one it is empty, and stands where the text ends.
func (r *reader) take() api.Word {
	if len(r.left) == 0 {
		return api.Word{At: r.end}
	}
	w := r.left[0]
	r.left = r.left[1:]
	return w
}

func fault(e api.Errno, w api.Word) api.Fault { return api.Fault{Err: e, At: w.At} }

// choice is which of these the next word is.
func (r *reader) choice(l ...string) int {
	w := r.take()
	i := slices.Index(l, w.Text)
	if i < 0 {
		panic(fault(api.ErrSyntax, w))
	}
	return i
}

func (r *reader) amount() int64 {
	w := r.take()
	a, e := digits.ReadMoney(w.Text)
	if e != api.OK {
		panic(fault(e, w))
	}
	return a
}

func (r *reader) number(most int64) int64 {
	w := r.take()
	n, e := digits.ReadInt(w.Text, numberDigits)
	if e != api.OK || n > most {
		panic(fault(api.ErrSyntax, w))
	}
	return n
}

// code is the next word, if it is a code of this kind.
func (r *reader) code(good func(string) bool) string {
	w := r.take()
	if !good(w.Text) {
		panic(fault(api.ErrCode, w))
	}
	return w.Text
}

func (r *reader) plan() api.Plan {
	var p api.Plan
	r.choice("plan")
	p.Mode = embedded
	if r.choice("embedded", "aggregate") == 1 {
		p.Mode = aggregate
	}
	r.choice("member")
	p.IndDed = r.amount()
	p.IndOop = r.amount()
	r.choice("family")
	p.FamDed = r.amount()
	p.FamOop = r.amount()
	p.Rules = r.rules()
	return p
}

// rules are all that stand there, up to the text's end.
func (r *reader) rules() []api.Rule {
	var l []api.Rule
	for len(r.left) > 0 {
		first := r.left[0]
		r.choice("rule")
		if len(l) == api.MaxRules {
			panic(fault(api.ErrLimit, first))
		}
		l = append(l, r.rule())
	}
	return l
}

// rule is the one that stands behind its first word.
func (r *reader) rule() api.Rule {
	var made api.Rule
	made.Rank = int(r.number(mostRank))
	r.choice("if")
	made.If = r.condition(1)
	if r.choice("unless", "set") == 0 {
		made.Unless = []api.Cond{r.condition(1)}
		r.choice("set")
	}
	made.Sets = r.sets()
	return made
}

// sets are one or more, up to the word that ends the rule.
func (r *reader) sets() []api.Set {
	var l []api.Set
	for {
		w := r.take()
		if w.Text == "end" && len(l) > 0 {
			return l
		}
		s := r.set(w)
		// What follows the word was read by now: its fault is told ahead of this one.
		if isSet(l, s.What) {
			panic(fault(api.ErrTwice, w))
		}
		l = append(l, s)
	}
}

// set is what this word names, set to what follows it.
func (r *reader) set(w api.Word) api.Set {
	switch w.Text {
	case "cover":
		return api.Set{What: api.SCover, N: r.answer()}
	case "deduct":
		return api.Set{What: api.SDeduct, N: r.answer()}
	case "copay":
		return api.Set{What: api.SCopay, N: r.amount()}
	case "coins":
		return api.Set{What: api.SCoins, N: r.number(mostCoins)}
	}
	panic(fault(api.ErrSyntax, w))
}

func (r *reader) answer() int64 {
	if r.choice("yes", "no") == 0 {
		return yes
	}
	return no
}

// condition is the next one, which lies at this depth.
func (r *reader) condition(depth int) api.Cond {
	w := r.take()
	kind, ok := kindOf(w.Text)
	if !ok {
		panic(fault(api.ErrSyntax, w))
	}
	if depth > api.MaxNest {
		panic(fault(api.ErrLimit, w))
	}
	c := api.Cond{Kind: kind}
	switch kind {
	case api.CProc:
		c.Lo = r.code(proc)
		c.Hi = r.code(proc)
	case api.CMod:
		c.Lo = r.code(mod)
	case api.CUnits:
		c.N = r.number(api.MaxUnits)
	case api.CBilled:
		c.N = r.amount()
	case api.CNot:
		c.Kids = []api.Cond{r.condition(depth + 1)}
	case api.CAnd:
		return r.pair(depth + 1)
	}
	return c
}

// kindOf is the kind of the condition that begins with this word; of one in brackets it is CAnd, till the word between the two is read.
func kindOf(word string) (int, bool) {
	switch word {
	case "all":
		return api.CAll, true
	case "proc":
		return api.CProc, true
	case "mod":
		return api.CMod, true
	case "units":
		return api.CUnits, true
	case "billed":
		return api.CBilled, true
	case "out":
		return api.COut, true
	case "not":
		return api.CNot, true
	case "(":
		return api.CAnd, true
	}
	return 0, false
}

// pair is two conditions behind a bracket, each at this depth.
func (r *reader) pair(depth int) api.Cond {
	first := r.condition(depth)
	kind := api.CAnd
	if r.choice("and", "or") == 1 {
		kind = api.COr
	}
	second := r.condition(depth)
	r.choice(")")
	return api.Cond{Kind: kind, Kids: []api.Cond{first, second}}
}
