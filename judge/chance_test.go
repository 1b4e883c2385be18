package judge

import (
	"bytes"
	"math"
	"math/rand"
	"reflect"
	"slices"
	"sort"
	"testing"

	"leechbook/accs"
	"leechbook/api"
	"leechbook/claim"
)

var (
	codes  = []string{"80050", "99213", "99214", "J1100"}
	mods   = []string{"25", "59", "TC"}
	people = []string{"M1", "M2", "M3"}
	groups = []string{"F1", "F2"}
)

func pick[T any](r *rand.Rand, l []T) T { return l[r.Intn(len(l))] }

func condBy(r *rand.Rand, depth int) api.Cond {
	kind := r.Intn(9)
	if depth == 0 {
		kind = r.Intn(6)
	}
	switch kind {
	case api.CProc:
		return api.Cond{Kind: kind, Lo: pick(r, codes), Hi: pick(r, codes)}
	case api.CMod:
		return api.Cond{Kind: kind, Lo: pick(r, mods)}
	case api.CUnits:
		return api.Cond{Kind: kind, N: r.Int63n(4)}
	case api.CBilled:
		return api.Cond{Kind: kind, N: r.Int63n(150)}
	case api.CNot:
		return api.Cond{Kind: kind, Kids: []api.Cond{condBy(r, depth-1)}}
	case api.CAnd, api.COr:
		return api.Cond{Kind: kind, Kids: []api.Cond{condBy(r, depth-1), condBy(r, depth-1)}}
	}
	return api.Cond{Kind: kind}
}

func planBy(r *rand.Rand) api.Plan {
	p := api.Plan{Mode: r.Intn(2), FamOop: r.Int63n(600)}
	p.FamDed, p.IndOop = r.Int63n(p.FamOop+1), r.Int63n(p.FamOop+1)
	p.IndDed = r.Int63n(min(p.FamDed, p.IndOop) + 1)
	p.Rules = []api.Rule{rule(0, api.Cond{}, cover(1), deduct(1), coins(pick(r, []int64{0, 1000, 2500, 10000})))}
	for range r.Intn(5) {
		all := []api.Set{cover(int64(r.Intn(2))), deduct(int64(r.Intn(2))), copay(r.Int63n(60)), coins(r.Int63n(10001))}
		r.Shuffle(len(all), func(i, j int) { all[i], all[j] = all[j], all[i] })
		made := rule(r.Intn(4), condBy(r, 2), all[:1+r.Intn(4)]...)
		if r.Intn(2) == 0 {
			made.Unless = []api.Cond{condBy(r, 1)}
		}
		p.Rules = append(p.Rules, made)
	}
	return p
}

func feesBy(r *rand.Rand) []api.Fee {
	var l []api.Fee
	for _, code := range codes {
		for _, mod := range append([]string{""}, mods...) {
			for net := range 2 {
				for _, from := range []int{20240101, 20240303, 20250101} {
					if r.Intn(5) < 2 {
						l = append(l, api.Fee{Proc: code, Mod: mod, Net: net, From: from, Cents: r.Int63n(120)})
					}
				}
			}
		}
	}
	return l
}

func editsBy(r *rand.Rand) []api.Edit {
	var l []api.Edit
	for range r.Intn(4) {
		at := r.Perm(len(codes))
		a, b := codes[at[0]], codes[at[1]]
		l = append(l, pick(r, []api.Edit{
			{Kind: api.EBundle, A: a, B: b, Bypass: r.Intn(2) == 0},
			{Kind: api.EEither, A: a, B: b},
			{Kind: api.EUnits, A: a, N: 1 + r.Intn(3)},
		}))
	}
	return l
}

func tablesBy(r *rand.Rand) api.Tables {
	return api.Tables{Plan: planBy(r), Fees: feesBy(r), Edits: editsBy(r)}
}

func lineBy(r *rand.Rand, year int) api.Line {
	x := api.Line{Proc: pick(r, codes), Date: year*10000 + 301 + r.Intn(5), Units: 1 + r.Intn(4), Billed: r.Int63n(300)}
	for range r.Intn(3) {
		x.Mods = append(x.Mods, pick(r, mods))
	}
	if r.Intn(3) == 0 {
		x.Prior = r.Int63n(x.Billed + 1)
	}
	return x
}

func claimBy(r *rand.Rand) api.Claim {
	c := claimOf(r.Intn(5)/4, lineBy(r, 2024))
	c.Member, c.Family = pick(r, people), pick(r, groups)
	year := 2024 + r.Intn(2)
	c.Lines = nil
	for range 1 + r.Intn(8) {
		c.Lines = append(c.Lines, lineBy(r, year))
	}
	return c
}

// rowsBy are rows of some of those that claims are of.
func rowsBy(r *rand.Rand) []api.Acc {
	var l []api.Acc
	for _, year := range []int{2023, 2024, 2025} {
		for i, who := range append(slices.Clone(people), groups...) {
			if r.Intn(2) == 0 {
				oop := 1 + r.Int63n(300)
				l = append(l, api.Acc{Who: who, Family: i >= len(people), Year: year, Deduct: r.Int63n(oop + 1), Oop: oop})
			}
		}
	}
	return l
}

// other is another way of judging: sums in a map, and every table gone through from its first row on.
type other struct {
	t    api.Tables
	c    api.Claim
	sums map[api.Acc][2]int64
}

func at(who string, family bool, year int) api.Acc {
	return api.Acc{Who: who, Family: family, Year: year}
}

func (o other) holds(c api.Cond, x api.Line) bool {
	switch c.Kind {
	case api.CProc:
		return bytes.Compare([]byte(c.Lo), []byte(x.Proc)) <= 0 && bytes.Compare([]byte(x.Proc), []byte(c.Hi)) <= 0
	case api.CMod:
		return slices.Index(x.Mods, c.Lo) >= 0
	case api.CUnits:
		return x.Units > int(c.N)
	case api.CBilled:
		return x.Billed > c.N
	case api.COut:
		return o.c.Net == 1
	case api.CNot:
		return !o.holds(c.Kids[0], x)
	case api.CAnd:
		return o.holds(c.Kids[0], x) && o.holds(c.Kids[1], x)
	case api.COr:
		return o.holds(c.Kids[0], x) || o.holds(c.Kids[1], x)
	}
	return true
}

// says is what the plan sets of that, by the rules that apply, put in order by their ranks.
func (o other) says(what int, x api.Line) int64 {
	l := slices.Clone(o.t.Plan.Rules)
	sort.SliceStable(l, func(i, j int) bool { return l[i].Rank > l[j].Rank })
	for _, r := range l {
		if !o.holds(r.If, x) || len(r.Unless) > 0 && o.holds(r.Unless[0], x) {
			continue
		}
		for _, s := range r.Sets {
			if s.What == what {
				return s.N
			}
		}
	}
	return 0
}

// unit is what a unit costs, -1, if there is no fee.
func (o other) unit(x api.Line) int64 {
	for _, mod := range append(slices.Clone(x.Mods), "") {
		found, from := int64(-1), 0
		for _, f := range o.t.Fees {
			if f.Proc == x.Proc && f.Mod == mod && f.Net == o.c.Net && f.From <= x.Date && f.From >= from {
				found, from = f.Cents, f.From
			}
		}
		if found >= 0 {
			return found
		}
	}
	return -1
}

func same(a, b api.Line) bool {
	return a.Proc == b.Proc && a.Date == b.Date && slices.Equal(a.Mods, b.Mods)
}

// edit is why the first row that does denies service i.
func (o other) edit(i int) int {
	x := o.c.Lines[i]
	for _, r := range o.t.Edits {
		if r.Kind == api.EUnits && x.Proc == r.A && x.Units > r.N {
			return 151
		}
		for j, y := range o.c.Lines {
			if j == i || x.Date != y.Date {
				continue
			}
			if r.Kind == api.EBundle && x.Proc == r.B && y.Proc == r.A && !(r.Bypass && slices.Contains(x.Mods, "59")) {
				return 97
			}
			if r.Kind == api.EEither && j < i && (x.Proc == r.A && y.Proc == r.B || x.Proc == r.B && y.Proc == r.A) {
				return 236
			}
		}
	}
	return 0
}

func (o other) reason(i int, ahead []api.Line) int {
	x := o.c.Lines[i]
	again := false
	for _, y := range append(slices.Clone(ahead), o.c.Lines[:i]...) {
		again = again || same(x, y)
	}
	return firstReason(again, o.says(api.SCover, x) == 0, o.edit(i), o.unit(x) < 0)
}

// room is what is left of the deductible (0) or of the limit (1).
func (o other) room(which, year int) int64 {
	own := [2]int64{o.t.Plan.IndDed, o.t.Plan.IndOop}[which] - o.sums[at(o.c.Member, false, year)][which]
	all := [2]int64{o.t.Plan.FamDed, o.t.Plan.FamOop}[which] - o.sums[at(o.c.Family, true, year)][which]
	if o.t.Plan.Mode == 1 {
		own = all
	}
	return max(0, min(own, all))
}

func (o other) settle(x api.Line) api.Out {
	year := x.Date / 10000
	out := api.Out{Allowed: min(o.unit(x)*int64(x.Units), x.Billed), Prior: x.Prior}
	left := out.Allowed
	var parts [3]int64
	if o.says(api.SDeduct, x) == 1 && o.c.Net == 0 {
		parts[0] = min(left, o.room(0, year))
	}
	parts[1] = min(left-parts[0], o.says(api.SCopay, x))
	parts[2] = (left - parts[0] - parts[1]) * o.says(api.SCoins, x) / 10000
	if o.c.Net == 0 {
		oop := o.room(1, year)
		for i := range parts {
			parts[i] = min(parts[i], oop)
			oop -= parts[i]
		}
	}
	rest := max(0, left-x.Prior)
	out.Plan = min(rest, left-parts[0]-parts[1]-parts[2])
	rest -= out.Plan
	for i := range parts {
		parts[i] = min(parts[i], rest)
		rest -= parts[i]
	}
	out.Deduct, out.Copay, out.Coins = parts[0], parts[1], parts[2]
	out.Write = x.Billed - x.Prior - out.Plan - parts[0] - parts[1] - parts[2]
	return out
}

func (o other) count(x api.Line, out api.Out) {
	borne := out.Deduct + out.Copay + out.Coins
	for _, a := range []api.Acc{at(o.c.Member, false, x.Date/10000), at(o.c.Family, true, x.Date/10000)} {
		o.sums[a] = [2]int64{o.sums[a][0] + out.Deduct, o.sums[a][1] + borne}
	}
}

// judge is what becomes of the claim, and, in the order of accs, of the rows.
func (o other) judge(rows []api.Acc, ahead []api.Line) ([]api.Out, []api.Acc) {
	for _, r := range rows {
		o.sums[at(r.Who, r.Family, r.Year)] = [2]int64{r.Deduct, r.Oop}
	}
	var outs []api.Out
	for i, x := range o.c.Lines {
		if why := o.reason(i, ahead); why != 0 {
			outs = append(outs, api.Out{Deny: why, Prior: x.Prior, Write: x.Billed - x.Prior})
			continue
		}
		out := o.settle(x)
		outs = append(outs, out)
		if o.c.Net == 0 {
			o.count(x, out)
		}
	}
	var left []api.Acc
	for a, n := range o.sums {
		a.Deduct, a.Oop = n[0], n[1]
		if a.Oop > 0 {
			left = append(left, a)
		}
	}
	sort.Slice(left, func(i, j int) bool { return accs.Check([]api.Acc{left[i], left[j]}) == api.OK })
	return outs, left
}

// Promises 17.2 to 17.4, held against another way.
func TestByChance(t *testing.T) {
	r := rand.New(rand.NewSource(174))
	met := map[int]int{}
	borne, spared := 0, 0
	for range 20000 {
		tab, c, rows := tablesBy(r), claimBy(r), rowsBy(r)
		var ahead []api.Line
		for range r.Intn(6) {
			ahead = append(ahead, lineBy(r, 2024+r.Intn(2)))
		}
		want, left := other{tab, c, map[api.Acc][2]int64{}}.judge(rows, ahead)
		outs, got, e := Judge(tab, c, rows, ahead)
		expectOuts(t, outs, e, want...)
		expectRows(t, got, left...)
		if t.Failed() {
			t.Fatalf("tables %+v, claim %+v, rows %+v, ahead %+v", tab, c, rows, ahead)
		}
		for _, o := range outs {
			met[o.Deny]++
			if o.Deny == 0 && o.Deduct+o.Copay+o.Coins > 0 {
				borne++
			}
			if o.Deny == 0 && o.Prior > 0 {
				spared++
			}
		}
	}
	for _, why := range []int{0, 18, 96, 97, 147, 151, 236} {
		if met[why] < 1000 {
			t.Errorf("reason %d was met %d times", why, met[why])
		}
	}
	if borne < 5000 || spared < 2000 {
		t.Errorf("too few were met: %d, %d", borne, spared)
	}
}

// expectWhole asks that all that was billed goes somewhere, none of it below nothing, and that no more is borne than is allowed.
func expectWhole(t *testing.T, x api.Line, o api.Out) {
	t.Helper()
	if o.Prior+o.Plan+o.Deduct+o.Copay+o.Coins+o.Write != x.Billed || o.Prior != x.Prior {
		t.Errorf("%+v of %+v", o, x)
	}
	if min(o.Allowed, o.Deduct, o.Copay, o.Coins, o.Plan, o.Write, o.Prior) < 0 {
		t.Errorf("%+v: below nothing", o)
	}
	if o.Allowed > x.Billed || o.Deduct+o.Copay+o.Coins+o.Plan > o.Allowed {
		t.Errorf("%+v: above what is allowed", o)
	}
	if o.Deny != 0 && o != (api.Out{Deny: o.Deny, Prior: x.Prior, Write: x.Billed - x.Prior}) {
		t.Errorf("%+v: denied", o)
	}
}

// Promise 17.5: claim behind claim, nobody comes above the limits, and once one is met nothing more is borne in the network.
func TestItFollows(t *testing.T) {
	r := rand.New(rand.NewSource(175))
	full := 0
	for range 400 {
		tab := tablesBy(r)
		p := tab.Plan
		var rows []api.Acc
		for range 20 {
			c := claimBy(r)
			// In the manner of a ledger each member is of one family.
			c.Family = groups[slices.Index(people, c.Member)%len(groups)]
			year := c.Lines[0].Date / 10000
			own, all := accs.Get(rows, c.Member, false, year), accs.Get(rows, c.Family, true, year)
			outs, left, e := Judge(tab, c, rows, nil)
			if e != api.OK || len(outs) != len(c.Lines) {
				t.Fatalf("%+v, %d", outs, e)
			}
			deduct, borne := int64(0), int64(0)
			for i, o := range outs {
				expectWhole(t, c.Lines[i], o)
				if met := all.Oop+borne >= p.FamOop || p.Mode == 0 && own.Oop+borne >= p.IndOop; met && c.Net == 0 {
					full++
					if o.Deduct+o.Copay+o.Coins != 0 {
						t.Errorf("%+v is borne above the limit", o)
					}
				}
				if c.Net == 0 {
					deduct += o.Deduct
					borne += o.Deduct + o.Copay + o.Coins
				}
			}
			mine, ours := accs.Get(left, c.Member, false, year), accs.Get(left, c.Family, true, year)
			if mine.Deduct != own.Deduct+deduct || mine.Oop != own.Oop+borne || ours.Deduct != all.Deduct+deduct || ours.Oop != all.Oop+borne {
				t.Errorf("%+v and %+v became %+v and %+v by %+v", own, all, mine, ours, outs)
			}
			expectWithin(t, p, left)
			rows = left
		}
		if t.Failed() {
			return
		}
	}
	if full < 1000 {
		t.Errorf("the limit was met %d times", full)
	}
}

func expectWithin(t *testing.T, p api.Plan, rows []api.Acc) {
	t.Helper()
	for _, row := range rows {
		ded, oop := p.FamDed, p.FamOop
		if !row.Family && p.Mode == 0 {
			ded, oop = p.IndDed, p.IndOop
		}
		if row.Deduct > ded || row.Oop > oop {
			t.Errorf("%+v by %+v", row, p)
		}
	}
	if e := accs.Check(rows); e != api.OK {
		t.Errorf("%+v: %d", rows, e)
	}
}

// Promise 17.4: the rows go on from one service to the next: a claim without edits is what its two halves are, the one behind the other.
func TestHalves(t *testing.T) {
	r := rand.New(rand.NewSource(1742))
	for range 3000 {
		tab, c, rows := tablesBy(r), claimBy(r), rowsBy(r)
		tab.Edits = nil
		outs, left, e := Judge(tab, c, rows, nil)
		if e != api.OK {
			t.Fatalf("%+v: %d", c, e)
		}
		for k := 1; k < len(c.Lines); k++ {
			first, second := c, c
			first.Lines, second.Lines = c.Lines[:k], c.Lines[k:]
			a, between, e := Judge(tab, first, rows, nil)
			b, last, f := Judge(tab, second, between, first.Lines)
			expectOuts(t, slices.Concat(a, b), e+f, outs...)
			expectRows(t, last, left...)
		}
	}
}

// deep is a copy of all lists, down to those within others.
func deep(tab api.Tables, c api.Claim, ahead []api.Line) (api.Tables, api.Claim, []api.Line) {
	tab.Fees, tab.Edits = slices.Clone(tab.Fees), slices.Clone(tab.Edits)
	tab.Plan.Rules = slices.Clone(tab.Plan.Rules)
	for i, r := range tab.Plan.Rules {
		tab.Plan.Rules[i].If, tab.Plan.Rules[i].Sets = deepCond(r.If), slices.Clone(r.Sets)
		tab.Plan.Rules[i].Unless = slices.Clone(r.Unless)
		for j, u := range r.Unless {
			tab.Plan.Rules[i].Unless[j] = deepCond(u)
		}
	}
	return tab, claim.Copy(c), claim.Copy(api.Claim{Lines: ahead}).Lines
}

func deepCond(c api.Cond) api.Cond {
	c.Kids = slices.Clone(c.Kids)
	for i, kid := range c.Kids {
		c.Kids[i] = deepCond(kid)
	}
	return c
}

// Rule R3: tables, claim, rows and what stands ahead stay as they were, with an answer and with an error.
func TestHandedInStays(t *testing.T) {
	r := rand.New(rand.NewSource(173))
	errors := 0
	for n := range 2000 {
		tab, c, rows := tablesBy(r), claimBy(r), rowsBy(r)
		ahead := []api.Line{lineBy(r, 2024), lineBy(r, 2025), lineBy(r, 2024)}
		if n%4 == 0 {
			// So an error comes behind services that went well.
			tab.Plan.Mode = 1
			rows = []api.Acc{member(2024, c.Member, 0, most), member(2025, c.Member, 0, most)}
		}
		keptTab, keptClaim, keptAhead := deep(tab, c, ahead)
		keptRows := slices.Clone(rows)
		Check(tab)
		outs, left, e := Judge(tab, c, rows, ahead)
		again, still, f := Judge(tab, c, rows, ahead)
		if e != f || !slices.Equal(outs, again) || !slices.Equal(left, still) {
			t.Fatalf("%+v is answered in two ways", c)
		}
		if e != api.OK {
			errors++
		}
		// To write over what is told, with all the room behind it, touches nothing.
		clear(outs[:cap(outs)])
		clear(left[:cap(left)])
		last, end, _ := Judge(tab, c, rows, ahead)
		if !slices.Equal(last, again) || !slices.Equal(end, still) {
			t.Fatalf("answers share memory")
		}
		if !reflect.DeepEqual(tab, keptTab) || !slices.Equal(rows, keptRows) || !claim.Same(c, keptClaim) || !claim.Same(api.Claim{Lines: ahead}, api.Claim{Lines: keptAhead}) {
			t.Fatalf("something that was handed in is not as it was")
		}
	}
	if errors < 100 {
		t.Errorf("%d errors were met", errors)
	}
}

// Rule R3, and the chapter's Ways: what lies behind the rows' length is neither read nor written, nor handed out.
func TestBehindRows(t *testing.T) {
	counted := claimOf(0, visits(2)...)
	denied := claimOf(0, line("99999", day, 100))
	outside := claimOf(1, visits(2)...)
	full := []api.Acc{
		member(2024, "A", 1, 2), member(2024, "M1", 4000, 4500), member(2024, "Z", 1, 2),
		family(2024, "F1", 4000, 4500), family(2024, "Z", 1, 2), member(2025, "M1", 1, 2), family(2025, "F1", 1, 2),
	}
	for n := range len(full) + 1 {
		for _, c := range []api.Claim{counted, denied, outside} {
			room := slices.Clone(full)
			_, left, e := Judge(sample(), c, room[:n], nil)
			_, want, _ := Judge(sample(), c, slices.Clone(full[:n]), nil)
			if e != api.OK || !slices.Equal(left, want) {
				t.Errorf("%+v, %d, want %+v", left, e, want)
			}
			if !slices.Equal(room, full) {
				t.Fatalf("%+v became %+v", full, room)
			}
			for _, x := range left[:cap(left)][len(left):] {
				if x != (api.Acc{}) {
					t.Errorf("behind %+v lies %+v", left, x)
				}
			}
			clear(left[:cap(left)])
			_ = append(left, family(9999, "Z", 1, 1))
			if !slices.Equal(room, full) {
				t.Fatalf("what is told shares memory with the rows")
			}
		}
	}
}

// Rule R3: nor what lies behind the services, those ahead, the fees and the edits.
func TestBehindOthers(t *testing.T) {
	tab := sample()
	tab.Edits = []api.Edit{{Kind: api.EUnits, A: "99213", N: 5}, {Kind: api.EBundle, A: "80050", B: "99213"}}
	l := []api.Line{line("99213", day, 10000), line("80050", day, 3000)}
	ahead := []api.Line{line("99213", next, 10000), line("99213", day, 10000)}
	short := tab
	short.Edits = tab.Edits[:1]
	short.Plan.Rules = append(slices.Clone(tab.Plan.Rules), rule(9, api.Cond{}, cover(0)))[:1]
	outs, _, e := Judge(short, claimOf(0, l[:1]...), nil, ahead[:1])
	expectOuts(t, outs, e, settled(5000, 510))
	outs, _, e = Judge(tab, claimOf(0, l[:1]...), nil, ahead[:1])
	expectOuts(t, outs, e, settled(5000, 510))
	outs, _, e = Judge(tab, claimOf(0, l...), nil, nil)
	expectDenied(t, outs, e, 97, 0)
	short.Fees = tab.Fees[:1]
	outs, _, e = Judge(short, claimOf(0, l[:1]...), nil, nil)
	expectDenied(t, outs, e, 147)
}

// A list that is nil and one without elements are the same.
func TestEmptyLists(t *testing.T) {
	tab := sample()
	c := claimOf(0, visits(2)...)
	a, left, e := Judge(tab, c, nil, nil)
	tab.Edits = []api.Edit{}
	for i := range c.Lines {
		c.Lines[i].Mods = []string{}
	}
	b, last, f := Judge(tab, c, []api.Acc{}, []api.Line{})
	expectOuts(t, b, e+f, a...)
	expectRows(t, last, left...)
}

// P0: whatever is handed in, the calls end and none panics; beside an error there is nothing.
func TestWhatMayNotBe(t *testing.T) {
	r := rand.New(rand.NewSource(170))
	numbers := []int64{0, 1, -1, most, most + 1, math.MinInt64, math.MaxInt64, 100}
	n := func() int64 { return pick(r, numbers) }
	good, bad := 0, 0
	for range 20000 {
		tab, c, rows := tablesBy(r), claimBy(r), rowsBy(r)
		ahead := []api.Line{{Proc: "?", Date: int(n()), Units: int(n()), Billed: n(), Prior: n()}}
		if r.Intn(4) == 0 {
			tab.Plan.IndDed, tab.Plan.FamOop = n(), n()
		}
		if len(tab.Fees) > 0 && r.Intn(4) == 0 {
			tab.Fees[0].Cents, tab.Fees[0].Net = n(), int(n())
		}
		if len(tab.Edits) > 0 && r.Intn(4) == 0 {
			tab.Edits[0].N, tab.Edits[0].Kind = int(n()), int(n())
		}
		x := &c.Lines[r.Intn(len(c.Lines))]
		switch r.Intn(8) {
		case 0:
			x.Billed, x.Prior = n(), n()
		case 1:
			x.Units, x.Date = int(n()), int(n())
		case 2:
			c.Net, c.Does = int(n()), int(n())
		case 3:
			c.Lines, x = nil, nil
		}
		if len(rows) > 0 && r.Intn(4) == 0 {
			rows[0].Deduct, rows[0].Oop, rows[0].Year = n(), n(), int(n())
		}
		outs, left, e := Judge(tab, c, rows, ahead)
		want := firstOf(Check(tab), claim.Check(c), accs.Check(rows))
		if e != want && (want != api.OK || e != api.ErrOverflow) {
			t.Fatalf("%d, want %d", e, want)
		}
		if e != api.OK {
			bad++
			expectNone(t, outs, left, e, e)
			continue
		}
		good++
		for i, o := range outs {
			expectWhole(t, c.Lines[i], o)
		}
	}
	if good < 2000 || bad < 2000 {
		t.Errorf("too few were met: %d, %d", good, bad)
	}
}
