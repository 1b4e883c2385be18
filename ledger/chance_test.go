package ledger

import (
	"cmp"
	"fmt"
	"math/rand"
	"slices"
	"strconv"
	"testing"

	"leechbook/api"
	"leechbook/book"
	"leechbook/judge"
)

func pick[T any](r *rand.Rand, l []T) T { return l[r.Intn(len(l))] }

// act is tables that are loaded, or a claim that is submitted.
type act struct {
	load   bool
	tables api.Tables
	claim  api.Claim
}

func (a act) do(g *Ledger) api.Errno {
	if a.load {
		return g.Load(a.tables)
	}
	return g.Submit(a.claim)
}

// world is what acts by chance are made of: by steep tables all is borne, of amounts near the greatest one.
type world struct {
	r     *rand.Rand
	steep bool
}

func (w world) amount() int64 {
	if w.steep {
		return (1 + w.r.Int63n(3)) * (dear / 10)
	}
	return w.r.Int63n(300)
}

func (w world) tables() api.Tables {
	p := api.Plan{Mode: w.r.Intn(2), FamOop: w.r.Int63n(900)}
	p.FamDed, p.IndOop = w.r.Int63n(p.FamOop+1), w.r.Int63n(p.FamOop+1)
	p.IndDed = w.r.Int63n(min(p.FamDed, p.IndOop) + 1)
	sets := []api.Set{{What: api.SCover, N: 1}, {What: api.SDeduct, N: w.r.Int63n(2)}, {What: api.SCopay, N: w.r.Int63n(40)}, {What: api.SCoins, N: w.r.Int63n(6000)}}
	fee, more := 20+w.r.Int63n(100), w.r.Int63n(5)
	if w.steep {
		p, fee, more = steep().Plan, dear, 0
		sets[1].N = 1
	}
	p.Rules = []api.Rule{{Sets: sets}}
	if w.r.Intn(2) == 0 {
		p.Rules = append(p.Rules, api.Rule{Rank: 1, If: api.Cond{Kind: api.CMod, Lo: "59"}, Sets: []api.Set{{What: api.SCover, N: 0}}})
	}
	tab := api.Tables{Plan: p, Edits: []api.Edit{{Kind: api.EUnits, A: "99213", N: 1 + w.r.Intn(3)}, {Kind: api.EEither, A: "99213", B: "99214"}}}
	tab.Edits = tab.Edits[:w.r.Intn(3)]
	for _, code := range []string{"99213", "99214", "J1100"} {
		for net := range 2 {
			if w.r.Intn(5) > 0 {
				tab.Fees = append(tab.Fees, api.Fee{Proc: code, Net: net, From: 20240101, Cents: fee + int64(net)*more})
			}
		}
	}
	return tab
}

func (w world) lines() []api.Line {
	l := make([]api.Line, 1+w.r.Intn(3))
	year, days := pick(w.r, []int{20240000, 20240000, 20250000}), 3
	if w.steep {
		// So that fewer are the same, and a member's row is full soon.
		year, days = 20240000, 8
	}
	for i := range l {
		l[i] = api.Line{Proc: pick(w.r, []string{"99213", "99213", "99214", "J1100"}), Date: year + 301 + w.r.Intn(days), Units: 1 + w.r.Intn(3), Billed: w.amount()}
		l[i].Mods = pick(w.r, [][]string{nil, nil, {}, {"25"}, {"59"}})
		if w.r.Intn(4) == 0 {
			l[i].Prior = w.r.Int63n(l[i].Billed + 1)
		}
	}
	return l
}

// claim is one of number n, that may name one of those ahead of it.
func (w world) claim(n int, ahead []api.Entry) api.Claim {
	c := original("C"+strconv.Itoa(n), pick(w.r, []string{"M1", "M1", "M2", "M3"}), pick(w.r, []string{"F1", "F2"}), w.lines()...)
	c.Net = w.r.Intn(4) / 3
	if len(ahead) == 0 || w.r.Intn(2) == 0 {
		return c
	}
	if l := book.Standing(ahead); len(l) > 0 && w.r.Intn(4) > 0 {
		ahead = l
	}
	of := pick(w.r, ahead).Claim
	if w.r.Intn(3) == 0 {
		return void(c.Id, of)
	}
	made := inPlace(c.Id, of, c.Lines...)
	made.Net = c.Net
	return made
}

// spoil makes of a claim, at times, one that is refused.
func (w world) spoil(c *api.Claim) {
	switch w.r.Intn(40) {
	case 0:
		c.Net = 2
	case 1:
		c.Id = "C" + strconv.Itoa(w.r.Intn(5))
	case 2:
		c.Member = "M4"
	case 3:
		c.Family = "F3"
	case 4:
		c.Ref = "C9999"
	case 5:
		c.Lines = append(c.Lines, api.Line{})
	}
}

// other is a ledger in another way: nothing of what became of claims is kept, all are judged from the first one on.
type other struct {
	most    int
	tables  []api.Tables
	entries []api.Entry
}

func (o *other) load(t api.Tables) api.Errno {
	if e := judge.Check(t); e != api.OK {
		return e
	}
	if len(o.tables) == 64 {
		return api.ErrFull
	}
	o.tables = append(o.tables, t)
	return api.OK
}

func (o *other) submit(c api.Claim) api.Errno {
	if len(o.tables) == 0 {
		return api.ErrNone
	}
	l, _, e := book.Put(o.entries, c, len(o.tables)-1, o.most)
	if e != api.OK {
		return e
	}
	if _, _, e := o.judged(l); e != api.OK {
		return e
	}
	o.entries = l
	return api.OK
}

// judged is what becomes of entries, and what they leave.
func (o *other) judged(entries []api.Entry) ([]api.Entry, []api.Acc, api.Errno) {
	l := slices.Clone(entries)
	var rows []api.Acc
	for i := range l {
		l[i].Outs = nil
		if l[i].State != api.Live {
			continue
		}
		var ahead []api.Line
		for _, x := range l[:i] {
			for j, out := range x.Outs {
				if x.Claim.Member == l[i].Claim.Member && out.Deny == 0 {
					ahead = append(ahead, x.Claim.Lines[j])
				}
			}
		}
		var e api.Errno
		if l[i].Outs, rows, e = judge.Judge(o.tables[l[i].Tables], l[i].Claim, rows, ahead); e != api.OK {
			return nil, nil, e
		}
	}
	return l, rows, api.OK
}

func (o *other) told() string {
	l, rows, e := o.judged(o.entries)
	if e != api.OK {
		return "error " + strconv.Itoa(int(e))
	}
	return fmt.Sprintf("%+v %+v %d", l, rows, len(o.tables))
}

// Promises 19.1 to 19.4: acts as they come, against the other way.
func TestByChance(t *testing.T) {
	r := rand.New(rand.NewSource(19))
	met, over := map[api.Errno]int{}, map[int]int{}
	for n := range 300 {
		w := world{r, n%2 == 0}
		most := 1 + r.Intn(80)
		g, o := started(t, most), &other{most: most}
		for i := range 60 {
			var e, want api.Errno
			if i == 4 || r.Intn(12) == 0 {
				tab := w.tables()
				if r.Intn(4) == 0 {
					tab.Plan.IndDed = -1
				}
				e, want = g.Load(tab), o.load(tab)
			} else {
				c := w.claim(i, o.entries)
				w.spoil(&c)
				e, want = g.Submit(c), o.submit(c)
				if e == api.ErrOverflow {
					over[c.Does]++
				}
			}
			met[e]++
			if now, other := told(g), o.told(); e != want || now != other {
				t.Fatalf("%d, want %d; %s, want %s", e, want, now, other)
			}
		}
		expectCounted(t, g)
	}
	for _, e := range []api.Errno{api.OK, api.ErrNone, api.ErrPlan, api.ErrCode, api.ErrRange, api.ErrTwice, api.ErrState, api.ErrFull, api.ErrOverflow} {
		if met[e] < 30 {
			t.Errorf("error %d was met %d times", e, met[e])
		}
	}
	if over[api.Original] < 30 || over[api.Replace] < 10 || over[api.Void] < 5 {
		t.Errorf("met by what claims do: %v", over)
	}
}

// expectCounted asks that what is counted is what the services say.
func expectCounted(t *testing.T, g *Ledger) {
	t.Helper()
	sums := map[api.Acc][2]int64{}
	for _, x := range g.Entries() {
		if x.State != api.Live && len(x.Outs) != 0 || x.State == api.Live && len(x.Outs) != len(x.Claim.Lines) {
			t.Errorf("%+v", x)
		}
		for i, o := range x.Outs {
			if y := x.Claim.Lines[i]; o.Prior+o.Plan+o.Deduct+o.Copay+o.Coins+o.Write != y.Billed {
				t.Errorf("%+v of %+v", o, y)
			}
			if x.Claim.Net != 0 {
				continue
			}
			year := x.Claim.Lines[i].Date / 10000
			for _, a := range []api.Acc{{Who: x.Claim.Member, Year: year}, {Who: x.Claim.Family, Family: true, Year: year}} {
				sums[a] = [2]int64{sums[a][0] + o.Deduct, sums[a][1] + o.Deduct + o.Copay + o.Coins}
			}
		}
	}
	var want []api.Acc
	for a, sum := range sums {
		if a.Deduct, a.Oop = sum[0], sum[1]; a.Oop > 0 {
			want = append(want, a)
		}
	}
	rank := map[bool]int{false: 0, true: 1}
	slices.SortFunc(want, func(a, b api.Acc) int {
		return cmp.Or(a.Year-b.Year, rank[a.Family]-rank[b.Family], cmp.Compare(a.Who, b.Who))
	})
	expectRows(t, g, want...)
}

// played is a ledger after acts, none of which is refused.
func played(t *testing.T, l []act) *Ledger {
	t.Helper()
	g := started(t, api.MaxLedger)
	for _, a := range l {
		if e := a.do(g); e != api.OK {
			t.Fatalf("%+v: %d", a, e)
		}
	}
	return g
}

// standing is all that stands, whatever a claim does, and what is counted.
func standing(g *Ledger) string {
	l := book.Standing(g.Entries())
	for i := range l {
		l[i].Claim.Does, l[i].Claim.Ref = api.Original, ""
	}
	return fmt.Sprintf("%+v %+v", l, g.Rows())
}

// acts are some that are not refused, tables first.
func (w world) acts(t *testing.T) []act {
	g := started(t, api.MaxLedger)
	l := []act{{load: true, tables: w.tables()}}
	load(t, g, l[0].tables)
	for len(l) < 12+w.r.Intn(20) {
		// A claim comes first, so that there is an Original.
		a := act{load: len(l) > 1 && w.r.Intn(6) == 0}
		if a.load {
			a.tables = w.tables()
		} else {
			a.claim = w.claim(len(l), g.Entries())
		}
		if a.do(g) == api.OK {
			l = append(l, a)
		}
	}
	return l
}

// chain is the acts of an Original, and of all that took its place, and whether that was taken back.
func chain(l []act, at int) ([]int, bool) {
	made, id := []int{at}, l[at].claim.Id
	for i := at + 1; i < len(l); i++ {
		switch c := l[i].claim; {
		case l[i].load || c.Ref != id:
			continue
		case c.Does == api.Void:
			return append(made, i), true
		}
		made, id = append(made, i), l[i].claim.Id
	}
	return made, false
}

// chosen are acts, the places of a chain among them, and whether that was taken back.
func (w world) chosen(t *testing.T) ([]act, []int, bool) {
	var places []int
	l := w.acts(t)
	for i, a := range l {
		if !a.load && a.claim.Does == api.Original {
			places = append(places, i)
		}
	}
	made, gone := chain(l, pick(w.r, places))
	return l, made, gone
}

// without is acts but these.
func without(l []act, places []int) []act {
	var made []act
	for i, a := range l {
		if !slices.Contains(places, i) {
			made = append(made, a)
		}
	}
	return made
}

// Promise 19.5: acts, and a claim (with those that took its place) taken back, at once or later, against the acts without it.
func TestTakenBack(t *testing.T) {
	changed := 0
	r := rand.New(rand.NewSource(195))
	for range 600 {
		w := world{r: r}
		l, places, gone := w.chosen(t)
		with := l
		if !gone {
			end := places[len(places)-1]
			x := void("X", l[end].claim)
			with = slices.Insert(slices.Clone(l), end+1+r.Intn(len(l)-end), act{claim: x})
		}
		a, b := standing(played(t, with)), standing(played(t, without(l, places)))
		if a != b {
			t.Fatalf("of %+v, %v taken back:\n%s, want\n%s", with, places, a, b)
		}
		if a != standing(played(t, l)) {
			changed++
		}
	}
	if changed < 200 {
		t.Errorf("what stands changed %d times", changed)
	}
}

// Promise 19.5: acts, and then a claim in another one's place, against the acts with it there at once.
func TestInPlace(t *testing.T) {
	changed, deep := 0, 0
	r := rand.New(rand.NewSource(1950))
	for range 600 {
		w := world{r: r}
		l, places, gone := w.chosen(t)
		if gone {
			continue
		}
		start, end := places[0], places[len(places)-1]
		with, x := l, l[end].claim
		if start == end || r.Intn(2) == 0 {
			x = inPlace("X", x, w.lines()...)
			with = slices.Insert(slices.Clone(l), end+1+r.Intn(len(l)-end), act{claim: x})
		}
		if len(places) > 1 {
			deep++
		}
		x.Does, x.Ref = api.Original, ""
		atOnce := slices.Clone(l)
		atOnce[start].claim = x
		a, b := standing(played(t, with)), standing(played(t, without(atOnce, places[1:])))
		if a != b {
			t.Fatalf("of %+v, %v in each other's place:\n%s, want\n%s", with, places, a, b)
		}
		if a != standing(played(t, l)) {
			changed++
		}
	}
	if changed < 200 || deep < 50 {
		t.Errorf("what stands changed %d times, places were taken more than once %d times", changed, deep)
	}
}

// A ledger of as many claims as may be, judged anew from the first one on.
func TestLargest(t *testing.T) {
	w := world{r: rand.New(rand.NewSource(512))}
	tab := w.tables()
	g, o := started(t, api.MaxLedger, tab), &other{most: api.MaxLedger, tables: []api.Tables{tab}}
	var l []api.Claim
	for i := range api.MaxLedger - 1 {
		c := original("C"+strconv.Itoa(i), "M"+strconv.Itoa(i%50), "F"+strconv.Itoa(i%20), w.lines()...)
		l = append(l, c)
		entries, _, e := book.Put(o.entries, c, 0, api.MaxLedger)
		if e != api.OK {
			t.Fatalf("%+v: %d", c, e)
		}
		o.entries = entries
	}
	submit(t, g, l...)
	if now, want := told(g), o.told(); now != want {
		t.Fatalf("%s, want %s", now, want)
	}
	x := inPlace("X", l[0], w.lines()...)
	submit(t, g, x)
	if e := o.submit(x); e != api.OK || told(g) != o.told() {
		t.Errorf("%d", e)
	}
	expectCounted(t, g)
	expectRefused(t, g, api.ErrFull, void("Y", x))
}

// Claims of as many services as may be.
func TestLongClaims(t *testing.T) {
	g := started(t, 9, flat(100))
	lines := make([]api.Line, api.MaxLines)
	for i := range lines {
		lines[i] = visit(first)
		lines[i].Mods = []string{string([]byte{byte('A' + i/100), byte('0' + i/10%10)}), string([]byte{'0', byte('0' + i%10)})}
	}
	a := original("A", "M1", "F1", lines...)
	submit(t, g, a, original("B", "M1", "F1", lines...), original("C", "M1", "F1", append([]api.Line{visit(first)}, lines[1:]...)...))
	expectLive(t, g, 0, "A", slices.Repeat([]api.Out{paid(100)}, len(lines))...)
	expectLive(t, g, 1, "B", slices.Repeat([]api.Out{denied(api.DTwice)}, len(lines))...)
	submit(t, g, inPlace("D", a, lines[0]))
	expectLive(t, g, 2, "B", append([]api.Out{denied(api.DTwice)}, slices.Repeat([]api.Out{paid(100)}, len(lines)-1)...)...)
	expectLive(t, g, 3, "C", append([]api.Out{paid(100)}, slices.Repeat([]api.Out{denied(api.DTwice)}, len(lines)-1)...)...)
}
