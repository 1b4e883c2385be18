package fees

import (
	"fmt"
	"math"
	"math/big"
	"math/rand"
	"slices"
	"strconv"
	"testing"

	"leechbook/api"
)

// visit is a row that may be.
var visit = api.Fee{Proc: "99213", From: 20240101, Cents: 7550}

// changed is visit, changed.
func changed(f func(r *api.Fee)) api.Fee {
	r := visit
	f(&r)
	return r
}

// numbered is so many rows in order.
func numbered(count int) []api.Fee {
	l := make([]api.Fee, count)
	for i := range l {
		l[i] = api.Fee{Proc: fmt.Sprintf("%05d", i), From: 20240101, Cents: int64(i)}
	}
	return l
}

func short(l []api.Fee) string { return fmt.Sprintf("%.300s", fmt.Sprint(l)) }

// expectCheck asks Check, and of a table that may not be also Print.
func expectCheck(t *testing.T, l []api.Fee, want api.Errno) {
	t.Helper()
	if e := Check(l); e != want {
		t.Errorf("Check(%s): %v, want %v", short(l), e, want)
	}
	if want == api.OK {
		return
	}
	if s, e := Print(l); s != "" || e != want {
		t.Errorf("Print(%s): %.80q, %v, want %v", short(l), s, e, want)
	}
}

// expectRow asks of a row alone, and wherever it may stand in a table.
func expectRow(t *testing.T, r api.Fee, want api.Errno) {
	t.Helper()
	expectCheck(t, []api.Fee{r}, want)
	if want == api.OK {
		return
	}
	for at := range 4 {
		expectCheck(t, slices.Insert(numbered(3), at, r), want)
	}
	l := numbered(512)
	for _, at := range []int{0, 1, 255, 510, 511} {
		l[at] = r
		expectCheck(t, l, want)
		l[at] = numbered(512)[at]
	}
}

// Promise 12.1: rows that may be, at the edges of what their fields hold.
func TestRowsThatMayBe(t *testing.T) {
	expectCheck(t, nil, api.OK)
	expectCheck(t, []api.Fee{}, api.OK)
	expectRow(t, visit, api.OK)
	for _, s := range []string{"00000", "99999", "AAAAA", "ZZZZZ", "A0000", "0000Z", "J1100"} {
		expectRow(t, changed(func(r *api.Fee) { r.Proc = s }), api.OK)
	}
	for _, s := range []string{"", "00", "99", "AA", "ZZ", "A0", "0Z", "59"} {
		expectRow(t, changed(func(r *api.Fee) { r.Mod = s }), api.OK)
	}
	for _, n := range []int{0, 1} {
		expectRow(t, changed(func(r *api.Fee) { r.Net = n }), api.OK)
	}
	for _, n := range []int{10101, 99991231, 20000229, 20240229, 20241231, 990930} {
		expectRow(t, changed(func(r *api.Fee) { r.From = n }), api.OK)
	}
	for _, n := range []int64{0, 1, 9999999999999, 10000000000000} {
		expectRow(t, changed(func(r *api.Fee) { r.Cents = n }), api.OK)
	}
}

var (
	wrongProcs = []string{"", "9921", "992133", "9921a", "9921 ", "9921.", "9921-", "é213", "99\x00 3", "none", "@0000", "[0000", "/0000", ":0000"}
	wrongMods  = []string{"5", "590", "5a", "a9", "5 ", " ", "5.", "é", "none", "NONE", "99213", "\x00\x00"}
	wrongNets  = []int{-1, 2, 3, 256, 1 << 32, math.MaxInt, math.MinInt}
	wrongDays  = []int{0, -1, -20240101, 10100, 10001, 101, 20230229, 19000229, 20240230, 20240431, 20241301, 20240001, 20240100, 20240132, 100000101, 20240101 + 1<<32, math.MaxInt, math.MinInt}
	wrongCents = []int64{-1, -7550, 10000000000001, math.MaxInt64, math.MinInt64}
)

// Promise 12.1: each fault by itself.
func TestRowFaults(t *testing.T) {
	for _, s := range wrongProcs {
		expectRow(t, changed(func(r *api.Fee) { r.Proc = s }), api.ErrCode)
	}
	for _, s := range wrongMods {
		expectRow(t, changed(func(r *api.Fee) { r.Mod = s }), api.ErrCode)
	}
	for _, n := range wrongNets {
		expectRow(t, changed(func(r *api.Fee) { r.Net = n }), api.ErrRange)
	}
	for _, n := range wrongDays {
		expectRow(t, changed(func(r *api.Fee) { r.From = n }), api.ErrDate)
	}
	for _, n := range wrongCents {
		expectRow(t, changed(func(r *api.Fee) { r.Cents = n }), api.ErrMoney)
	}
	expectRow(t, api.Fee{}, api.ErrCode)
}

// Promise 12.1: several faults at once, of which the first is told.
func TestSeveralRowFaults(t *testing.T) {
	faults := []struct {
		spoil func(r *api.Fee)
		e     api.Errno
	}{
		{func(r *api.Fee) { r.Proc = "9921" }, api.ErrCode},
		{func(r *api.Fee) { r.Mod = "5" }, api.ErrCode},
		{func(r *api.Fee) { r.Net = 2 }, api.ErrRange},
		{func(r *api.Fee) { r.From = 20230229 }, api.ErrDate},
		{func(r *api.Fee) { r.Cents = -1 }, api.ErrMoney},
	}
	for some := range 1 << len(faults) {
		r, want := visit, api.OK
		for i, f := range faults {
			if some>>i&1 == 0 {
				continue
			}
			f.spoil(&r)
			if want == api.OK {
				want = f.e
			}
		}
		expectRow(t, r, want)
	}
	// Of several rows the first one's is told, whichever fault it is.
	for i, a := range faults {
		for j, b := range faults {
			l := numbered(5)
			a.spoil(&l[1])
			b.spoil(&l[3])
			expectCheck(t, l, a.e)
			if i != j {
				a.spoil(&l[3])
				expectCheck(t, l, a.e)
			}
		}
	}
}

// Promise 12.2: so many rows, and a table too long is that whatever its rows are.
func TestCheckLimit(t *testing.T) {
	if api.MaxFees != 512 {
		t.Fatal(api.MaxFees)
	}
	for _, count := range []int{0, 1, 2, 511, 512} {
		expectCheck(t, numbered(count), api.OK)
	}
	for _, count := range []int{513, 514, 1024, 65536} {
		expectCheck(t, numbered(count), api.ErrLimit)
	}
	expectCheck(t, make([]api.Fee, 513), api.ErrLimit)
	expectCheck(t, slices.Repeat([]api.Fee{visit}, 513), api.ErrLimit)
	expectCheck(t, slices.Repeat([]api.Fee{visit}, 512), api.ErrTwice)
	expectCheck(t, make([]api.Fee, 512), api.ErrCode)
}

// someRows are rows of all places that a few codes, modifiers, networks and days make, in order.
func someRows() []api.Fee {
	var l []api.Fee
	for _, proc := range []string{"00000", "0000A", "99213", "A9999", "ZZZZZ"} {
		for _, mod := range []string{"", "00", "59", "5A", "A5", "ZZ"} {
			for net := range 2 {
				for _, from := range []int{10101, 20231231, 20240101, 99991231} {
					l = append(l, api.Fee{Proc: proc, Mod: mod, Net: net, From: from, Cents: int64(100 + len(l))})
				}
			}
		}
	}
	return l
}

// Promises 12.1 and 12.2: any two rows, one behind the other, by the order in which they were made.
func TestNeighbours(t *testing.T) {
	l := someRows()
	expectCheck(t, l, api.OK)
	for i, a := range l {
		for j, b := range l {
			want := api.OK
			switch {
			case i == j:
				want = api.ErrTwice
			case i > j:
				want = api.ErrOrder
			}
			expectCheck(t, []api.Fee{a, b}, want)
			// What they cost plays no part in it.
			b.Cents, a.Cents = a.Cents+1, b.Cents
			expectCheck(t, []api.Fee{a, b}, want)
		}
	}
	// Two neighbours changed places, or one row stands twice, anywhere in the table.
	for i := 1; i < len(l); i++ {
		other := slices.Clone(l)
		other[i-1], other[i] = other[i], other[i-1]
		expectCheck(t, other, api.ErrOrder)
		other = slices.Clone(l)
		other[i] = other[i-1]
		other[i].Cents++
		expectCheck(t, other, api.ErrTwice)
	}
}

// Promise 12.2: the first two neighbours' error, and a row's ahead of all of them.
func TestNeighboursFirst(t *testing.T) {
	at := func(days ...int) []api.Fee {
		var l []api.Fee
		for _, day := range days {
			l = append(l, changed(func(r *api.Fee) { r.From = 20240100 + day }))
		}
		return l
	}
	expectCheck(t, at(1, 2, 3), api.OK)
	expectCheck(t, at(1, 1, 3), api.ErrTwice)
	expectCheck(t, at(1, 3, 3), api.ErrTwice)
	expectCheck(t, at(2, 1, 3), api.ErrOrder)
	expectCheck(t, at(1, 3, 2), api.ErrOrder)
	expectCheck(t, at(2, 2, 1), api.ErrTwice)
	expectCheck(t, at(2, 1, 1), api.ErrOrder)
	expectCheck(t, at(1, 2, 1), api.ErrOrder) // of one place, but no neighbours
	expectCheck(t, at(3, 2, 2), api.ErrOrder)
	expectCheck(t, at(1, 1, 3, 2), api.ErrTwice)
	expectCheck(t, at(2, 1, 3, 3), api.ErrOrder)
	expectCheck(t, at(2, 1, 32), api.ErrDate)
	expectCheck(t, at(1, 1, 32), api.ErrDate)
	expectCheck(t, at(32, 32), api.ErrDate)
	for _, days := range [][]int{{1, 1, 3}, {2, 1, 3}, {1, 2, 2}, {1, 3, 2}} {
		for i := range days {
			for e, spoil := range map[api.Errno]func(r *api.Fee){
				api.ErrCode:  func(r *api.Fee) { r.Mod = "x" },
				api.ErrRange: func(r *api.Fee) { r.Net = 2 },
				api.ErrDate:  func(r *api.Fee) { r.From = 0 },
				api.ErrMoney: func(r *api.Fee) { r.Cents = -1 },
			} {
				l := at(days...)
				spoil(&l[i])
				expectCheck(t, l, e)
			}
		}
	}
}

func expectLookup(t *testing.T, l []api.Fee, proc, mod string, net, day int, want int64, ok bool) {
	t.Helper()
	if c, found := Lookup(l, proc, mod, net, day); c != want || found != ok {
		t.Errorf("Lookup(%s, %q, %q, %d, %d): %d, %v, want %d, %v", short(l), proc, mod, net, day, c, found, want, ok)
	}
}

// Promise 12.5: ahead of, at and behind a row's day, the chapter's example first.
func TestLookup(t *testing.T) {
	l := []api.Fee{{Proc: "99213", From: 20240101, Cents: 7550}, {Proc: "99213", From: 20240601, Cents: 8000}}
	expectLookup(t, l, "99213", "", 0, 20240531, 7550, true)
	for day, want := range map[int]int64{20240101: 7550, 20240102: 7550, 20240601: 8000, 20240602: 8000, 99991231: 8000, math.MaxInt: 8000} {
		expectLookup(t, l, "99213", "", 0, day, want, true)
	}
	for _, day := range []int{20231231, 20240100, 10101, 0, -1, -20240601, math.MinInt} {
		expectLookup(t, l, "99213", "", 0, day, 0, false)
	}
	// Of another code, with another modifier, in another network there is none.
	for _, s := range []string{"", "99212", "99214", "9921", "992130", "00000", "ZZZZZ", "99213 "} {
		expectLookup(t, l, s, "", 0, 20240701, 0, false)
	}
	for _, s := range []string{"59", "none", "00", " ", "ZZ"} {
		expectLookup(t, l, "99213", s, 0, 20240701, 0, false)
	}
	for _, net := range []int{1, -1, 2, math.MaxInt, math.MinInt} {
		expectLookup(t, l, "99213", "", net, 20240701, 0, false)
	}
	expectLookup(t, nil, "99213", "", 0, 20240701, 0, false)
	expectLookup(t, []api.Fee{}, "", "", 0, 0, 0, false)
	// A price of nothing is one.
	expectLookup(t, []api.Fee{{Proc: "99213", From: 20240101}}, "99213", "", 0, 20240101, 0, true)
}

// Promise 12.5: a row just ahead of where one is sought, that differs in one thing alone, is not taken.
func TestLookupBeside(t *testing.T) {
	wanted := api.Fee{Proc: "99213", Mod: "59", Net: 1, From: 20240101, Cents: 7550}
	for _, other := range []api.Fee{
		{Proc: "99212", Mod: "59", Net: 1}, {Proc: "99214", Mod: "59", Net: 1},
		{Proc: "99213", Mod: "58", Net: 1}, {Proc: "99213", Mod: "5A", Net: 1}, {Proc: "99213", Net: 1},
		{Proc: "99213", Mod: "59", Net: 0},
	} {
		for _, from := range []int{10101, 20231231, 20240101, 20240102, 99991231} {
			other.From, other.Cents = from, 99
			expectLookup(t, []api.Fee{other}, "99213", "59", 1, 20240701, 0, false)
			l := []api.Fee{other, wanted}
			if Check(l) != api.OK {
				l = []api.Fee{wanted, other}
			}
			expectCheck(t, l, api.OK)
			expectLookup(t, l, "99213", "59", 1, 20231231, 0, false)
			expectLookup(t, l, "99213", "59", 1, 20240101, 7550, true)
			expectLookup(t, l, "99213", "59", 1, 20240701, 7550, true)
		}
	}
}

// sought is Lookup in another way: through all rows, in any order.
func sought(l []api.Fee, proc, mod string, net, day int) (int64, bool) {
	best := -1
	for i, f := range l {
		if f.Proc == proc && f.Mod == mod && f.Net == net && f.From <= day && (best < 0 || f.From > l[best].From) {
			best = i
		}
	}
	if best < 0 {
		return 0, false
	}
	return l[best].Cents, true
}

func pick[T any](r *rand.Rand, l []T) T { return l[r.Intn(len(l))] }

var (
	procs = []string{"00000", "0000A", "99212", "99213", "99214", "A9999", "ZZZZZ"}
	mods  = []string{"", "", "00", "25", "59", "5A", "ZZ"}
	days  = []int{10101, 20231230, 20231231, 20240101, 20240102, 20240228, 20240229, 20240301, 20241231, 99991231}
	costs = []int64{0, 1, 99, 7550, 8000, 999999999999, api.MaxCents - 1, api.MaxCents}
)

// byChance is some of the rows of all places that these make, in order.
func byChance(r *rand.Rand) []api.Fee {
	var l []api.Fee
	often := r.Intn(20)
	for _, proc := range procs {
		for _, mod := range mods[1:] {
			for net := range 2 {
				for _, day := range days {
					if len(l) < api.MaxFees && r.Intn(20) < often {
						l = append(l, api.Fee{Proc: proc, Mod: mod, Net: net, From: day, Cents: pick(r, costs)})
					}
				}
			}
		}
	}
	return l
}

// Promise 12.5: of tables by chance.
func TestLookupByChance(t *testing.T) {
	r := rand.New(rand.NewSource(12))
	for range 300 {
		l := byChance(r)
		expectCheck(t, l, api.OK)
		for range 200 {
			proc, mod, net, day := pick(r, procs), pick(r, mods), r.Intn(2), pick(r, days)+r.Intn(3)-1
			want, ok := sought(l, proc, mod, net, day)
			expectLookup(t, l, proc, mod, net, day, want, ok)
		}
	}
}

func expectAllowed(t *testing.T, l []api.Fee, x api.Line, net int, want int64, ok bool) {
	t.Helper()
	if a, found := Allowed(l, x, net); a != want || found != ok {
		t.Errorf("Allowed(%s, %v, %d): %d, %v, want %d, %v", short(l), x, net, a, found, want, ok)
	}
}

// Promise 12.6: with modifiers of which none, one or several are in the table.
func TestAllowedMods(t *testing.T) {
	plain := api.Fee{Proc: "99213", From: 20240101, Cents: 1000}
	with25 := api.Fee{Proc: "99213", Mod: "25", From: 20240201, Cents: 2500}
	with59 := api.Fee{Proc: "99213", Mod: "59", From: 20240101, Cents: 5900}
	outside59 := api.Fee{Proc: "99213", Mod: "59", Net: 1, From: 20240101, Cents: 590}
	l := []api.Fee{plain, with25, with59, outside59}
	expectCheck(t, l, api.OK)
	x := func(day int, mods ...string) api.Line {
		return api.Line{Proc: "99213", Mods: mods, Date: day, Units: 1, Billed: 100000}
	}
	for _, c := range []struct {
		mods []string
		want int64
	}{
		{nil, 1000}, {[]string{}, 1000}, {[]string{"26"}, 1000}, {[]string{"26", "TC", "ZZ", "00"}, 1000},
		{[]string{"25"}, 2500}, {[]string{"59"}, 5900},
		{[]string{"26", "59"}, 5900}, {[]string{"59", "26"}, 5900}, {[]string{"26", "TC", "00", "25"}, 2500},
		{[]string{"25", "59"}, 2500}, {[]string{"59", "25"}, 5900}, {[]string{"26", "59", "25"}, 5900}, {[]string{"26", "25", "59", "TC"}, 2500},
		{[]string{"59", "59"}, 5900},
	} {
		expectAllowed(t, l, x(20240301, c.mods...), 0, c.want, true)
		expectAllowed(t, l, x(20240201, c.mods...), 0, c.want, true)
	}
	// Ahead of a modifier's day the next one that there is.
	expectAllowed(t, l, x(20240131, "25"), 0, 1000, true)
	expectAllowed(t, l, x(20240131, "25", "59"), 0, 5900, true)
	expectAllowed(t, l, x(20240131, "26", "25"), 0, 1000, true)
	expectAllowed(t, l, x(20231231, "25", "59"), 0, 0, false)
	// Out of the network the others play no part, and there may be none without a modifier.
	expectAllowed(t, l, x(20240301, "25", "59"), 1, 590, true)
	expectAllowed(t, l, x(20240301, "25"), 1, 0, false)
	expectAllowed(t, l, x(20240301), 1, 0, false)
	for _, net := range []int{-1, 2, math.MaxInt, math.MinInt} {
		expectAllowed(t, l, x(20240301, "59"), net, 0, false)
	}
	// Another code, and no table.
	expectAllowed(t, l, api.Line{Proc: "99214", Mods: []string{"59"}, Date: 20240301, Units: 1, Billed: 1}, 0, 0, false)
	expectAllowed(t, nil, x(20240301, "59"), 0, 0, false)
	// The modifier's price counts, though it is nothing.
	free := []api.Fee{plain, {Proc: "99213", Mod: "25", From: 20240101}}
	expectAllowed(t, free, x(20240301, "25"), 0, 0, true)
	expectAllowed(t, free, x(20240301, "26"), 0, 1000, true)
}

// Promises 12.6 and 12.7: units times a price, below, at and above what is billed, and above what is an amount.
func TestAllowedUnits(t *testing.T) {
	at := func(c int64) []api.Fee { return []api.Fee{{Proc: "99213", From: 20240101, Cents: c}} }
	x := func(units int, billed int64) api.Line {
		return api.Line{Proc: "99213", Date: 20240101, Units: units, Billed: billed}
	}
	for _, c := range []struct {
		price  int64
		units  int
		billed int64
		want   int64
	}{
		{7550, 1, 10000, 7550}, {7550, 1, 7551, 7550}, {7550, 1, 7550, 7550}, {7550, 1, 7549, 7549}, {7550, 1, 0, 0},
		{7550, 3, 22651, 22650}, {7550, 3, 22650, 22650}, {7550, 3, 22649, 22649}, {7550, 3, 7550, 7550},
		{7550, 9999, api.MaxCents, 75492450}, {1, 9999, 9998, 9998}, {1, 9999, 9999, 9999}, {1, 9999, 10000, 9999},
		{0, 1, 10000, 0}, {0, 9999, 10000, 0}, {0, 1, 0, 0},
		{api.MaxCents, 1, api.MaxCents, api.MaxCents}, {api.MaxCents, 1, api.MaxCents - 1, api.MaxCents - 1},
		{api.MaxCents / 2, 2, api.MaxCents, api.MaxCents}, {api.MaxCents / 2, 2, api.MaxCents - 1, api.MaxCents - 1},
		// Above what is an amount: what is billed.
		{api.MaxCents, 2, api.MaxCents, api.MaxCents}, {api.MaxCents, 2, 100, 100}, {api.MaxCents, 9999, api.MaxCents, api.MaxCents}, {api.MaxCents, 9999, 0, 0},
		{api.MaxCents/2 + 1, 2, api.MaxCents, api.MaxCents}, {1000100011, 9999, api.MaxCents, api.MaxCents}, {1000100010, 9999, api.MaxCents, 9999999999990},
	} {
		expectAllowed(t, at(c.price), x(c.units, c.billed), 0, c.want, true)
	}
	// Of what is no service Scale tells an error, or what is billed is less.
	expectAllowed(t, at(7550), x(-1, 100), 0, 100, true)
	expectAllowed(t, at(7550), x(math.MinInt, 100), 0, 100, true)
	expectAllowed(t, at(7550), x(math.MaxInt, 100), 0, 100, true)
	expectAllowed(t, at(7550), x(0, 100), 0, 0, true)
	expectAllowed(t, at(7550), x(1, -5), 0, -5, true)
	expectAllowed(t, at(7550), x(10000, math.MaxInt64), 0, 75500000, true)
}

// allowedBy is Allowed in another way: by sought, and by numbers without bounds.
func allowedBy(l []api.Fee, x api.Line, net int) (int64, bool) {
	for _, mod := range append(slices.Clone(x.Mods), "") {
		unit, ok := sought(l, x.Proc, mod, net, x.Date)
		if !ok {
			continue
		}
		all := new(big.Int).Mul(big.NewInt(unit), big.NewInt(int64(x.Units)))
		if all.Sign() < 0 || all.Cmp(big.NewInt(10000000000000)) > 0 || all.Cmp(big.NewInt(x.Billed)) > 0 {
			return x.Billed, true
		}
		return all.Int64(), true
	}
	return 0, false
}

// Promises 12.6 and 12.7: of tables and services by chance; never more than is billed.
func TestAllowedByChance(t *testing.T) {
	r := rand.New(rand.NewSource(126))
	for range 300 {
		l := byChance(r)
		for range 200 {
			x := api.Line{Proc: pick(r, procs), Date: pick(r, days), Units: pick(r, []int{1, 2, 3, 100, 9999}), Billed: pick(r, costs)}
			if r.Intn(2) == 0 {
				x.Billed = r.Int63n(100000)
			}
			for range r.Intn(5) {
				x.Mods = append(x.Mods, pick(r, mods[2:]))
			}
			net := r.Intn(2)
			want, ok := allowedBy(l, x, net)
			expectAllowed(t, l, x, net, want, ok)
			if a, _ := Allowed(l, x, net); a > x.Billed || a < 0 {
				t.Errorf("Allowed(%s, %v, %d): %d, above what is billed", short(l), x, net, a)
			}
		}
	}
}

// Promise P0: whatever is handed in, each call ends, and none panics.
func TestAnything(t *testing.T) {
	r := rand.New(rand.NewSource(120))
	texts := append(append(slices.Clone(wrongProcs), wrongMods...), "99213", "59", "", "\xff\xfe")
	numbers := append(append(slices.Clone(wrongNets), wrongDays...), 0, 1, 20240101)
	for range 3000 {
		l := make([]api.Fee, r.Intn(12))
		for i := range l {
			l[i] = api.Fee{Proc: pick(r, texts), Mod: pick(r, texts), Net: pick(r, numbers), From: pick(r, numbers), Cents: int64(pick(r, numbers))}
		}
		Check(l)
		Print(l)
		for range 10 {
			x := api.Line{Proc: pick(r, texts), Mods: texts[:r.Intn(len(texts))], Date: pick(r, numbers), Units: pick(r, numbers), Billed: int64(pick(r, numbers))}
			if c, ok := Lookup(l, x.Proc, pick(r, texts), pick(r, numbers), x.Date); c != 0 && !ok {
				t.Errorf("%d beside false", c)
			}
			if a, ok := Allowed(l, x, pick(r, numbers)); a != 0 && !ok {
				t.Errorf("%d beside false", a)
			}
		}
	}
}

// Rule R3: what is handed in stays as it is, and what lies behind a list's length plays no part.
func TestHandedIn(t *testing.T) {
	behind := []api.Fee{{Proc: "99213", Mod: "25", From: 20240101, Cents: 2500}, {Proc: "99213", Mod: "59", From: 20240101, Cents: 5900}}
	all := append([]api.Fee{visit}, behind...)
	l := all[:1]
	modsBefore := []string{"59", "25", "x"}
	x := api.Line{Proc: "99213", Mods: slices.Clone(modsBefore)[:1], Date: 20240301, Units: 1, Billed: 100000}
	before := slices.Clone(all)
	expectCheck(t, l, api.OK)
	if s, e := Print(l); s != "fee 99213 none in 20240101 75.50" || e != api.OK {
		t.Errorf("%q, %v", s, e)
	}
	expectLookup(t, l, "99213", "59", 0, 20240301, 0, false)
	expectAllowed(t, l, x, 0, 7550, true)
	x.Mods = x.Mods[:0]
	expectAllowed(t, all, x, 0, 7550, true)
	if !slices.Equal(all, before) || !slices.Equal(x.Mods[:3], modsBefore) {
		t.Errorf("%v, %v", all, x.Mods[:3])
	}
	wrong := []api.Fee{all[2], all[0], all[1]}
	expectCheck(t, wrong, api.ErrOrder)
	if !slices.Equal(wrong, []api.Fee{before[2], before[0], before[1]}) {
		t.Errorf("%v", wrong)
	}
}

// Promises 12.1 and 12.5: codes by their bytes, not by what they look like.
func TestByteOrder(t *testing.T) {
	var l []api.Fee
	signs := "0123456789ABCDEFGHIJKLMNOPQRSTUVWXYZ"
	for i := range len(signs) {
		l = append(l, api.Fee{Proc: "0000" + signs[i:i+1], From: 20240101, Cents: int64(i)})
		for j := range 10 {
			l = append(l, api.Fee{Proc: "0000" + signs[i:i+1], Mod: signs[3*j:3*j+1] + signs[i:i+1], From: 20240101, Cents: int64(i*10 + j)})
		}
	}
	expectCheck(t, l, api.OK)
	for _, f := range l {
		expectLookup(t, l, f.Proc, f.Mod, 0, 20240101, f.Cents, true)
	}
	if len(l) != 396 {
		t.Fatal(strconv.Itoa(len(l)))
	}
}
