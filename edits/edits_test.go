package edits

import (
	"fmt"
	"math"
	"math/rand"
	"slices"
	"testing"

	"leechbook/api"
)

// Rows of each kind that may be.
var (
	panel  = api.Edit{Kind: api.EBundle, A: "80050", B: "99213"}
	passed = api.Edit{Kind: api.EBundle, A: "80050", B: "99213", Bypass: true}
	single = api.Edit{Kind: api.EEither, A: "J1100", B: "A0428"}
	capped = api.Edit{Kind: api.EUnits, A: "J1100", N: 3}
)

func kinds() []api.Edit { return []api.Edit{panel, passed, single, capped} }

// changed is a row, changed.
func changed(r api.Edit, f func(r *api.Edit)) api.Edit {
	f(&r)
	return r
}

// numbered is so many rows that may be, of all kinds.
func numbered(count int) []api.Edit {
	l := make([]api.Edit, count)
	for i := range l {
		l[i] = kinds()[i%4]
		l[i].A = fmt.Sprintf("%05d", i)
	}
	return l
}

func short(l any) string { return fmt.Sprintf("%.300s", fmt.Sprintf("%+v", l)) }

// expectCheck asks Check, and of a table that may not be also Print.
func expectCheck(t *testing.T, l []api.Edit, want api.Errno) {
	t.Helper()
	if e := Check(l); e != want {
		t.Errorf("Check(%s): %v, want %v", short(l), e, want)
	}
	s, e := Print(l)
	if e != want || want != api.OK && s != "" {
		t.Errorf("Print(%s): %.80q, %v, want %v", short(l), s, e, want)
	}
}

// expectRow asks of a row alone, and wherever it may stand in a table.
func expectRow(t *testing.T, r api.Edit, want api.Errno) {
	t.Helper()
	expectCheck(t, []api.Edit{r}, want)
	for at := range 4 {
		expectCheck(t, slices.Insert(numbered(3), at, r), want)
	}
	for _, at := range []int{0, 1, 127, 254, 255} {
		l := numbered(256)
		l[at] = r
		expectCheck(t, l, want)
	}
}

// Promise 13.1: rows of each kind that may be, at the edges of what their fields hold.
func TestRowsThatMayBe(t *testing.T) {
	expectCheck(t, nil, api.OK)
	expectCheck(t, []api.Edit{}, api.OK)
	for _, r := range kinds() {
		expectRow(t, r, api.OK)
		for _, s := range []string{"00000", "99999", "AAAAA", "ZZZZZ", "A0000", "0000Z"} {
			expectRow(t, changed(r, func(r *api.Edit) { r.A = s }), api.OK)
			if r.Kind != api.EUnits {
				expectRow(t, changed(r, func(r *api.Edit) { r.B = s }), api.OK)
			}
		}
	}
	for _, n := range []int{1, 2, 9998, 9999} {
		expectRow(t, changed(capped, func(r *api.Edit) { r.N = n }), api.OK)
	}
	// Two rows may be the same, and one code may stand in many of them.
	expectCheck(t, append(kinds(), kinds()...), api.OK)
	expectCheck(t, slices.Repeat([]api.Edit{single}, 256), api.OK)
	expectRow(t, changed(single, func(r *api.Edit) { r.A, r.B = r.B, r.A }), api.OK)
}

var (
	wrongProcs  = []string{"", "9921", "992133", "9921a", "9921 ", " 9921", "9921.", "9921-", "é213", "99\x00 3", "none", "59", "@0000", "[0000", "/0000", ":0000"}
	wrongKinds  = []int{0, -1, 4, 5, -3, 257, 258, 259, 1 + 1<<32, math.MaxInt, math.MinInt}
	wrongCounts = []int{1, -1, 2, 9999, 1 << 32, math.MaxInt, math.MinInt}
	wrongUnits  = []int{0, -1, 10000, 10001, 1 + 1<<32, -9999, math.MaxInt, math.MinInt}
)

// Promise 13.1: each fault by itself.
func TestRowFaults(t *testing.T) {
	for _, r := range kinds() {
		for _, s := range wrongProcs {
			expectRow(t, changed(r, func(r *api.Edit) { r.A = s }), api.ErrCode)
		}
		for _, n := range wrongKinds {
			expectRow(t, changed(r, func(r *api.Edit) { r.Kind = n }), api.ErrArg)
		}
	}
	for _, r := range []api.Edit{panel, passed, single} {
		for _, s := range append([]string{r.A}, wrongProcs...) {
			expectRow(t, changed(r, func(r *api.Edit) { r.B = s }), api.ErrCode)
		}
		for _, n := range wrongCounts {
			expectRow(t, changed(r, func(r *api.Edit) { r.N = n }), api.ErrArg)
		}
	}
	expectRow(t, changed(single, func(r *api.Edit) { r.Bypass = true }), api.ErrArg)
	for _, s := range []string{"99213", "J1100", " ", "x", "none", "\x00"} {
		expectRow(t, changed(capped, func(r *api.Edit) { r.B = s }), api.ErrArg)
	}
	expectRow(t, changed(capped, func(r *api.Edit) { r.Bypass = true }), api.ErrArg)
	for _, n := range wrongUnits {
		expectRow(t, changed(capped, func(r *api.Edit) { r.N = n }), api.ErrArg)
	}
	expectRow(t, api.Edit{}, api.ErrCode)
}

// wanted is Check of a row in another way: all that is wrong with it, as the chapter lists it, of which the first is told.
func wanted(r api.Edit) api.Errno {
	two := r.Kind == api.EBundle || r.Kind == api.EEither
	for _, c := range []struct {
		wrong bool
		e     api.Errno
	}{
		{!codeOf5.MatchString(r.A), api.ErrCode},
		{!slices.Contains([]int{1, 2, 3}, r.Kind), api.ErrArg},
		{two && !codeOf5.MatchString(r.B), api.ErrCode},
		{two && r.A == r.B, api.ErrCode},
		{two && r.N != 0, api.ErrArg},
		{r.Kind == api.EEither && r.Bypass, api.ErrArg},
		{r.Kind == api.EUnits && r.B != "", api.ErrArg},
		{r.Kind == api.EUnits && r.Bypass, api.ErrArg},
		{r.Kind == api.EUnits && (r.N <= 0 || r.N >= 10000), api.ErrArg},
	} {
		if c.wrong {
			return c.e
		}
	}
	return api.OK
}

// allRows are rows of all that a few values of each field make, most of which may not be.
func allRows() []api.Edit {
	var l []api.Edit
	for _, kind := range []int{0, 1, 2, 3, 4, -1} {
		for _, a := range []string{"", "9921", "99213", "80050"} {
			for _, b := range []string{"", "9921", "99213", "80050"} {
				for _, bypass := range []bool{false, true} {
					for _, n := range []int{-1, 0, 1, 9999, 10000} {
						l = append(l, api.Edit{Kind: kind, A: a, B: b, Bypass: bypass, N: n})
					}
				}
			}
		}
	}
	return l
}

// Promise 13.1: several faults at once, of which the first is told.
func TestSeveralRowFaults(t *testing.T) {
	met := map[api.Errno]int{}
	for _, r := range allRows() {
		met[wanted(r)]++
		expectRow(t, r, wanted(r))
	}
	if met[api.OK] < 5 || met[api.ErrCode] < 100 || met[api.ErrArg] < 100 {
		t.Errorf("%v", met)
	}
	// A code that is wrong is told ahead of a kind that is none, that ahead of B, and B ahead of all behind it.
	expectRow(t, api.Edit{Kind: 4, A: "x", B: "x"}, api.ErrCode)
	expectRow(t, api.Edit{Kind: 4, A: "99213", B: "x"}, api.ErrArg)
	expectRow(t, api.Edit{Kind: api.EEither, A: "99213", B: "x", N: 1, Bypass: true}, api.ErrCode)
	expectRow(t, api.Edit{Kind: api.EBundle, A: "99213", B: "99213", N: 1}, api.ErrCode)
}

// Promise 13.2: of several rows that may not be, the first one's error.
func TestFirstRow(t *testing.T) {
	code, arg := api.Edit{Kind: api.EUnits, A: "x", N: 1}, api.Edit{Kind: api.EUnits, A: "99213"}
	for i := range 5 {
		for j := i + 1; j < 6; j++ {
			l := numbered(6)
			l[i], l[j] = code, arg
			expectCheck(t, l, api.ErrCode)
			l[i], l[j] = arg, code
			expectCheck(t, l, api.ErrArg)
		}
	}
}

// Promise 13.2: so many rows, and a table too long is that whatever its rows are.
func TestCheckLimit(t *testing.T) {
	if api.MaxEdits != 256 {
		t.Fatal(api.MaxEdits)
	}
	for _, count := range []int{0, 1, 2, 255, 256} {
		expectCheck(t, numbered(count), api.OK)
	}
	for _, count := range []int{257, 258, 512, 65536} {
		expectCheck(t, numbered(count), api.ErrLimit)
		expectCheck(t, make([]api.Edit, count), api.ErrLimit)
	}
	expectCheck(t, make([]api.Edit, 256), api.ErrCode)
	// What lies behind a list's length plays no part.
	l := append(numbered(256), make([]api.Edit, 100)...)
	expectCheck(t, l[:256], api.OK)
	expectCheck(t, l[:257], api.ErrLimit)
}

func expectDeny(t *testing.T, table []api.Edit, l []api.Line, i, want int) {
	t.Helper()
	if why := Deny(table, l, i); why != want {
		t.Errorf("Deny(%s, %s, %d): %d, want %d", short(table), short(l), i, why, want)
	}
}

// expectAll asks of each service of a list.
func expectAll(t *testing.T, table []api.Edit, l []api.Line, want ...int) {
	t.Helper()
	if len(want) != len(l) {
		t.Fatalf("%d services, %d answers", len(l), len(want))
	}
	for i := range l {
		expectDeny(t, table, l, i, want[i])
	}
}

// on is a service of a code, on a day of a month.
func on(day int, proc string, mods ...string) api.Line {
	return api.Line{Proc: proc, Date: 20240300 + day, Units: 1, Billed: 100, Mods: mods}
}

// times is a service, so often.
func times(x api.Line, units int) api.Line {
	x.Units = units
	return x
}

// Promise 13.5: services that there are none of.
func TestNoService(t *testing.T) {
	always := []api.Edit{{Kind: api.EUnits, A: "99213", N: 1}, panel, single}
	l := []api.Line{times(on(1, "99213"), 2), on(1, "80050"), times(on(1, "99213"), 5)}
	expectAll(t, always, l, 151, 0, 151)
	for _, i := range []int{-1, -2, -3, 3, 4, 1 << 32, -1 << 32, math.MaxInt, math.MinInt} {
		expectDeny(t, always, l, i, 0)
		expectDeny(t, nil, l, i, 0)
		expectDeny(t, nil, nil, i, 0)
		expectDeny(t, always, []api.Line{}, i, 0)
	}
	expectDeny(t, always, nil, 0, 0)
	expectDeny(t, nil, l, 0, 0)
	expectDeny(t, []api.Edit{}, l, 0, 0)
	// One that lies behind the list's length is none, neither asked for nor beside another one.
	expectDeny(t, always, l[:0], 0, 0)
	expectDeny(t, always, l[:2], 2, 0)
	expectDeny(t, []api.Edit{panel}, l, 0, 97)
	expectDeny(t, []api.Edit{panel}, l[:1], 0, 0)
}

// Promise 13.5: by units, at the bound and above it.
func TestUnits(t *testing.T) {
	for _, n := range []int{1, 2, 3, 9998, 9999} {
		table := []api.Edit{{Kind: api.EUnits, A: "J1100", N: n}}
		for _, units := range []int{math.MinInt, -1, 0, 1, n - 1, n, n + 1, 9999, 10000, math.MaxInt} {
			want := 0
			if units > n {
				want = 151
			}
			expectAll(t, table, []api.Line{times(on(1, "J1100"), units)}, want)
			expectAll(t, table, []api.Line{times(on(1, "J1100", "59"), units)}, want)
			// Of another code they may be as many as there are.
			for _, s := range []string{"J1101", "99213", "", "J110", "J11000", "j1100"} {
				expectAll(t, table, []api.Line{times(on(1, s), units)}, 0)
			}
		}
	}
	// What other services of the day have is not added.
	l := []api.Line{times(on(1, "J1100"), 3), times(on(1, "J1100"), 3), times(on(1, "J1100"), 4), times(on(2, "J1100"), 3)}
	expectAll(t, []api.Edit{capped}, l, 0, 0, 151, 0)
}

// Promise 13.5: by a service that it goes with, the chapter's example first.
func TestBundle(t *testing.T) {
	all, part, with := on(1, "80050"), on(1, "99213"), on(1, "99213", "59")
	for _, c := range []struct {
		table []api.Edit
		l     []api.Line
		want  []int
	}{
		{[]api.Edit{passed}, []api.Line{all, part}, []int{0, 97}},
		{[]api.Edit{passed}, []api.Line{part, all}, []int{97, 0}},
		{[]api.Edit{passed}, []api.Line{all, with}, []int{0, 0}},
		{[]api.Edit{passed}, []api.Line{with, all}, []int{0, 0}},
		{[]api.Edit{panel}, []api.Line{all, part}, []int{0, 97}},
		{[]api.Edit{panel}, []api.Line{part, all}, []int{97, 0}},
		{[]api.Edit{panel}, []api.Line{all, with}, []int{0, 97}},
		{[]api.Edit{panel}, []api.Line{with, all}, []int{97, 0}},
		{[]api.Edit{passed}, []api.Line{with, part, all, part, with}, []int{0, 97, 0, 97, 0}},
		{[]api.Edit{panel}, []api.Line{with, part, all, part, with}, []int{97, 97, 0, 97, 97}},
		{[]api.Edit{panel}, []api.Line{part, part}, []int{0, 0}},
		{[]api.Edit{panel}, []api.Line{all, all}, []int{0, 0}},
		{[]api.Edit{panel}, []api.Line{all}, []int{0}},
		{[]api.Edit{panel}, []api.Line{part}, []int{0}},
		// 59 by the other service plays no part.
		{[]api.Edit{passed}, []api.Line{on(1, "80050", "59"), part}, []int{0, 97}},
		{[]api.Edit{passed}, []api.Line{part, on(1, "80050", "59")}, []int{97, 0}},
		// Many services lie between the two.
		{[]api.Edit{panel}, []api.Line{part, on(1, "J1100"), on(2, "80050"), on(1, "A0428"), all}, []int{97, 0, 0, 0, 0}},
		{[]api.Edit{panel}, []api.Line{all, on(1, "J1100"), on(2, "80050"), on(1, "A0428"), part}, []int{0, 0, 0, 0, 97}},
	} {
		expectAll(t, c.table, c.l, c.want...)
	}
	// Another one of the kind the other way round denies both.
	back := api.Edit{Kind: api.EBundle, A: "99213", B: "80050", Bypass: true}
	expectAll(t, []api.Edit{passed, back}, []api.Line{all, part}, 97, 97)
	expectAll(t, []api.Edit{passed, back}, []api.Line{all, with}, 97, 0)
}

// Promise 13.5: on another day there is no other service.
func TestOtherDays(t *testing.T) {
	for _, day := range []int{20240301, 20240401, 20250301, 301, 0, -20240302} {
		a, b := on(2, "80050"), on(2, "99213")
		b.Date = day
		expectAll(t, []api.Edit{panel, passed}, []api.Line{a, b}, 0, 0)
		expectAll(t, []api.Edit{panel, passed}, []api.Line{b, a}, 0, 0)
		a.Proc, b.Proc = "J1100", "A0428"
		expectAll(t, []api.Edit{single}, []api.Line{a, b}, 0, 0)
		expectAll(t, []api.Edit{single}, []api.Line{b, a}, 0, 0)
		// A day that is none is one all the same, as long as both are of it.
		a.Date = day
		expectAll(t, []api.Edit{single}, []api.Line{a, b}, 0, 236)
		a.Proc, b.Proc = "80050", "99213"
		expectAll(t, []api.Edit{panel}, []api.Line{a, b}, 0, 97)
	}
	// Of two other services one is of the day.
	expectAll(t, []api.Edit{panel}, []api.Line{on(1, "80050"), on(2, "99213"), on(2, "80050")}, 0, 97, 0)
	expectAll(t, []api.Edit{panel}, []api.Line{on(1, "80050"), on(2, "99213"), on(3, "80050")}, 0, 0, 0)
	expectAll(t, []api.Edit{single}, []api.Line{on(1, "J1100"), on(2, "J1100"), on(2, "A0428")}, 0, 0, 236)
}

// Promise 13.5: 59 wherever it stands, and what is not 59.
func TestFiftyNine(t *testing.T) {
	for _, mods := range [][]string{{"59"}, {"59", "25"}, {"25", "59"}, {"25", "26", "TC", "59"}, {"25", "59", "26", "TC"}, {"59", "59"}, {"1", "2", "3", "4", "59"}} {
		expectAll(t, []api.Edit{passed}, []api.Line{on(1, "80050"), on(1, "99213", mods...)}, 0, 0)
		expectAll(t, []api.Edit{panel}, []api.Line{on(1, "80050"), on(1, "99213", mods...)}, 0, 97)
	}
	for _, mods := range [][]string{nil, {}, {"25"}, {"5"}, {"95"}, {"58"}, {"60"}, {"590"}, {" 59"}, {"59 "}, {""}, {"5", "9"}, {"25", "26", "TC", "58"}} {
		expectAll(t, []api.Edit{passed}, []api.Line{on(1, "80050"), on(1, "99213", mods...)}, 0, 97)
		expectAll(t, []api.Edit{panel}, []api.Line{on(1, "80050"), on(1, "99213", mods...)}, 0, 97)
	}
	// What lies behind a list's length is no modifier.
	x := on(1, "99213", "25", "59")
	x.Mods = x.Mods[:1]
	expectAll(t, []api.Edit{passed}, []api.Line{on(1, "80050"), x}, 0, 97)
	// By another kind of row a service is denied with it, too.
	expectAll(t, []api.Edit{single, capped}, []api.Line{on(1, "A0428"), on(1, "J1100", "59")}, 0, 236)
}

// Promise 13.5: of two that exclude one another the one that stands ahead stays.
func TestEither(t *testing.T) {
	a, b := on(1, "J1100"), on(1, "A0428")
	for _, c := range []struct {
		l    []api.Line
		want []int
	}{
		{[]api.Line{a}, []int{0}},
		{[]api.Line{b}, []int{0}},
		{[]api.Line{a, b}, []int{0, 236}},
		{[]api.Line{b, a}, []int{0, 236}},
		{[]api.Line{a, a}, []int{0, 0}},
		{[]api.Line{b, b}, []int{0, 0}},
		{[]api.Line{a, a, b, b}, []int{0, 0, 236, 236}},
		{[]api.Line{a, b, a, b}, []int{0, 236, 236, 236}}, // one that is denied itself stands there all the same
		{[]api.Line{b, a, b, a}, []int{0, 236, 236, 236}},
		{[]api.Line{a, on(1, "99213"), on(2, "A0428"), b}, []int{0, 0, 0, 236}},
		{[]api.Line{on(2, "A0428"), a, on(1, "99213"), b}, []int{0, 0, 0, 236}},
		{[]api.Line{on(1, "99213"), on(1, "80050"), a}, []int{0, 0, 0}},
	} {
		expectAll(t, []api.Edit{single}, c.l, c.want...)
		turned := changed(single, func(r *api.Edit) { r.A, r.B = r.B, r.A })
		expectAll(t, []api.Edit{turned}, c.l, c.want...)
	}
}

// Promise 13.5: of several rows that deny a service the first one tells why, wherever others stand.
func TestFirstRowTells(t *testing.T) {
	rows := []api.Edit{
		{Kind: api.EUnits, A: "99213", N: 1},
		{Kind: api.EBundle, A: "80050", B: "99213"},
		{Kind: api.EEither, A: "80050", B: "99213"},
	}
	l := []api.Line{on(1, "80050"), times(on(1, "99213"), 2)}
	for i, why := range []int{151, 97, 236} {
		expectAll(t, rows[i:i+1], l, 0, why)
		for j := range rows {
			for k := range rows {
				expectAll(t, []api.Edit{rows[i], rows[j], rows[k]}, l, 0, why)
				// Rows that do not deny it stand ahead.
				expectAll(t, append(numbered(200), capped, single, rows[i], rows[j], rows[k]), l, 0, why)
			}
		}
	}
	// A row of which it is free lets the next one tell.
	free := []api.Edit{changed(rows[0], func(r *api.Edit) { r.N = 2 }), passed, rows[2]}
	l[1].Mods = []string{"59"}
	expectAll(t, free, l, 0, 236)
	expectAll(t, free[:2], l, 0, 0)
	// As many rows as there are.
	expectAll(t, append(numbered(1000), rows...), l, 0, 151)
}

// Promise 13.5: of rows that may not be, what the words say; a kind that is none denies nothing.
func TestDenyByOtherRows(t *testing.T) {
	for _, kind := range wrongKinds {
		table := []api.Edit{{Kind: kind, A: "99213", B: "80050"}, {Kind: kind, A: "80050", B: "99213"}}
		expectAll(t, table, []api.Line{on(1, "80050"), times(on(1, "99213"), 9999), on(1, "80050")}, 0, 0, 0)
	}
	same := api.Edit{Kind: api.EBundle, A: "99213", B: "99213"}
	expectAll(t, []api.Edit{same}, []api.Line{on(1, "99213")}, 0)
	expectAll(t, []api.Edit{same}, []api.Line{on(1, "99213"), on(1, "99213"), on(2, "99213")}, 97, 97, 0)
	same.Kind = api.EEither
	expectAll(t, []api.Edit{same}, []api.Line{on(1, "99213"), on(1, "99213"), on(2, "99213")}, 0, 236, 0)
	expectAll(t, []api.Edit{{Kind: api.EUnits, A: "", N: -5}}, []api.Line{{}, {Units: -5}, {Units: -6}}, 151, 0, 0)
	expectAll(t, []api.Edit{changed(capped, func(r *api.Edit) { r.B, r.Bypass = "99213", true })}, []api.Line{times(on(1, "J1100", "59"), 4), times(on(1, "99213"), 4)}, 151, 0)
	expectAll(t, []api.Edit{changed(single, func(r *api.Edit) { r.Bypass, r.N = true, 5 })}, []api.Line{on(1, "J1100"), on(1, "A0428", "59")}, 0, 236)
	expectAll(t, []api.Edit{changed(panel, func(r *api.Edit) { r.N = 5 })}, []api.Line{on(1, "80050"), on(1, "99213")}, 0, 97)
}

// reasons is Deny in another way: of each other service, and of each row, whether it is one, all that deny put down, the first taken.
func reasons(table []api.Edit, l []api.Line, i int) int {
	x := l[i]
	with59 := false
	for _, mod := range x.Mods {
		with59 = with59 || mod == "59"
	}
	var found []int
	for _, r := range table {
		hit := 0
		if r.Kind == api.EUnits && r.A == x.Proc && r.N < x.Units {
			hit = 151
		}
		for j, y := range l {
			if j == i || y.Date != x.Date {
				continue
			}
			if r.Kind == api.EBundle && r.A == y.Proc && r.B == x.Proc && (!r.Bypass || !with59) {
				hit = 97
			}
			if r.Kind == api.EEither && j < i && (r.A == x.Proc && r.B == y.Proc || r.B == x.Proc && r.A == y.Proc) {
				hit = 236
			}
		}
		found = append(found, hit)
	}
	for _, hit := range found {
		if hit != 0 {
			return hit
		}
	}
	return 0
}

func pick[T any](r *rand.Rand, l []T) T { return l[r.Intn(len(l))] }

var procs = []string{"00000", "80050", "99213", "A0428", "J1100", "ZZZZZ"}

// tableByChance is up to so many rows that may be.
func tableByChance(r *rand.Rand, most int) []api.Edit {
	var l []api.Edit
	for range r.Intn(most + 1) {
		a := r.Intn(len(procs))
		row := api.Edit{Kind: 1 + r.Intn(3), A: procs[a]}
		switch row.Kind {
		case api.EBundle, api.EEither:
			row.B = procs[(a+1+r.Intn(len(procs)-1))%len(procs)]
			row.Bypass = row.Kind == api.EBundle && r.Intn(2) == 0
		case api.EUnits:
			row.N = pick(r, []int{1, 2, 3, 9, 10, 99, 100, 999, 1000, 9999})
		}
		l = append(l, row)
	}
	return l
}

func linesByChance(r *rand.Rand) []api.Line {
	l := make([]api.Line, r.Intn(8))
	for i := range l {
		l[i] = times(on(1+r.Intn(2), pick(r, procs)), 1+r.Intn(4))
		for range r.Intn(3) {
			l[i].Mods = append(l[i].Mods, pick(r, []string{"59", "25", "TC", "58"}))
		}
	}
	return l
}

// Promise 13.5: of tables and services by chance.
func TestDenyByChance(t *testing.T) {
	r := rand.New(rand.NewSource(13))
	met := map[int]int{}
	for range 20000 {
		table, l := tableByChance(r, 8), linesByChance(r)
		for i := range l {
			want := reasons(table, l, i)
			met[want]++
			expectDeny(t, table, l, i, want)
		}
	}
	for _, why := range []int{0, 97, 151, 236} {
		if met[why] < 1000 {
			t.Errorf("%d just %d times", why, met[why])
		}
	}
}

// Promise 13.6: a service alone on its day is denied for its units alone.
func TestAlone(t *testing.T) {
	r := rand.New(rand.NewSource(136))
	met := map[int]int{}
	for range 5000 {
		table, l := tableByChance(r, 20), linesByChance(r)
		for i := range l {
			l[i].Date = 20240301 + i
		}
		for i, x := range l {
			why := Deny(table, l, i)
			met[why]++
			tooMany := slices.ContainsFunc(table, func(r api.Edit) bool { return r.Kind == api.EUnits && r.A == x.Proc && x.Units > r.N })
			if why != 0 && why != 151 || (why == 151) != tooMany {
				t.Fatalf("Deny(%v, %v, %d): %d", table, l, i, why)
			}
			expectDeny(t, table, []api.Line{x}, 0, why)
		}
	}
	if met[0] < 1000 || met[151] < 1000 {
		t.Errorf("%v", met)
	}
}

// Rule R3: what is handed in is not changed.
func TestNothingIsChanged(t *testing.T) {
	r := rand.New(rand.NewSource(133))
	for range 500 {
		table, l := tableByChance(r, 8), linesByChance(r)
		was := fmt.Sprint(table, l)
		Check(table)
		Print(table)
		for i := range l {
			Deny(table, l, i)
		}
		if is := fmt.Sprint(table, l); is != was {
			t.Fatalf("%s, was %s", is, was)
		}
	}
}
