package accs

import (
	"bytes"
	"math"
	"math/rand"
	"slices"
	"sort"
	"testing"

	"leechbook/api"
)

const most = api.MaxCents

// noAmounts are numbers that are no amount, those next to the amounts first.
var noAmounts = []int64{-1, most + 1, -2, most + 2, -most, 1 << 60, math.MinInt64, math.MaxInt64}

func member(year int, who string, deduct, oop int64) api.Acc {
	return api.Acc{Who: who, Year: year, Deduct: deduct, Oop: oop}
}

func family(year int, who string, deduct, oop int64) api.Acc {
	return api.Acc{Who: who, Family: true, Year: year, Deduct: deduct, Oop: oop}
}

// places are rows in which nothing is counted, in the order that the chapter tells.
func places() []api.Acc {
	return []api.Acc{
		member(math.MinInt, "M1", 0, 0),
		family(math.MinInt, "F1", 0, 0),
		member(-1, "Z", 0, 0),
		family(0, "Z", 0, 0),
		member(2023, "z", 0, 0),
		family(2023, "", 0, 0),
		family(2023, "A", 0, 0),
		member(2024, "", 0, 0),
		member(2024, "\x00", 0, 0),
		member(2024, "A", 0, 0),
		member(2024, "A\x00", 0, 0),
		member(2024, "A B", 0, 0),
		member(2024, "AB", 0, 0),
		member(2024, "M", 0, 0),
		member(2024, "M1", 0, 0),
		member(2024, "M10", 0, 0),
		member(2024, "M2", 0, 0),
		member(2024, "a", 0, 0),
		member(2024, "\x7f", 0, 0),
		member(2024, "\x80", 0, 0),
		member(2024, "\u00e9", 0, 0),
		member(2024, "\uffff", 0, 0),
		member(2024, "\U00010000", 0, 0),
		member(2024, "\xff", 0, 0),
		member(2024, "\xff\xff", 0, 0),
		family(2024, "", 0, 0),
		family(2024, "F", 0, 0),
		family(2024, "F1", 0, 0),
		family(2024, "M1", 0, 0),
		family(2024, "a", 0, 0),
		member(2025, "A", 0, 0),
		family(20250, "A", 0, 0),
		member(math.MaxInt, "", 0, 0),
		family(math.MaxInt, "", 0, 0),
	}
}

// counted are these places, with something counted in each, in no two of them the same.
func counted(at []api.Acc) []api.Acc {
	l := slices.Clone(at)
	for i := range l {
		l[i].Deduct, l[i].Oop = int64(i), int64(2*i+1)
	}
	return l
}

func expectCheck(t *testing.T, l []api.Acc, want api.Errno) {
	t.Helper()
	if e := Check(l); e != want {
		t.Errorf("Check of %#v: %d, want %d", l, e, want)
	}
}

func expectRows(t *testing.T, got []api.Acc, e api.Errno, want ...api.Acc) {
	t.Helper()
	if e != api.OK || !slices.Equal(got, want) {
		t.Errorf("%#v, %d, want %#v", got, e, want)
	}
	expectCheck(t, got, api.OK)
}

func expectNone(t *testing.T, got []api.Acc, e, want api.Errno) {
	t.Helper()
	if e != want || len(got) != 0 {
		t.Errorf("%#v, %d, want nothing and %d", got, e, want)
	}
}

// add is Add of what r counts to the row at r's place.
func add(l []api.Acc, r api.Acc) ([]api.Acc, api.Errno) {
	return Add(l, r.Who, r.Family, r.Year, r.Deduct, r.Oop)
}

func get(l []api.Acc, r api.Acc) api.Acc { return Get(l, r.Who, r.Family, r.Year) }

// Promise 16.1: no rows, one, as many as there are places.
func TestCheckGood(t *testing.T) {
	expectCheck(t, nil, api.OK)
	expectCheck(t, []api.Acc{}, api.OK)
	all := counted(places())
	expectCheck(t, all, api.OK)
	for i := range all {
		expectCheck(t, all[i:i+1], api.OK)
		expectCheck(t, all[i:], api.OK)
		expectCheck(t, slices.Delete(slices.Clone(all), i, i+1), api.OK)
	}
}

// Promise 16.1: any two rows stand in one order alone, and two of one place in none, whatever they count.
func TestCheckOrder(t *testing.T) {
	all := counted(places())
	first, last := member(math.MinInt, "", 1, 1), family(math.MaxInt, "\xff", 1, 1)
	for i, a := range all {
		for j, b := range all {
			want := api.OK
			if i >= j {
				want = api.ErrOrder
			}
			expectCheck(t, []api.Acc{a, b}, want)
			a.Deduct, a.Oop, b.Deduct, b.Oop = b.Deduct, b.Oop, a.Deduct, a.Oop
			expectCheck(t, []api.Acc{a, b}, want)
			expectCheck(t, []api.Acc{first, a, b, last}, want)
		}
	}
}

// Promise 16.1: all rows in order but for one, at each place.
func TestCheckOneOutOfOrder(t *testing.T) {
	all := counted(places())
	for i := 1; i < len(all); i++ {
		l := slices.Clone(all)
		l[i-1], l[i] = l[i], l[i-1]
		expectCheck(t, l, api.ErrOrder)
		l = slices.Clone(all)
		l[i] = l[i-1]
		expectCheck(t, l, api.ErrOrder)
		l = slices.Insert(slices.Clone(all), i, all[i])
		expectCheck(t, l, api.ErrOrder)
		l = append(slices.Clone(all), all[i])
		expectCheck(t, l, api.ErrOrder)
	}
}

// amountFaults are pairs of Deduct and Oop with which no row may be.
func amountFaults() [][2]int64 {
	l := [][2]int64{{0, 0}, {1, 0}, {2, 1}, {most, most - 1}, {most, 1}, {most, 0}}
	for _, n := range noAmounts {
		l = append(l, [2]int64{n, n}, [2]int64{n, 0}, [2]int64{n, 1}, [2]int64{n, most}, [2]int64{0, n}, [2]int64{1, n}, [2]int64{most, n})
	}
	return l
}

// Promise 16.1: the amounts of each row.
func TestCheckAmounts(t *testing.T) {
	all := counted(places())
	for i := range all {
		for _, good := range [][2]int64{{0, 1}, {1, 1}, {1, 2}, {0, most}, {1, most}, {most - 1, most}, {most, most}} {
			l := slices.Clone(all)
			l[i].Deduct, l[i].Oop = good[0], good[1]
			expectCheck(t, l, api.OK)
		}
		for _, bad := range amountFaults() {
			l := slices.Clone(all)
			l[i].Deduct, l[i].Oop = bad[0], bad[1]
			expectCheck(t, l, api.ErrArg)
			expectCheck(t, l[i:i+1], api.ErrArg)
		}
	}
}

// Promise 16.1: of two faults that of the first row; of one row's that of the amounts.
func TestCheckFirstFault(t *testing.T) {
	a, b, c, d := member(2024, "A", 1, 2), member(2024, "B", 1, 2), member(2024, "C", 1, 2), member(2024, "D", 1, 2)
	for _, bad := range amountFaults() {
		wrong := func(r api.Acc) api.Acc {
			r.Deduct, r.Oop = bad[0], bad[1]
			return r
		}
		// The row that is out of order, or told twice, is wrong by itself.
		expectCheck(t, []api.Acc{b, wrong(a)}, api.ErrArg)
		expectCheck(t, []api.Acc{b, wrong(b)}, api.ErrArg)
		expectCheck(t, []api.Acc{a, b, wrong(a), c}, api.ErrArg)
		// The one ahead of it is.
		expectCheck(t, []api.Acc{wrong(b), a}, api.ErrArg)
		expectCheck(t, []api.Acc{wrong(b), b}, api.ErrArg)
		expectCheck(t, []api.Acc{a, wrong(c), b, d}, api.ErrArg)
		expectCheck(t, []api.Acc{wrong(a), b, d, c}, api.ErrArg)
		// One behind it is.
		expectCheck(t, []api.Acc{b, a, wrong(c)}, api.ErrOrder)
		expectCheck(t, []api.Acc{a, a, wrong(a)}, api.ErrOrder)
		expectCheck(t, []api.Acc{a, c, b, wrong(d)}, api.ErrOrder)
		expectCheck(t, []api.Acc{a, c, b, d, wrong(d)}, api.ErrOrder)
	}
}

// somePlaces are fewer places, of which all choices are gone through.
func somePlaces() []api.Acc {
	return []api.Acc{
		member(2023, "M1", 0, 0),
		family(2023, "M1", 0, 0),
		member(2024, "", 0, 0),
		member(2024, "M", 0, 0),
		member(2024, "M1", 0, 0),
		member(2024, "M10", 0, 0),
		member(2024, "M2", 0, 0),
		family(2024, "", 0, 0),
		family(2024, "M1", 0, 0),
		member(2025, "", 0, 0),
		member(2025, "M1", 0, 0),
	}
}

// chosen are the rows of all whose bit is set.
func chosen(all []api.Acc, bits int) []api.Acc {
	var l []api.Acc
	for i := range all {
		if bits>>i&1 == 1 {
			l = append(l, all[i])
		}
	}
	return l
}

// Promise 16.2: each row that is there, and one that counts nothing for each that is not, in all choices of places.
func TestGet(t *testing.T) {
	none := somePlaces()
	all := counted(none)
	for bits := range 1 << len(all) {
		l := chosen(all, bits)
		for i := range all {
			want := none[i]
			if bits>>i&1 == 1 {
				want = all[i]
			}
			if r := get(l, none[i]); r != want {
				t.Fatalf("of %#v: %#v, want %#v", l, r, want)
			}
		}
	}
}

// Promise 16.2: of many rows, and of those next to them that are not there.
func TestGetOfMany(t *testing.T) {
	none := places()
	all := counted(none)
	for i := range all {
		if r := get(all, none[i]); r != all[i] {
			t.Errorf("%#v, want %#v", r, all[i])
		}
		without := slices.Delete(slices.Clone(all), i, i+1)
		if r := get(without, none[i]); r != none[i] {
			t.Errorf("%#v, want %#v", r, none[i])
		}
		if r := get(nil, none[i]); r != none[i] {
			t.Errorf("%#v, want %#v", r, none[i])
		}
	}
	for _, r := range []api.Acc{
		member(math.MinInt, "", 0, 0), family(math.MaxInt, "\x00", 0, 0), member(2024, "M11", 0, 0), member(2024, "m1", 0, 0),
		family(2025, "A", 0, 0), member(2024, "F1", 0, 0), family(2024, "M10", 0, 0), member(2026, "M1", 0, 0), member(-2024, "M1", 0, 0),
	} {
		if got := get(all, r); got != r {
			t.Errorf("%#v, want %#v", got, r)
		}
	}
}

// Promise 16.3: to each row that is there, and to each that is not, in all choices of places; nothing else is touched.
func TestAdd(t *testing.T) {
	none := somePlaces()
	all := counted(none)
	for bits := range 1 << len(all) {
		l := chosen(all, bits)
		for i := range all {
			if bits>>i&1 == 1 {
				want := slices.Clone(l)
				at := slices.Index(want, all[i])
				want[at].Deduct += 3
				want[at].Oop += 5
				got, e := Add(l, none[i].Who, none[i].Family, none[i].Year, 3, 5)
				expectRows(t, got, e, want...)
				got, e = add(l, none[i])
				expectRows(t, got, e, l...)
				continue
			}
			got, e := add(l, all[i])
			expectRows(t, got, e, chosen(all, bits|1<<i)...)
			got, e = add(l, none[i])
			expectRows(t, got, e, l...)
		}
		if t.Failed() {
			return
		}
	}
}

// Promise 16.3: the edges of the amounts.
func TestAddEdges(t *testing.T) {
	for _, c := range []struct{ d, o, deduct, oop, wantD, wantO int64 }{
		{0, 1, 0, 0, 0, 1}, {1, 1, 0, 0, 1, 1}, {most, most, 0, 0, most, most},
		{0, 1, 1, 1, 1, 2}, {0, 1, 0, 1, 0, 2}, {1, 1, 0, 1, 1, 2}, {1, 1, 5, 5, 6, 6}, {3, 9, 4, 5, 7, 14},
		{0, 1, 0, most - 1, 0, most}, {0, 1, most - 1, most - 1, most - 1, most}, {1, 1, most - 1, most - 1, most, most},
		{most - 1, most - 1, 1, 1, most, most}, {0, most - 1, 0, 1, 0, most}, {0, most - 1, 1, 1, 1, most},
	} {
		got, e := Add([]api.Acc{member(2024, "A", 1, 1), member(2024, "M1", c.d, c.o), member(2024, "Z", 1, 1)}, "M1", false, 2024, c.deduct, c.oop)
		expectRows(t, got, e, member(2024, "A", 1, 1), member(2024, "M1", c.wantD, c.wantO), member(2024, "Z", 1, 1))
	}
	for _, c := range [][2]int64{{0, 1}, {1, 1}, {1, 2}, {0, most}, {1, most}, {most - 1, most}, {most, most}} {
		got, e := Add(nil, "M1", false, 2024, c[0], c[1])
		expectRows(t, got, e, member(2024, "M1", c[0], c[1]))
		got, e = Add([]api.Acc{}, "", true, -7, c[0], c[1])
		expectRows(t, got, e, family(-7, "", c[0], c[1]))
	}
	got, e := Add(nil, "M1", false, 2024, 0, 0)
	expectRows(t, got, e)
}

// Promise 16.3: which fault is told, of a row that is there and of one that is not, first those of the deductible, then those of the limit, then ErrRange.
func TestAddFaults(t *testing.T) {
	for _, c := range []struct {
		d, o, deduct, oop int64
		want              api.Errno
	}{
		// Deduct alone is wrong.
		{100, 200, -1, 50, api.ErrArg}, {100, 200, most + 1, most + 1, api.ErrArg},
		{100, most, most - 99, 0, api.ErrOverflow}, {100, 200, most, 0, api.ErrOverflow}, {most, most, 1, 0, api.ErrOverflow},
		// Oop alone is.
		{100, 200, 0, -1, api.ErrArg}, {100, 200, 10, most + 1, api.ErrArg},
		{100, 200, 0, most - 199, api.ErrOverflow}, {100, 200, 10, most, api.ErrOverflow}, {0, most, 0, 1, api.ErrOverflow}, {0, most, 1, 1, api.ErrOverflow},
		// Both are: Deduct's is told.
		{100, 200, most, -1, api.ErrOverflow}, {100, 200, most, most + 1, api.ErrOverflow}, {most, most, 1, math.MinInt64, api.ErrOverflow},
		{100, 200, -1, most, api.ErrArg}, {100, 200, most + 1, most, api.ErrArg}, {100, 200, -1, -1, api.ErrArg},
		{100, 200, most, most, api.ErrOverflow},
		// More is of the deductible than in all: told last.
		{100, 200, 1, 0, api.ErrRange}, {100, 200, 51, 50, api.ErrRange}, {100, 200, most - 100, 0, api.ErrRange}, {100, 200, most - 100, most - 200, api.ErrRange},
		{0, 200, most, 0, api.ErrRange}, {0, most, 1, 0, api.ErrRange}, {1, 1, 2, 1, api.ErrRange},
		{100, 200, 1, -1, api.ErrArg}, {100, 200, most - 100, most - 199, api.ErrOverflow},
	} {
		l := []api.Acc{member(2024, "A", 1, 1), member(2024, "M1", c.d, c.o), family(2024, "M1", 1, 1)}
		expectCheck(t, l, api.OK)
		got, e := Add(l, "M1", false, 2024, c.deduct, c.oop)
		expectNone(t, got, e, c.want)
	}
	for _, c := range []struct {
		deduct, oop int64
		want        api.Errno
	}{
		{1, 0, api.ErrRange}, {2, 1, api.ErrRange}, {most, 0, api.ErrRange}, {most, most - 1, api.ErrRange},
		{1, -1, api.ErrArg}, {most, -1, api.ErrArg}, {0, -1, api.ErrArg}, {0, most + 1, api.ErrArg}, {-1, 0, api.ErrArg}, {most + 1, 0, api.ErrArg},
	} {
		for _, l := range [][]api.Acc{nil, {member(2024, "A", most, most), family(2024, "M1", most, most)}} {
			got, e := Add(l, "M1", false, 2024, c.deduct, c.oop)
			expectNone(t, got, e, c.want)
		}
	}
	for _, n := range noAmounts {
		for _, l := range [][]api.Acc{nil, {member(2024, "M1", 1, 1)}, {member(2024, "M1", most, most)}} {
			for _, c := range [][2]int64{{n, n}, {n, 0}, {n, 1}, {n, most}, {0, n}} {
				got, e := Add(l, "M1", false, 2024, c[0], c[1])
				expectNone(t, got, e, api.ErrArg)
			}
		}
	}
}

// Promise 16.4: the chapter's example, and what is counted of all three that a member bears.
func TestBoth(t *testing.T) {
	l, e := Both(nil, "M1", "F1", 2024, api.Out{Deduct: 100, Copay: 50})
	expectRows(t, l, e, member(2024, "M1", 100, 150), family(2024, "F1", 100, 150))
	// All but what is borne plays no part.
	o := api.Out{Allowed: 1000, Deduct: 7, Copay: 20, Coins: 300, Plan: 4000, Write: 50000, Prior: 600000, Deny: 7000000}
	next, e := Both(l, "M2", "F1", 2024, o)
	expectRows(t, next, e, member(2024, "M1", 100, 150), member(2024, "M2", 7, 327), family(2024, "F1", 107, 477))
	next, e = Both(next, "M1", "F1", 2025, o)
	expectRows(t, next, e, member(2024, "M1", 100, 150), member(2024, "M2", 7, 327), family(2024, "F1", 107, 477), member(2025, "M1", 7, 327), family(2025, "F1", 7, 327))
	next, e = Both(l, "M1", "F0", 2024, api.Out{Coins: 1})
	expectRows(t, next, e, member(2024, "M1", 100, 151), family(2024, "F0", 0, 1), family(2024, "F1", 100, 150))
	// A member and a family of one name are two.
	next, e = Both(nil, "X", "X", 0, api.Out{Deduct: 2})
	expectRows(t, next, e, member(0, "X", 2, 2), family(0, "X", 2, 2))
	// Nothing is borne: of one who is there, and of one who is not.
	nothing := api.Out{Allowed: 10, Plan: 10, Write: 5, Prior: 3, Deny: api.DFee}
	next, e = Both(l, "M1", "F1", 2024, nothing)
	expectRows(t, next, e, l...)
	next, e = Both(l, "M9", "F9", 2024, nothing)
	expectRows(t, next, e, l...)
	next, e = Both(nil, "M9", "F9", 2024, nothing)
	expectRows(t, next, e)
	next, e = Both(nil, "M1", "F1", 2024, api.Out{Deduct: most - 2, Copay: 1, Coins: 1})
	expectRows(t, next, e, member(2024, "M1", most-2, most), family(2024, "F1", most-2, most))
}

// Promise 16.4: the member's fault, the family's alone, and of both the member's.
func TestBothFaults(t *testing.T) {
	for _, c := range []struct {
		own, all [2]int64
		o        api.Out
		want     api.Errno
	}{
		// Of the member, and of the family, too.
		{[2]int64{1, 1}, [2]int64{1, 1}, api.Out{Deduct: -1, Copay: 5}, api.ErrArg},
		{[2]int64{1, 1}, [2]int64{1, 1}, api.Out{Copay: -1}, api.ErrArg},
		{[2]int64{1, 1}, [2]int64{1, 1}, api.Out{Coins: -1}, api.ErrArg},
		{[2]int64{1, 1}, [2]int64{1, 1}, api.Out{Deduct: most + 1}, api.ErrArg},
		{[2]int64{1, 1}, [2]int64{1, 1}, api.Out{Copay: most, Coins: 1}, api.ErrArg},
		{[2]int64{1, 1}, [2]int64{1, 1}, api.Out{Deduct: most - 1, Copay: 2}, api.ErrArg},
		{[2]int64{1, 1}, [2]int64{1, 1}, api.Out{Deduct: 5, Copay: -1}, api.ErrRange},
		{[2]int64{1, 1}, [2]int64{1, 1}, api.Out{Deduct: 5, Copay: 2, Coins: -3}, api.ErrRange},
		{[2]int64{1, 1}, [2]int64{1, 1}, api.Out{Coins: most}, api.ErrOverflow},
		{[2]int64{most, most}, [2]int64{most, most}, api.Out{Deduct: 1}, api.ErrOverflow},
		// Of the member alone.
		{[2]int64{0, most}, [2]int64{0, 1}, api.Out{Copay: 1}, api.ErrOverflow},
		{[2]int64{most, most}, [2]int64{0, 1}, api.Out{Deduct: 1}, api.ErrOverflow},
		// Of the family alone.
		{[2]int64{0, 1}, [2]int64{0, most}, api.Out{Copay: 1}, api.ErrOverflow},
		{[2]int64{0, 1}, [2]int64{most, most}, api.Out{Deduct: 1}, api.ErrOverflow},
		{[2]int64{0, 1}, [2]int64{0, most - 1}, api.Out{Deduct: 1, Coins: 1}, api.ErrOverflow},
		// Another one of each: the member's is told.
		{[2]int64{0, 1}, [2]int64{most, most}, api.Out{Deduct: 5, Copay: -1}, api.ErrRange},
		{[2]int64{most, most}, [2]int64{0, 1}, api.Out{Deduct: 5, Copay: -1}, api.ErrOverflow},
		{[2]int64{0, 1}, [2]int64{most, most}, api.Out{Deduct: 1, Copay: -2}, api.ErrArg},
	} {
		l := []api.Acc{member(2024, "M1", c.own[0], c.own[1]), family(2024, "F1", c.all[0], c.all[1])}
		expectCheck(t, l, api.OK)
		got, e := Both(l, "M1", "F1", 2024, c.o)
		expectNone(t, got, e, c.want)
	}
	// The member is not there: the family's fault alone.
	got, e := Both([]api.Acc{family(2024, "F1", 0, most)}, "M1", "F1", 2024, api.Out{Copay: 1})
	expectNone(t, got, e, api.ErrOverflow)
	got, e = Both([]api.Acc{family(2024, "F1", 0, most)}, "M1", "F1", 2023, api.Out{Copay: 1})
	expectRows(t, got, e, member(2023, "M1", 0, 1), family(2023, "F1", 0, 1), family(2024, "F1", 0, most))
}

func expectRoom(t *testing.T, p api.Plan, l []api.Acc, ded, oop int64) {
	t.Helper()
	expectCheck(t, l, api.OK)
	if d, o := Room(p, l, "M1", "F1", 2024); d != ded || o != oop {
		t.Errorf("Room of %+v, %#v: %d, %d, want %d, %d", p, l, d, o, ded, oop)
	}
}

// Promise 16.5: the chapter's example, with both modes; nobody else's rows play a part.
func TestRoomExamples(t *testing.T) {
	p := api.Plan{IndDed: 300, IndOop: 1000, FamDed: 350, FamOop: 2000}
	aggregate := p
	aggregate.Mode = 1
	l, _ := Both(nil, "M1", "F1", 2024, api.Out{Deduct: 100, Copay: 50})
	expectRoom(t, p, l, 200, 850)
	expectRoom(t, aggregate, l, 250, 1850)
	expectRoom(t, p, nil, 300, 1000)
	expectRoom(t, aggregate, nil, 350, 2000)
	others := []api.Acc{
		member(2023, "M1", 90, 91), family(2023, "F1", 92, 93),
		member(2024, "F1", 90, 91), member(2024, "M", 90, 91), member(2024, "M10", 90, 91), member(2024, "M2", 90, 91), family(2024, "F", 90, 91), family(2024, "F10", 90, 91), family(2024, "M1", 90, 91),
		member(2025, "M1", 90, 91), family(2025, "F1", 92, 93),
	}
	expectRoom(t, p, others, 300, 1000)
	expectRoom(t, aggregate, others, 350, 2000)
	for _, r := range l {
		others, _ = add(others, r)
	}
	expectRoom(t, p, others, 200, 850)
	expectRoom(t, aggregate, others, 250, 1850)
}

// Promise 16.5: less is left of the member's, or of the family's, of one of the two or of both; and nothing, where more was counted.
func TestRoom(t *testing.T) {
	p := api.Plan{IndDed: 300, IndOop: 1000, FamDed: 600, FamOop: 2000}
	aggregate := p
	aggregate.Mode = 1
	for _, c := range []struct{ ownD, ownO, allD, allO, ded, oop, famDed, famOop int64 }{
		// The member's are less.
		{100, 150, 100, 150, 200, 850, 500, 1850}, {0, 1, 0, 1, 300, 999, 600, 1999}, {299, 999, 299, 999, 1, 1, 301, 1001}, {300, 1000, 300, 1000, 0, 0, 300, 1000},
		// The family's are.
		{100, 150, 500, 1500, 100, 500, 100, 500}, {0, 1, 599, 1999, 1, 1, 1, 1}, {0, 1, 600, 2000, 0, 0, 0, 0},
		// The one of the one, the other of the other.
		{100, 900, 500, 1500, 100, 100, 100, 500}, {250, 300, 500, 1800, 50, 200, 100, 200},
		// They are the same.
		{100, 200, 400, 1200, 200, 800, 200, 800}, {101, 200, 400, 1200, 199, 800, 200, 800}, {99, 200, 400, 1200, 200, 800, 200, 800}, {100, 201, 400, 1200, 200, 799, 200, 800}, {100, 199, 400, 1200, 200, 800, 200, 800},
		// More was counted than the plan says: of the member's, of the family's, of both; of one of the two alone.
		{301, 1001, 301, 1001, 0, 0, 299, 999}, {301, 999, 301, 999, 0, 1, 299, 1001}, {299, 1001, 299, 1001, 1, 0, 301, 999},
		{0, 1, 601, 2001, 0, 0, 0, 0}, {0, 1, 601, 1999, 0, 1, 0, 1}, {0, 1, 599, 2001, 1, 0, 1, 0}, {most, most, most, most, 0, 0, 0, 0},
	} {
		l := []api.Acc{member(2024, "M1", c.ownD, c.ownO), family(2024, "F1", c.allD, c.allO)}
		expectRoom(t, p, l, c.ded, c.oop)
		expectRoom(t, aggregate, l, c.famDed, c.famOop)
		// By the other mode the member's own limits, and what was counted, play no part.
		aggregate := aggregate
		aggregate.IndDed, aggregate.IndOop = 0, 0
		expectRoom(t, aggregate, l, c.famDed, c.famOop)
		expectRoom(t, aggregate, l[1:], c.famDed, c.famOop)
	}
	// The one has a row, the other none.
	expectRoom(t, p, []api.Acc{member(2024, "M1", 100, 150)}, 200, 850)
	expectRoom(t, aggregate, []api.Acc{member(2024, "M1", 100, 150)}, 600, 2000)
	expectRoom(t, p, []api.Acc{family(2024, "F1", 400, 1500)}, 200, 500)
	expectRoom(t, aggregate, []api.Acc{family(2024, "F1", 400, 1500)}, 200, 500)
}

// Promise 16.5: limits of nothing, and as great as there may be.
func TestRoomEdges(t *testing.T) {
	expectRoom(t, api.Plan{}, nil, 0, 0)
	expectRoom(t, api.Plan{Mode: 1}, nil, 0, 0)
	expectRoom(t, api.Plan{}, []api.Acc{member(2024, "M1", 0, 1), family(2024, "F1", 0, 1)}, 0, 0)
	great := api.Plan{IndDed: most, IndOop: most, FamDed: most, FamOop: most}
	l := []api.Acc{member(2024, "M1", most-1, most-1), family(2024, "F1", most-1, most)}
	expectRoom(t, great, nil, most, most)
	expectRoom(t, great, l[:1], 1, 1)
	expectRoom(t, great, l, 1, 0)
	great.Mode = 1
	expectRoom(t, great, nil, most, most)
	expectRoom(t, great, l[:1], most, most)
	expectRoom(t, great, l, 1, 0)
	// A member and a family of one name are two.
	p := api.Plan{IndDed: 300, IndOop: 1000, FamDed: 600, FamOop: 2000}
	if d, o := Room(p, []api.Acc{member(2024, "X", 10, 20), family(2024, "X", 500, 1900)}, "X", "X", 2024); d != 100 || o != 100 {
		t.Errorf("%d, %d", d, o)
	}
	// Rules play no part.
	p.Rules = []api.Rule{{Rank: 1, Sets: []api.Set{{What: api.SCover, N: 1}}}}
	expectRoom(t, p, nil, 300, 1000)
}

// sums is another way of counting: in no order, put in order at the end.
type sums map[api.Acc][2]int64

func (s sums) add(r api.Acc) {
	at := api.Acc{Who: r.Who, Family: r.Family, Year: r.Year}
	s[at] = [2]int64{s[at][0] + r.Deduct, s[at][1] + r.Oop}
}

func (s sums) rows() []api.Acc {
	var l []api.Acc
	for r, n := range s {
		r.Deduct, r.Oop = n[0], n[1]
		if r.Oop != 0 {
			l = append(l, r)
		}
	}
	sort.Slice(l, func(i, j int) bool {
		switch {
		case l[i].Year != l[j].Year:
			return l[i].Year < l[j].Year
		case l[i].Family != l[j].Family:
			return l[j].Family
		}
		return bytes.Compare([]byte(l[i].Who), []byte(l[j].Who)) < 0
	})
	return l
}

func whoBy(r *rand.Rand) string {
	const signs = "AB1\xff"
	who := make([]byte, r.Intn(4))
	for i := range who {
		who[i] = signs[r.Intn(len(signs))]
	}
	return string(who)
}

func countBy(r *rand.Rand) api.Acc {
	n := api.Acc{Who: whoBy(r), Family: r.Intn(2) == 0, Year: 2020 + r.Intn(5)}
	n.Oop = []int64{0, 1, 100, most / 1000}[r.Intn(4)]
	n.Deduct = r.Int63n(n.Oop + 1)
	return n
}

// Promises 16.2, 16.3 and 16.6, held against another way: step by step, no other row is touched.
func TestCountingByChance(t *testing.T) {
	r := rand.New(rand.NewSource(163))
	for range 100 {
		s := sums{}
		var l []api.Acc
		for range 150 {
			n := countBy(r)
			s.add(n)
			got, e := add(l, n)
			expectRows(t, got, e, s.rows()...)
			one := get(got, n)
			want := get(l, n)
			want.Deduct, want.Oop = want.Deduct+n.Deduct, want.Oop+n.Oop
			if one != want {
				t.Errorf("%#v, want %#v", one, want)
			}
			if t.Failed() {
				return
			}
			l = got
		}
	}
}

// borneBy is what became of somebody's service in a year.
type borneBy struct {
	member, family string
	year           int
	o              api.Out
}

// Promises 16.4 and 16.6: in which order is counted plays no part.
func TestOrderPlaysNoPart(t *testing.T) {
	r := rand.New(rand.NewSource(166))
	for range 50 {
		var all []borneBy
		s := sums{}
		for range 60 {
			o := api.Out{Deduct: r.Int63n(3), Copay: r.Int63n(100), Coins: r.Int63n(most / 1000), Plan: r.Int63n(9), Write: r.Int63n(9)}
			if r.Intn(5) == 0 {
				o = api.Out{Write: 7, Deny: api.DCover}
			}
			x := borneBy{whoBy(r), whoBy(r), 2020 + r.Intn(3), o}
			all = append(all, x)
			borne := o.Deduct + o.Copay + o.Coins
			s.add(member(x.year, x.member, o.Deduct, borne))
			s.add(family(x.year, x.family, o.Deduct, borne))
		}
		for range 5 {
			r.Shuffle(len(all), func(i, j int) { all[i], all[j] = all[j], all[i] })
			var l []api.Acc
			var e api.Errno
			for _, x := range all {
				if l, e = Both(l, x.member, x.family, x.year, x.o); e != api.OK {
					t.Fatalf("%#v: %d", x, e)
				}
			}
			expectRows(t, l, e, s.rows()...)
		}
	}
}

// Promise 16.5, held against another way.
func TestRoomByChance(t *testing.T) {
	r := rand.New(rand.NewSource(165))
	below := func(a, b int64) int64 {
		if a < b {
			return a
		}
		return b
	}
	none, own, all := 0, 0, 0
	for range 50000 {
		p := api.Plan{Mode: r.Intn(2), FamOop: 1 + r.Int63n(50)}
		p.FamDed, p.IndOop = r.Int63n(p.FamOop+1), r.Int63n(p.FamOop+1)
		p.IndDed = r.Int63n(below(p.FamDed, p.IndOop) + 1)
		o, a := 1+r.Int63n(40), 1+r.Int63n(60)
		l := []api.Acc{member(2024, "M1", r.Int63n(o+1), o), family(2024, "F1", r.Int63n(a+1), a)}
		ded, oop := p.FamDed-l[1].Deduct, p.FamOop-l[1].Oop
		if d := p.IndDed - l[0].Deduct; p.Mode == 0 && d < ded {
			ded = d
		}
		if n := p.IndOop - l[0].Oop; p.Mode == 0 && n < oop {
			own++
			oop = n
		} else {
			all++
		}
		if ded < 0 {
			ded = 0
		}
		if oop < 0 {
			none++
			oop = 0
		}
		expectRoom(t, p, l, ded, oop)
	}
	if none < 1000 || own < 1000 || all < 1000 {
		t.Errorf("too few were met: %d, %d, %d", none, own, all)
	}
}

// Rule R3: what is handed in stays as it was, and what lies behind a list's length plays no part, nor is it written over.
func TestHandedInStays(t *testing.T) {
	all := counted(places())
	p := api.Plan{IndDed: 300, IndOop: 1000, FamDed: 600, FamOop: 2000}
	for n := range len(all) + 1 {
		for _, r := range places() {
			room := slices.Clone(all)
			l := room[:n]
			Check(l)
			if got, want := get(l, r), get(slices.Clone(all[:n]), r); got != want {
				t.Errorf("%#v, want %#v", got, want)
			}
			r.Deduct, r.Oop = 1, 2
			a, _ := add(l, r)
			b, _ := Both(l, r.Who, "F7", r.Year, api.Out{Deduct: 1, Coins: 1})
			c, _ := Add(l, r.Who, r.Family, r.Year, 0, 0)
			add(l, api.Acc{Who: r.Who, Year: r.Year, Deduct: 2, Oop: 1})
			Room(p, l, r.Who, "F7", r.Year)
			if !slices.Equal(room, all) {
				t.Fatalf("%#v became %#v", all, room)
			}
			// What is answered is new memory: to write over it, with all the room behind it, touches nothing.
			kept := slices.Clone(c)
			clear(a[:cap(a)])
			clear(b[:cap(b)])
			if !slices.Equal(room, all) || !slices.Equal(c, kept) {
				t.Fatalf("an answer shares memory")
			}
			clear(c[:cap(c)])
			if !slices.Equal(room, all) {
				t.Fatalf("an answer shares memory with what was handed in")
			}
		}
	}
}

// Rule R3: behind what is answered lies nothing that was handed in.
func TestNothingBehindAnswers(t *testing.T) {
	all := counted(places())
	for n := range len(all) + 1 {
		for _, r := range counted(places()) {
			got, e := add(all[:n], r)
			if e != api.OK {
				t.Fatalf("%#v: %d", r, e)
			}
			for _, x := range got[:cap(got)][len(got):] {
				if x != (api.Acc{}) {
					t.Fatalf("behind %#v lies %#v", got, x)
				}
			}
		}
	}
}

// P0: of rows and plans that may not be all calls end, and none panics; P6: they are answered alike.
func TestWhatMayNotBe(t *testing.T) {
	r := rand.New(rand.NewSource(160))
	pick := append([]int64{0, 1, 2, most - 1, most}, noAmounts...)
	n := func() int64 { return pick[r.Intn(len(pick))] }
	for range 5000 {
		var l []api.Acc
		for range r.Intn(8) {
			l = append(l, api.Acc{Who: whoBy(r), Family: r.Intn(2) == 0, Year: 2020 + r.Intn(2), Deduct: n(), Oop: n()})
		}
		p := api.Plan{Mode: r.Intn(5) - 2, IndDed: n(), IndOop: n(), FamDed: n(), FamOop: n()}
		x := api.Acc{Who: whoBy(r), Family: r.Intn(2) == 0, Year: 2020, Deduct: n(), Oop: n()}
		o := api.Out{Deduct: n(), Copay: n(), Coins: n()}
		a, e := add(l, x)
		b, f := add(l, x)
		c, g := Both(l, x.Who, "A", 2020, o)
		d, h := Both(l, x.Who, "A", 2020, o)
		if e != f || g != h || !slices.Equal(a, b) || !slices.Equal(c, d) || get(l, x) != get(l, x) || Check(l) != Check(l) {
			t.Fatalf("%#v is answered in two ways", l)
		}
		if e != api.OK && len(a) > 0 || g != api.OK && len(c) > 0 {
			t.Fatalf("%#v, %#v beside errors", a, c)
		}
		ded, oop := Room(p, l, x.Who, "A", 2020)
		if again, still := Room(p, l, x.Who, "A", 2020); ded != again || oop != still {
			t.Fatalf("%#v is answered in two ways", l)
		}
	}
}
