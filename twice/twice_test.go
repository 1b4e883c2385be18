package twice

import (
	"fmt"
	"math"
	"math/big"
	"math/rand"
	"slices"
	"strings"
	"testing"

	"leechbook/api"
	"leechbook/claim"
)

// on is a service that may be, of a code, on a day.
func on(day int, proc string, mods ...string) api.Line {
	return api.Line{Proc: proc, Mods: mods, Date: day, Units: 1, Billed: 100}
}

func short(v any) string { return fmt.Sprintf("%.300s", fmt.Sprintf("%+v", v)) }

func expectKey(t *testing.T, l api.Line, want string) {
	t.Helper()
	if k := Key(l); k != want {
		t.Errorf("Key(%s): %.80q, want %.80q", short(l), k, want)
	}
}

// Promise 14.1: a day's digits, the last one first, of any number that a Date may be.
func TestKeyOfDates(t *testing.T) {
	for _, c := range []struct {
		day  int
		want string
	}{
		{20240301, "10304202"},
		{12345678, "87654321"},
		{10000000, "00000001"},
		{99999999, "99999999"},
		// Fewer than eight: noughts stand where there is no digit.
		{0, "00000000"},
		{1, "10000000"},
		{9, "90000000"},
		{10, "01000000"},
		{301, "10300000"},
		{1234567, "76543210"},
		{9999999, "99999990"},
		// More than eight: those ahead of the last eight play no part.
		{100000000, "00000000"},
		{120240301, "10304202"},
		{1000000007, "70000000"},
		{20240301 + 1<<32, "79570251"}, // 4315207597
		{math.MaxInt32, "74638474"},
		{math.MaxInt, "70857745"},
		// Below 0: what 10 leaves beside its multiples.
		{-1, "90000000"},
		{-9, "10000000"},
		{-10, "09000000"},
		{-11, "99000000"},
		{-100, "00900000"},
		{-123, "78900000"},
		{-20240301, "90706808"},
		{-12345678, "23456789"},
		{-99999999, "11111111"},
		{-100000000, "00000000"},
		{-120240301, "90706808"},
		{math.MinInt32, "26472636"},
		{-math.MaxInt, "30253365"},
		{math.MinInt, "20253365"},
	} {
		expectKey(t, api.Line{Date: c.day}, c.want)
		expectKey(t, on(c.day, "99213", "25", "59"), c.want+"99213:25:59")
	}
}

// Promise 14.1: the code and the modifiers, whatever they are, the chapter's example first.
func TestKeyOfCodes(t *testing.T) {
	const day = 20240301
	for _, c := range []struct {
		l    api.Line
		want string
	}{
		{on(day, "99213", "25"), "1030420299213:25"},
		{on(day, "99213"), "1030420299213"},
		{api.Line{Proc: "99213", Date: day, Mods: []string{}}, "1030420299213"},
		{on(day, ""), "10304202"},
		{on(day, "", "25"), "10304202:25"},
		{on(day, "99213", "25", "59"), "1030420299213:25:59"},
		{on(day, "99213", "59", "25"), "1030420299213:59:25"},
		{on(day, "99213", "25", "25"), "1030420299213:25:25"},
		{on(day, "99213", "25", "26", "TC", "59"), "1030420299213:25:26:TC:59"},
		{on(day, "99213", "1", "2", "3", "4", "5", "6"), "1030420299213:1:2:3:4:5:6"},
		// Empty ones are some all the same.
		{on(day, "99213", ""), "1030420299213:"},
		{on(day, "99213", "", ""), "1030420299213::"},
		{on(day, "99213", "", "25"), "1030420299213::25"},
		{on(day, "99213", "25", ""), "1030420299213:25:"},
		{on(day, "", ""), "10304202:"},
		// What may not be a code stands there as it is.
		{on(day, "9921", "253"), "103042029921:253"},
		{on(day, " j1100é\x00", "\xff:", "\n"), "10304202 j1100é\x00:\xff::\n"},
		{on(day, "-5", "-"), "10304202-5:-"},
		{api.Line{}, "00000000"},
	} {
		expectKey(t, c.l, c.want)
	}
	long := strings.Repeat("9", 100000)
	expectKey(t, on(day, long, long), "10304202"+long+":"+long)
	expectKey(t, on(day, "99213", slices.Repeat([]string{"25"}, 10000)...), "1030420299213"+strings.Repeat(":25", 10000))
	// What lies behind a list's length is no modifier.
	x := on(day, "99213", "25", "59")
	x.Mods = x.Mods[:1]
	expectKey(t, x, "1030420299213:25")
	x.Mods = x.Mods[:0]
	expectKey(t, x, "1030420299213")
}

// Promise 14.1: units and amounts play no part.
func TestKeyOfTheRest(t *testing.T) {
	for _, n := range []int{0, 1, -1, 9999, math.MaxInt, math.MinInt} {
		for _, cents := range []int64{0, 1, -1, api.MaxCents, math.MaxInt64, math.MinInt64} {
			x := on(20240301, "99213", "25")
			x.Units, x.Billed, x.Prior = n, cents, -cents
			expectKey(t, x, "1030420299213:25")
		}
	}
}

// keyOf is Key in another way: numbers of any size, divided as the chapter says, and texts joined.
func keyOf(l api.Line) string {
	ten, rest, left := big.NewInt(10), big.NewInt(int64(l.Date)), new(big.Int)
	key := ""
	for range 8 {
		key += left.Mod(rest, ten).String() // never below 0
		rest.Quo(rest, ten)                 // cut off towards 0
	}
	return strings.Join(append([]string{key + l.Proc}, l.Mods...), ":")
}

func pick[T any](r *rand.Rand, l []T) T { return l[r.Intn(len(l))] }

// dayByChance is a number of any size, from below 0 on.
func dayByChance(r *rand.Rand) int {
	n := int(r.Uint64() >> r.Intn(64))
	if r.Intn(3) == 0 {
		return -n
	}
	return n
}

// Promise 14.1: of services by chance.
func TestKeyByChance(t *testing.T) {
	r := rand.New(rand.NewSource(141))
	below := 0
	for range 50000 {
		l := api.Line{Date: dayByChance(r), Proc: pick(r, []string{"99213", "J1100", "", "x", "99213:"})}
		for range r.Intn(6) {
			l.Mods = append(l.Mods, pick(r, []string{"25", "59", "", "TC", ":"}))
		}
		if l.Date < 0 {
			below++
		}
		expectKey(t, l, keyOf(l))
	}
	if below < 10000 {
		t.Errorf("just %d below 0", below)
	}
}

func expectMarks(t *testing.T, l, ahead []api.Line, want ...bool) {
	t.Helper()
	if m := Marks(l, ahead); !slices.Equal(m, want) {
		t.Errorf("Marks(%s, %s): %s, want %s", short(l), short(ahead), short(m), short(want))
	}
}

// Promise 14.2: without services, without any ahead of them, without both.
func TestMarksOfNone(t *testing.T) {
	a, b := on(20240301, "99213"), on(20240302, "99213")
	for _, none := range [][]api.Line{nil, {}} {
		expectMarks(t, none, nil)
		expectMarks(t, none, []api.Line{})
		expectMarks(t, none, []api.Line{a, b, a})
		expectMarks(t, []api.Line{a}, none, false)
		expectMarks(t, []api.Line{a, b}, none, false, false)
		expectMarks(t, []api.Line{a, a}, none, false, true)
		expectMarks(t, []api.Line{{}}, none, false) // one without anything is not met ahead of itself
		expectMarks(t, []api.Line{{}, {}}, none, false, true)
	}
}

// Promise 14.2: met in the list itself, ahead of it, in both, once and several times.
func TestMarks(t *testing.T) {
	a, b, c := on(20240301, "99213", "25"), on(20240301, "99213"), on(20240302, "99213", "25")
	for _, x := range []struct {
		l, ahead []api.Line
		want     []bool
	}{
		{[]api.Line{a}, []api.Line{a}, []bool{true}},
		{[]api.Line{a}, []api.Line{b, c}, []bool{false}},
		{[]api.Line{a}, []api.Line{b, c, a}, []bool{true}},
		{[]api.Line{a}, []api.Line{a, b, c}, []bool{true}},
		{[]api.Line{a}, []api.Line{a, a, a}, []bool{true}},
		{[]api.Line{a, a}, []api.Line{a}, []bool{true, true}},
		{[]api.Line{a, a, a, a}, nil, []bool{false, true, true, true}},
		{[]api.Line{a, b, a, b, a}, nil, []bool{false, false, true, true, true}},
		{[]api.Line{a, b, c, a}, nil, []bool{false, false, false, true}},
		{[]api.Line{a, b, c, c, b}, nil, []bool{false, false, false, true, true}},
		// The one that comes later marks none ahead of it.
		{[]api.Line{b, a, a}, []api.Line{b}, []bool{true, false, true}},
		{[]api.Line{a, b, a, c}, []api.Line{b, b}, []bool{false, true, true, false}},
		{[]api.Line{a, a, b, b, c, c}, []api.Line{c}, []bool{false, true, false, true, true, true}},
		{[]api.Line{a, b, c}, []api.Line{c, b, a}, []bool{true, true, true}},
		// Of another day, code or modifier, or of these in another order: another one.
		{[]api.Line{a, b, c, on(20240301, "99214", "25"), on(20240301, "99213", "26")}, nil, []bool{false, false, false, false, false}},
		{[]api.Line{on(20240301, "99213", "25", "59"), on(20240301, "99213", "59", "25")}, nil, []bool{false, false}},
		{[]api.Line{on(20240301, "99213", "25", "25"), a}, nil, []bool{false, false}},
		{[]api.Line{on(20240301, "99213", ""), b}, nil, []bool{false, false}},
	} {
		expectMarks(t, x.l, x.ahead, x.want...)
	}
	// What lies behind a list's length was not met.
	l := []api.Line{a, b, a}
	expectMarks(t, l[2:], l[:1], true)
	expectMarks(t, l[2:], l[1:2], false)
	expectMarks(t, l[:1], l[:0], false)
	expectMarks(t, l[:0], l)
}

// Promise 14.2: units and amounts make no other service, and the Key alone tells, of services that may not be, too.
func TestMarksByKeyAlone(t *testing.T) {
	a := on(20240301, "99213", "25")
	other := api.Line{Proc: "99213", Mods: []string{"25"}, Date: 20240301, Units: 7, Billed: 5, Prior: 3}
	expectMarks(t, []api.Line{a, other}, nil, false, true)
	expectMarks(t, []api.Line{other}, []api.Line{a}, true)
	for _, two := range [][]api.Line{
		{a, on(120240301, "99213", "25")},
		{a, on(20240301, "99213:25")},
		{on(20240301, "99213", "25", "59"), on(20240301, "99213", "25:59")},
		{on(20240301, "99213", "", ""), on(20240301, "99213", ":")},
		{on(0, "99213"), on(-100000000, "99213")},
		{on(1, "99213"), on(-9, "99213")},
	} {
		expectMarks(t, two, nil, false, true)
		expectMarks(t, two[:1], two[1:], true)
		expectMarks(t, two[1:], two[:1], true)
	}
	for _, two := range [][]api.Line{
		{on(1, "99213"), on(-1, "99213")},
		{on(20240301, "99213"), on(2024030, "199213")},
		{on(0, "0"), on(0, "")},
		{on(0, ""), on(0, "", "")},
	} {
		expectMarks(t, two, nil, false, false)
		expectMarks(t, two[:1], two[1:], false)
		expectMarks(t, two[1:], two[:1], false)
	}
}

// marksOf is Marks in another way: each service beside all that stand ahead of it.
func marksOf(l, ahead []api.Line) []bool {
	var marks []bool
	for i, x := range l {
		before := slices.Concat(ahead, l[:i])
		marks = append(marks, slices.ContainsFunc(before, func(y api.Line) bool { return keyOf(x) == keyOf(y) }))
	}
	return marks
}

// servicesByChance is so many services that may be, of few codes, modifiers and days, so that many are the same.
func servicesByChance(r *rand.Rand, count int) []api.Line {
	l := make([]api.Line, count)
	for i := range l {
		l[i] = on(pick(r, []int{20240301, 20240302, 20241003}), pick(r, []string{"99213", "99212", "J1100"}))
		for range r.Intn(3) {
			l[i].Mods = append(l[i].Mods, pick(r, []string{"25", "59"}))
		}
		l[i].Units = 1 + r.Intn(9)
	}
	return l
}

// Promise 14.2: of lists by chance; one answer stands there for each service.
func TestMarksByChance(t *testing.T) {
	r := rand.New(rand.NewSource(142))
	met := map[bool]int{}
	for range 3000 {
		l, ahead := servicesByChance(r, r.Intn(12)), servicesByChance(r, r.Intn(12))
		want := marksOf(l, ahead)
		for _, m := range want {
			met[m]++
		}
		expectMarks(t, l, ahead, want...)
	}
	if met[true] < 1000 || met[false] < 1000 {
		t.Errorf("%v", met)
	}
}

// Promise 14.2: as many as there are, of which each stands there once, and then all once more.
func TestMarksOfMany(t *testing.T) {
	const count = 20000
	l := make([]api.Line, count)
	for i := range l {
		l[i] = on(20240301, fmt.Sprintf("%05d", i), "25")
	}
	none, all := make([]bool, count), slices.Repeat([]bool{true}, count)
	expectMarks(t, l, nil, none...)
	expectMarks(t, l, l, all...)
	expectMarks(t, slices.Concat(l, l), nil, slices.Concat(none, all)...)
	expectMarks(t, l[1:], l[:1], none[1:]...)
}

// Promise 14.3: services that may be have one Key just if code, modifiers and day are the same.
func TestSameService(t *testing.T) {
	r := rand.New(rand.NewSource(143))
	var l []api.Line
	for _, day := range []int{10101, 20240301, 20240302, 20240310, 20241003, 30240102, 99991231, 10110} {
		for _, proc := range []string{"99213", "99212", "00000", "03012", "A0428"} {
			for _, mods := range [][]string{nil, {}, {"25"}, {"59"}, {"52"}, {"25", "59"}, {"59", "25"}, {"25", "25"}, {"25", "59", "TC", "26"}} {
				x := on(day, proc, mods...)
				x.Units, x.Billed = 1+r.Intn(9999), r.Int63n(1000)
				if claim.Line(x) == api.OK {
					l = append(l, x)
				}
			}
		}
	}
	if len(l) < 200 {
		t.Fatalf("just %d services may be", len(l))
	}
	for _, x := range l {
		for _, y := range l {
			same := x.Proc == y.Proc && x.Date == y.Date && slices.Equal(x.Mods, y.Mods)
			if (Key(x) == Key(y)) != same {
				t.Errorf("%v, %v: %q, %q", x, y, Key(x), Key(y))
			}
			expectMarks(t, []api.Line{x}, []api.Line{y}, same)
			expectMarks(t, []api.Line{y, x}, nil, false, same)
		}
	}
}

// Rule R3: what is handed in is not changed, and each answer is memory of its own.
func TestNothingIsChanged(t *testing.T) {
	r := rand.New(rand.NewSource(144))
	for range 500 {
		all := servicesByChance(r, 20)
		was := fmt.Sprint(all)
		l, ahead := all[10:15], all[:5]
		first := Marks(l, ahead)
		kept := slices.Clone(first)
		second := Marks(l, ahead)
		for i := range second {
			second[i] = !second[i]
		}
		_ = append(second, true, true)
		if !slices.Equal(first, kept) || !slices.Equal(Marks(l, ahead), kept) {
			t.Fatalf("%v, was %v", first, kept)
		}
		for _, x := range all {
			Key(x)
		}
		if is := fmt.Sprint(all); is != was {
			t.Fatalf("%s, was %s", is, was)
		}
	}
}
