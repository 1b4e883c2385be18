package ratio

import (
	"math"
	"math/big"
	"math/rand"
	"slices"
	"testing"

	"leechbook/api"
)

var (
	inf   = math.Inf(1)
	nan   = math.NaN()
	minus = math.Copysign(0, -1)
	least = math.SmallestNonzeroFloat64
	most  = math.MaxFloat64
)

// leastNormal is the least float above 0 that has all its digits.
const leastNormal = 0x1p-1022

// next is the float just above one.
func next(f float64) float64 { return math.Nextafter(f, inf) }

// prev is the float just below one.
func prev(f float64) float64 { return math.Nextafter(f, -inf) }

// ordered are floats of all kinds, each ahead of the one behind it.
func ordered() []float64 {
	l := []float64{inf}
	above := []float64{
		most, prev(most), 1e300, next(1e10), 1e10, next(1000000), 1000000, prev(1000000), 10000, 2, next(1), 1, prev(1),
		next(0.5), 0.5, prev(0.5), 0.25, 0.0001, 0.00005, 1e-300, next(leastNormal), leastNormal, prev(leastNormal), 2 * least, least,
	}
	l = append(l, above...)
	l = append(l, 0, minus)
	for _, f := range slices.Backward(above) {
		l = append(l, -f)
	}
	l = append(l, -inf)
	slices.Reverse(l)
	return l
}

// notNumbers are values that are not a number, with either sign; no two of them are the same bits.
func notNumbers() []float64 {
	var l []float64
	for _, bits := range []uint64{0x7ff8000000000000, 0x7ff8000000000001, 0x7ff8000000000002, 0x7fffffffffffffff, 0xfff8000000000000, 0xfff8000000000003, 0xffffffffffffffff} {
		l = append(l, math.Float64frombits(bits))
	}
	return append(l, nan)
}

// someFloats are all of the above, and some by chance (always the same): of any bits, and of common sizes.
func someFloats() []float64 {
	l := append(ordered(), notNumbers()...)
	r := rand.New(rand.NewSource(4))
	for range 300 {
		l = append(l, math.Float64frombits(r.Uint64()), r.Float64(), r.NormFloat64(), float64(r.Intn(5)-2))
	}
	return l
}

// place is where a float stands, told by its bits: a greater number is further behind.
func place(f float64) uint64 {
	bits := math.Float64bits(f)
	switch {
	case f != f:
		return math.MaxUint64
	case bits>>63 == 1:
		return ^bits
	}
	return bits | 1<<63
}

// same tells whether two floats are the same, with their sign; which one of those that are not a number it is, is free.
func same(a, b float64) bool { return place(a) == place(b) }

func bitsOf(l []float64) []uint64 {
	var bits []uint64
	for _, f := range l {
		bits = append(bits, math.Float64bits(f))
	}
	return bits
}

func expect(t *testing.T, call string, have, want float64, args ...any) {
	t.Helper()
	if !same(have, want) {
		t.Errorf("%s%v: %v, want %v", call, args, have, want)
	}
}

// Promise 4.1: ordinary shares, none of none, something of none, and nothing on both sides.
func TestOf(t *testing.T) {
	for _, c := range []struct {
		a, b int64
		want float64
	}{
		{1, 4, 0.25}, {4, 1, 4}, {80, 100, 0.8}, {50, 200, 0.25}, {1, 3, 1.0 / 3}, {2, 3, 2.0 / 3}, {7, 7, 1}, {0, 7, 0}, {7550, 10000, 0.755},
		{-1, 4, -0.25}, {1, -4, -0.25}, {-1, -4, 0.25}, {-7, -7, 1}, {-7, 7, -1},
		{0, 0, nan}, {1, 0, inf}, {-1, 0, -inf}, {math.MaxInt64, 0, inf}, {math.MinInt64, 0, -inf},
		{0, 1, 0}, {0, -1, minus}, {0, -3, minus}, {0, math.MaxInt64, 0}, {0, math.MinInt64, minus},
		{api.MaxCents, api.MaxCents, 1}, {api.MaxCents - 1, api.MaxCents, 0.9999999999999}, {1, api.MaxCents, 1e-13}, {api.MaxCents, 1, 1e13},
		// Both are floats ahead of dividing.
		{1<<53 + 1, 1 << 53, 1}, {1 << 53, 1<<53 + 1, 1}, {1<<53 + 3, 1 << 53, 1 + 0x1p-51}, {math.MaxInt64, math.MinInt64, -1}, {math.MaxInt64, math.MaxInt64 - 1, 1}, {math.MinInt64, 1, -0x1p63}, {math.MinInt64, -1, 0x1p63}, {1, math.MinInt64, -0x1p-63},
	} {
		expect(t, "Of", Of(c.a, c.b), c.want, c.a, c.b)
	}
}

// Promise 4.1: of numbers by chance, held against floats that the library works out digit by digit.
func TestOfIsRounded(t *testing.T) {
	asFloat := func(n int64) *big.Float { return new(big.Float).SetPrec(53).SetInt64(n) }
	r := rand.New(rand.NewSource(41))
	for range 20000 {
		a, b := int64(r.Uint64())>>r.Intn(64), int64(r.Uint64())>>r.Intn(64)
		if b == 0 {
			continue
		}
		want, _ := new(big.Float).SetPrec(53).Quo(asFloat(a), asFloat(b)).Float64()
		expect(t, "Of", Of(a, b), want, a, b)
	}
}

// Promise 4.2: each of the seven kinds.
func TestKind(t *testing.T) {
	for _, c := range []struct {
		f    float64
		want int
	}{
		{-inf, 0}, {-most, 1}, {-1000000, 1}, {-1, 1}, {-0.25, 1}, {-leastNormal, 1}, {-least, 1},
		{minus, 2}, {0, 3}, {least, 4}, {leastNormal, 4}, {0.25, 4}, {1, 4}, {1000000, 4}, {most, 4}, {inf, 5}, {nan, 6}, {-nan, 6},
	} {
		if have := Kind(c.f); have != c.want {
			t.Errorf("Kind(%v): %d, want %d", c.f, have, c.want)
		}
	}
	for _, f := range notNumbers() {
		if have := Kind(f); have != 6 {
			t.Errorf("Kind of the bits %x: %d", math.Float64bits(f), have)
		}
	}
}

// Promise 4.2: every two floats beside one another, of all kinds.
func TestCmp(t *testing.T) {
	l := ordered()
	for i, a := range l {
		for j, b := range l {
			want := 0
			if i < j {
				want = -1
			} else if i > j {
				want = 1
			}
			if have := Cmp(a, b); have != want {
				t.Errorf("Cmp(%v, %v): %d, want %d", a, b, have, want)
			}
		}
		for _, n := range notNumbers() {
			if Cmp(a, n) != -1 || Cmp(n, a) != 1 {
				t.Errorf("%v and not a number: %d, %d", a, Cmp(a, n), Cmp(n, a))
			}
		}
	}
	for _, a := range notNumbers() {
		for _, b := range notNumbers() {
			if have := Cmp(a, b); have != 0 {
				t.Errorf("Cmp of two that are not a number: %d", have)
			}
		}
	}
}

// Promise 4.5: all floats stand in one order, which is that of their kinds, and within a kind that of their size.
func TestOneOrder(t *testing.T) {
	l := someFloats()
	for _, a := range l {
		for _, b := range l {
			have, want := Cmp(a, b), 0
			if place(a) < place(b) {
				want = -1
			} else if place(a) > place(b) {
				want = 1
			}
			if have != want || Cmp(b, a) != -want {
				t.Fatalf("Cmp(%v, %v): %d and %d, want %d", a, b, have, Cmp(b, a), want)
			}
			if ka, kb := Kind(a), Kind(b); ka < kb && have != -1 || ka > kb && have != 1 {
				t.Fatalf("Cmp(%v, %v): %d, of kinds %d and %d", a, b, have, ka, kb)
			}
		}
	}
}

// Promise 4.5: what stands ahead of one that stands ahead of a third stands ahead of that one, too.
func TestOrderGoesOn(t *testing.T) {
	l := append(ordered(), notNumbers()...)
	for _, a := range l {
		for _, b := range l {
			for _, c := range l {
				if Cmp(a, b) <= 0 && Cmp(b, c) <= 0 && (Cmp(a, c) > 0 || Cmp(a, c) == 0 && Cmp(a, b)+Cmp(b, c) != 0) {
					t.Fatalf("%v, %v, %v: %d, %d, %d", a, b, c, Cmp(a, b), Cmp(b, c), Cmp(a, c))
				}
			}
		}
	}
}

// Promise 4.3: Sort.
func TestSort(t *testing.T) {
	for _, c := range []struct{ l, want []float64 }{
		{nil, nil},
		{[]float64{}, nil},
		{[]float64{0.5}, []float64{0.5}},
		{[]float64{minus}, []float64{minus}},
		{[]float64{nan}, []float64{nan}},
		{[]float64{1, 1, 1}, []float64{1, 1, 1}},
		{[]float64{2, 1}, []float64{1, 2}},
		{[]float64{0, minus}, []float64{minus, 0}},
		{[]float64{0, minus, 0, minus, 0}, []float64{minus, minus, 0, 0, 0}},
		{[]float64{nan, 1, minus, 0}, []float64{minus, 0, 1, nan}},
		{[]float64{0.8, nan, 0.25}, []float64{0.25, 0.8, nan}},
		{[]float64{nan, inf, 1, 0, minus, -1, -inf}, []float64{-inf, -1, minus, 0, 1, inf, nan}},
		{[]float64{nan, -inf, nan, inf, nan, -inf}, []float64{-inf, -inf, inf, nan, nan, nan}},
		{[]float64{-1, -2, -3, -least, -most}, []float64{-most, -3, -2, -1, -least}},
		{[]float64{next(1), 1, prev(1), next(1)}, []float64{prev(1), 1, next(1), next(1)}},
	} {
		if have := Sort(c.l); !slices.EqualFunc(have, c.want, same) {
			t.Errorf("Sort(%v): %v, want %v", c.l, have, c.want)
		}
	}
}

// Promise 4.3: a long list, however it was mixed, comes out in the one order; nothing is lost.
func TestSortLong(t *testing.T) {
	want := ordered()
	r := rand.New(rand.NewSource(43))
	for range 200 {
		l := slices.Clone(want)
		r.Shuffle(len(l), func(i, j int) { l[i], l[j] = l[j], l[i] })
		if have := Sort(l); !slices.EqualFunc(have, want, same) {
			t.Fatalf("%v", have)
		}
	}
	all := someFloats()
	places := func(l []float64) []uint64 {
		var p []uint64
		for _, f := range l {
			p = append(p, place(f))
		}
		return p
	}
	in := places(all)
	slices.Sort(in)
	if !slices.Equal(places(Sort(all)), in) {
		t.Error("not those that were given, or not in their order")
	}
}

// Promise 4.3: those at one place keep the list's order; the bits of what is not a number tell them apart.
func TestSortKeepsOrder(t *testing.T) {
	var l []float64
	var want []uint64
	for i := range 500 {
		bits := 0x7ff8000000000000 | uint64(i*37%500)
		want = append(want, bits)
		l = append(l, math.Float64frombits(bits), float64(-i))
	}
	if have := bitsOf(Sort(l)[500:]); !slices.Equal(have, want) {
		t.Errorf("%x", have)
	}
}

// Rule R3: a list is not changed, nothing behind it is read or written, and what is answered is new memory.
func TestListsAreLeftAlone(t *testing.T) {
	all := []float64{3, nan, 1, minus, 2, -7, 5}
	before := bitsOf(all)
	l := all[:5]
	have := Sort(l)
	if !slices.EqualFunc(have, []float64{minus, 1, 2, 3, nan}, same) {
		t.Errorf("Sort: %v", have)
	}
	expect(t, "Mean", Mean(l), 1.5)
	for i := range have {
		have[i] = 9
	}
	_ = append(have, 9, 9)
	if !slices.Equal(bitsOf(all), before) {
		t.Errorf("changed: %v", all)
	}
	none := Sort(all[:0])
	if _ = append(none, 9); len(none) != 0 || !slices.Equal(bitsOf(all), before) {
		t.Errorf("%v, changed: %v", none, all)
	}
	again := Sort(l)
	if &again[0] == &have[0] || !slices.EqualFunc(again, []float64{minus, 1, 2, 3, nan}, same) {
		t.Errorf("Sort again: %v", again)
	}
	l[0] = 100
	if !slices.EqualFunc(again, []float64{minus, 1, 2, 3, nan}, same) {
		t.Errorf("kept: %v", again)
	}
}

// Promise 4.3: Mean.
func TestMean(t *testing.T) {
	for _, c := range []struct {
		l    []float64
		want float64
	}{
		{nil, nan}, {[]float64{}, nan},
		{[]float64{nan}, nan}, {[]float64{inf}, nan}, {[]float64{-inf}, nan}, {[]float64{inf, -inf, nan}, nan},
		{[]float64{0.25}, 0.25}, {[]float64{-3}, -3}, {[]float64{least}, least}, {[]float64{-least}, -least}, {[]float64{most}, most}, {[]float64{-most}, -most},
		{[]float64{1, 2}, 1.5}, {[]float64{0.25, 0.8}, 0.525}, {[]float64{-1, -3}, -2}, {[]float64{-1, 1}, 0}, {[]float64{1, 2, 2}, 5.0 / 3},
		// Nothing counts, with or without a sign; what has no end, and what is not a number, does not.
		{[]float64{0, 1}, 0.5}, {[]float64{minus, 1}, 0.5}, {[]float64{0, minus, 1, 1}, 0.5}, {[]float64{0, minus, -1, -1}, -0.5},
		{[]float64{nan, 1, inf, -inf, 3, nan}, 2}, {[]float64{inf, 0.5}, 0.5}, {[]float64{-inf, 0.5}, 0.5}, {[]float64{0.5, nan}, 0.5},
		// They are added to 0, which has no sign.
		{[]float64{0}, 0}, {[]float64{minus}, 0}, {[]float64{minus, minus}, 0}, {[]float64{nan, minus, inf}, 0},
		// One by one, from the first one on.
		{[]float64{1e16, 1, 1, -1e16}, 0}, {[]float64{1, 1, 1e16, -1e16}, 0.5}, {[]float64{-1e16, 1e16, 1, 1}, 0.5}, {[]float64{1, 1e16, 1, -1e16}, 0},
		// Their sum by how many they are, not each one by that.
		{[]float64{least, least}, least}, {[]float64{least, 0}, 0}, {[]float64{-least, 0}, minus},
		{[]float64{most, most}, inf}, {[]float64{-most, -most}, -inf}, {[]float64{most, most, -most, -most}, inf}, {[]float64{most, -most, most}, most / 3},
	} {
		expect(t, "Mean", Mean(c.l), c.want, c.l)
	}
	expect(t, "Mean", Mean(slices.Repeat([]float64{0.5}, 100000)), 0.5)
}

// Promise 4.4: Clamp.
func TestClamp(t *testing.T) {
	for _, c := range []struct{ f, want float64 }{
		{-inf, 0}, {-most, 0}, {-1, 0}, {-0.5, 0}, {-least, 0}, {minus, 0}, {0, 0},
		{least, least}, {leastNormal, leastNormal}, {0.25, 0.25}, {0.5, 0.5}, {prev(1), prev(1)}, {1, 1},
		{next(1), 1}, {2, 1}, {1000000, 1}, {most, 1}, {inf, 1}, {nan, nan},
	} {
		expect(t, "Clamp", Clamp(c.f), c.want, c.f)
	}
	for _, f := range notNumbers() {
		expect(t, "Clamp", Clamp(f), nan, math.Float64bits(f))
	}
}

// Promise 4.4: Points.
func TestPoints(t *testing.T) {
	type answer struct {
		n int64
		e api.Errno
	}
	wrong := answer{0, api.ErrRange}
	good := func(n int64) answer { return answer{n, api.OK} }
	for _, c := range []struct {
		f    float64
		want answer
	}{
		{0.25, good(2500)}, {0.5, good(5000)}, {0.8, good(8000)}, {1, good(10000)}, {1.0 / 3, good(3333)}, {2.0 / 3, good(6667)}, {2, good(20000)}, {0.0001, good(1)}, {0.9999, good(9999)}, {123.4567, good(1234567)},
		{next(1), good(10000)}, {prev(1), good(10000)},
		{0, good(0)}, {minus, good(0)}, {least, good(0)}, {leastNormal, good(0)},
		// A half, and a little less; 0.00015 comes to a little less by what floats round, the last of these to a half.
		{0.00004, good(0)}, {0.00005, good(1)}, {0.00006, good(1)}, {0.000149, good(1)}, {0.00015, good(1)}, {0.00025, good(3)}, {0.99994, good(9999)}, {0.99995, good(10000)},
		{0.01875, good(188)}, {0.15625, good(1563)}, {4.999999999999999e-05, good(0)}, {4.9999999999999996e-05, good(1)},
		{1000000, good(10000000000)}, {prev(1000000), good(10000000000)}, {999999.99995, good(10000000000)}, {999999.9999, good(9999999999)}, {999999.5, good(9999995000)},
		{next(1000000), wrong}, {1000001, wrong}, {1e10, wrong}, {1e19, wrong}, {most, wrong}, {inf, wrong},
		{-least, wrong}, {-0.00001, wrong}, {-0.25, wrong}, {-1, wrong}, {-1000000, wrong}, {-most, wrong}, {-inf, wrong}, {nan, wrong}, {-nan, wrong},
	} {
		n, e := Points(c.f)
		if (answer{n, e}) != c.want {
			t.Errorf("Points(%v): %d, %v; want %d, %v", c.f, n, e, c.want.n, c.want.e)
		}
	}
	for _, f := range notNumbers() {
		if n, e := Points(f); n != 0 || e != api.ErrRange {
			t.Errorf("Points of the bits %x: %d, %v", math.Float64bits(f), n, e)
		}
	}
}

// Promise 4.4: of floats by chance, and about each half, both steps rounded as the library does, digit by digit.
func TestPointsAreRounded(t *testing.T) {
	number := func(f float64) *big.Float { return new(big.Float).SetPrec(53).SetFloat64(f) }
	check := func(f float64) {
		t.Helper()
		product := number(0)
		product.Mul(number(f), number(10000))
		want, _ := product.Add(product, number(0.5)).Int64()
		if n, e := Points(f); n != want || e != api.OK {
			t.Fatalf("Points(%v): %d, %v; want %d", f, n, e, want)
		}
	}
	r := rand.New(rand.NewSource(44))
	for i := range 20000 {
		half := (float64(i) + 0.5) / 10000
		for _, f := range []float64{prev(half), half, next(half), float64(i) / 10000, r.Float64(), r.Float64() * 1000000, math.Ldexp(r.Float64(), -r.Intn(60))} {
			check(f)
		}
	}
}

// Promise 4.5: a part's share lies between 0 and 1, of whatever is above nothing.
func TestPartsShare(t *testing.T) {
	check := func(part, all int64) {
		t.Helper()
		f := Of(part, all)
		if !(0 <= f && f <= 1) || Kind(f) < 3 || Kind(f) > 4 || !same(Clamp(f), f) {
			t.Errorf("Of(%d, %d): %v", part, all, f)
		}
		if n, e := Points(f); n < 0 || n > 10000 || e != api.OK {
			t.Errorf("Points(%v): %d, %v", f, n, e)
		}
	}
	for all := range int64(200) {
		for part := range all + 2 {
			check(part, all+1)
		}
	}
	for _, all := range []int64{api.MaxCents, api.MaxCents - 1, 1 << 53, 1<<53 + 1, math.MaxInt64, math.MaxInt64 - 1} {
		for _, part := range []int64{0, 1, all / 3, all / 2, all - 2, all - 1, all} {
			check(part, all)
		}
	}
	r := rand.New(rand.NewSource(45))
	for range 20000 {
		all := 1 + r.Int63()>>r.Intn(63)
		check(r.Int63n(all), all)
	}
}

// Promise P0: no float and no number makes a call panic.
func TestAllCallsEnd(t *testing.T) {
	l := someFloats()
	for _, f := range l {
		if c := Clamp(f); c == c && !(0 <= c && c <= 1) {
			t.Errorf("Clamp(%v): %v", f, c)
		}
		if n, e := Points(f); e != api.OK && n != 0 {
			t.Errorf("Points(%v): %d beside %v", f, n, e)
		}
		if k := Kind(f); k < 0 || k > 6 {
			t.Errorf("Kind(%v): %d", f, k)
		}
	}
	edges := []int64{math.MinInt64, math.MinInt64 + 1, -api.MaxCents, -1, 0, 1, api.MaxCents, math.MaxInt64}
	for _, a := range edges {
		for _, b := range edges {
			Of(a, b)
		}
	}
	Mean(l)
}
