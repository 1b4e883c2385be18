package cents

import (
	"math"
	"math/big"
	"slices"
	"testing"

	"leechbook/api"
)

const top = api.MaxCents

// edges are numbers at which a rule may turn.
var edges = []int64{
	math.MinInt64, math.MinInt64 + 1, -top - 1, -top, -10001, -2, -1,
	0, 1, 2, 3, 7, 99, 100, 199, 1001, 9999, 10000, 10001,
	top/2 - 1, top / 2, top/2 + 1, top - 1, top, top + 1, 2 * top, 1 << 60, 1 << 62, math.MaxInt64 - 1, math.MaxInt64,
}

// answer is what a call answered.
type answer struct {
	n int64
	e api.Errno
}

func got(n int64, e api.Errno) answer { return answer{n, e} }

// expect also holds every error against R2: beside it stands 0.
func expect(t *testing.T, call string, have, want answer, args ...any) {
	t.Helper()
	if have != want {
		t.Errorf("%s%v: %d, %v; want %d, %v", call, args, have.n, have.e, want.n, want.e)
	}
	if have.e != api.OK && have.n != 0 {
		t.Errorf("%s%v: %d beside %v", call, args, have.n, have.e)
	}
}

// Promise 1.1.
func TestGood(t *testing.T) {
	for _, c := range []struct {
		a    int64
		want bool
	}{
		{0, true}, {1, true}, {7550, true}, {9999999999999, true}, {10000000000000, true},
		{10000000000001, false}, {-1, false}, {-10000000000000, false},
		{math.MaxInt64, false}, {math.MinInt64, false},
	} {
		if Good(c.a) != c.want {
			t.Errorf("Good(%d): %v", c.a, !c.want)
		}
	}
}

// Promise 1.2: Add.
func TestAdd(t *testing.T) {
	for _, c := range []struct {
		a, b int64
		want answer
	}{
		{0, 0, answer{0, api.OK}},
		{5000, 510, answer{5510, api.OK}},
		{top, 0, answer{top, api.OK}},
		{0, top, answer{top, api.OK}},
		{top - 1, 1, answer{top, api.OK}},
		{top / 2, top / 2, answer{top, api.OK}},
		{top, 1, answer{0, api.ErrOverflow}},
		{1, top, answer{0, api.ErrOverflow}},
		{top, top, answer{0, api.ErrOverflow}},
		{-1, 1, answer{0, api.ErrArg}},
		{1, -1, answer{0, api.ErrArg}},
		{top + 1, 0, answer{0, api.ErrArg}},
		{0, top + 1, answer{0, api.ErrArg}},
		{top + 1, -1, answer{0, api.ErrArg}},
		{math.MaxInt64, math.MaxInt64, answer{0, api.ErrArg}},
		{math.MinInt64, math.MinInt64, answer{0, api.ErrArg}},
	} {
		expect(t, "Add", got(Add(c.a, c.b)), c.want, c.a, c.b)
	}
}

// Promise 1.2: Sub.
func TestSub(t *testing.T) {
	for _, c := range []struct {
		a, b int64
		want answer
	}{
		{0, 0, answer{0, api.OK}},
		{10000, 2450, answer{7550, api.OK}},
		{3, 2, answer{1, api.OK}},
		{2, 2, answer{0, api.OK}},
		{top, 0, answer{top, api.OK}},
		{top, top, answer{0, api.OK}},
		{2, 3, answer{0, api.ErrRange}},
		{0, 1, answer{0, api.ErrRange}},
		{0, top, answer{0, api.ErrRange}},
		{-1, 0, answer{0, api.ErrArg}},
		{0, -1, answer{0, api.ErrArg}},
		{-1, -1, answer{0, api.ErrArg}},
		{top + 1, top + 1, answer{0, api.ErrArg}},
		{0, top + 1, answer{0, api.ErrArg}},
		{top + 1, 1, answer{0, api.ErrArg}},
		{0, math.MinInt64, answer{0, api.ErrArg}},
	} {
		expect(t, "Sub", got(Sub(c.a, c.b)), c.want, c.a, c.b)
	}
}

// Promise 1.2: Sum.
func TestSum(t *testing.T) {
	for _, c := range []struct {
		l    []int64
		want answer
	}{
		{nil, answer{0, api.OK}},
		{[]int64{}, answer{0, api.OK}},
		{[]int64{0}, answer{0, api.OK}},
		{[]int64{top}, answer{top, api.OK}},
		{[]int64{5000, 510, 2040, 2450}, answer{10000, api.OK}},
		{[]int64{0, top - 1, 0, 1, 0}, answer{top, api.OK}},
		{[]int64{top, 1}, answer{0, api.ErrOverflow}},
		{[]int64{1, top, 0}, answer{0, api.ErrOverflow}},
		{[]int64{top, top, top}, answer{0, api.ErrOverflow}},
		{[]int64{-1}, answer{0, api.ErrArg}},
		{[]int64{top + 1}, answer{0, api.ErrArg}},
		{[]int64{-1, 1}, answer{0, api.ErrArg}},
		{[]int64{top + 1, -1}, answer{0, api.ErrArg}},
		{[]int64{top, 1, -1}, answer{0, api.ErrArg}},
		{[]int64{top, top, top + 1}, answer{0, api.ErrArg}},
		{[]int64{math.MaxInt64, math.MaxInt64, 2}, answer{0, api.ErrArg}},
	} {
		expect(t, "Sum", got(Sum(c.l)), c.want, c.l)
	}
}

// TestSumGoesNotRound: so many amounts that 64 bits would come round to about nothing.
func TestSumGoesNotRound(t *testing.T) {
	l := slices.Repeat([]int64{top}, 1844675)
	if u := uint64(len(l)) * top; u > top {
		t.Fatalf("%d does not come round", u)
	}
	expect(t, "Sum", got(Sum(l)), answer{0, api.ErrOverflow}, len(l))
	expect(t, "Sum", got(Sum(append(l, -1))), answer{0, api.ErrArg}, len(l)+1)
}

// TestSumLeavesListAlone: rule R3.
func TestSumLeavesListAlone(t *testing.T) {
	all := []int64{1, 2, 3, -5, top}
	expect(t, "Sum", got(Sum(all[:3])), answer{6, api.OK}, all[:3])
	if !slices.Equal(all, []int64{1, 2, 3, -5, top}) {
		t.Errorf("changed: %v", all)
	}
}

// Promise 1.3.
func TestScale(t *testing.T) {
	for _, c := range []struct {
		a, n, d int64
		want    answer
	}{
		{1001, 3, 2, answer{1501, api.OK}},
		{7550, 2, 1, answer{15100, api.OK}},
		{2, 1, 3, answer{0, api.OK}},
		{3, 1, 3, answer{1, api.OK}},
		{5, 1, 3, answer{1, api.OK}},
		{0, 0, 1, answer{0, api.OK}},
		{0, math.MaxInt64, 1, answer{0, api.OK}},
		{top, 0, 1, answer{0, api.OK}},
		{top, 0, math.MaxInt64, answer{0, api.OK}},
		{top, 1, 1, answer{top, api.OK}},
		{1, top, 1, answer{top, api.OK}},
		{top, 1, math.MaxInt64, answer{0, api.OK}},
		{1, math.MaxInt64, math.MaxInt64, answer{1, api.OK}},
		{top, 1 << 62, 1 << 62, answer{top, api.OK}},
		{top, math.MaxInt64, math.MaxInt64, answer{top, api.OK}},
		{top, math.MaxInt64 - 1, math.MaxInt64, answer{top - 1, api.OK}},
		{top - 1, 1 << 62, 1 << 61, answer{0, api.ErrOverflow}},
		{top / 2, 1 << 62, 1 << 61, answer{top, api.OK}},
		{1, 2*top + 1, 2, answer{top, api.OK}},
		{1, 2*top + 2, 2, answer{0, api.ErrOverflow}},
		{1, top + 1, 1, answer{0, api.ErrOverflow}},
		{top, 2, 1, answer{0, api.ErrOverflow}},
		{top, math.MaxInt64, math.MaxInt64 - 1, answer{top, api.OK}},
		{top, math.MaxInt64, 1, answer{0, api.ErrOverflow}},
		{1, math.MaxInt64, 1, answer{0, api.ErrOverflow}},
		{-1, 1, 1, answer{0, api.ErrArg}},
		{top + 1, 1, 1, answer{0, api.ErrArg}},
		{top + 1, 1, 2, answer{0, api.ErrArg}},
		{top + 1, math.MaxInt64, 1, answer{0, api.ErrArg}},
		{1, -1, 1, answer{0, api.ErrArg}},
		{0, -1, 1, answer{0, api.ErrArg}},
		{1, math.MinInt64, 1, answer{0, api.ErrArg}},
		{1, 1, 0, answer{0, api.ErrArg}},
		{0, 0, 0, answer{0, api.ErrArg}},
		{1, 1, -1, answer{0, api.ErrArg}},
		{-1, -1, -1, answer{0, api.ErrArg}},
		{-1, 1, -1, answer{0, api.ErrArg}},
		{1, -1, -1, answer{0, api.ErrArg}},
		{top, math.MaxInt64, 0, answer{0, api.ErrArg}},
		{1, 1, math.MinInt64, answer{0, api.ErrArg}},
	} {
		expect(t, "Scale", got(Scale(c.a, c.n, c.d)), c.want, c.a, c.n, c.d)
	}
}

// TestScaleWithin128Bits: products of which 64 bits would show a lesser one, that looks like an amount.
func TestScaleWithin128Bits(t *testing.T) {
	expect(t, "Scale", got(Scale(8, 1<<61, 1)), answer{0, api.ErrOverflow}, 8)
	expect(t, "Scale", got(Scale(8, 1<<61+1, 1)), answer{0, api.ErrOverflow}, 8)
	expect(t, "Scale", got(Scale(8, 1<<61, 1<<60)), answer{16, api.OK}, 8)
	expect(t, "Scale", got(Scale(4, 1<<61, 1<<61)), answer{4, api.OK}, 4)
	expect(t, "Scale", got(Scale(1<<43, 1<<40, 1<<41)), answer{1 << 42, api.OK}, 1<<43)
}

// Promise 1.4.
func TestPart(t *testing.T) {
	for _, c := range []struct {
		a, points int64
		want      answer
	}{
		{199, 5000, answer{99, api.OK}},
		{2550, 2000, answer{510, api.OK}},
		{9999, 1, answer{0, api.OK}},
		{10000, 1, answer{1, api.OK}},
		{1, 9999, answer{0, api.OK}},
		{7550, 0, answer{0, api.OK}},
		{7550, 10000, answer{7550, api.OK}},
		{0, 0, answer{0, api.OK}},
		{0, 10000, answer{0, api.OK}},
		{top, 0, answer{0, api.OK}},
		{top, 10000, answer{top, api.OK}},
		{top, 9999, answer{9999000000000, api.OK}},
		{7550, -1, answer{0, api.ErrArg}},
		{7550, 10001, answer{0, api.ErrArg}},
		{0, -1, answer{0, api.ErrArg}},
		{0, 10001, answer{0, api.ErrArg}},
		{top, 10001, answer{0, api.ErrArg}},
		{1, math.MaxInt64, answer{0, api.ErrArg}},
		{1, math.MinInt64, answer{0, api.ErrArg}},
		{-1, 0, answer{0, api.ErrArg}},
		{-1, 10000, answer{0, api.ErrArg}},
		{top + 1, 0, answer{0, api.ErrArg}},
		{top + 1, 5000, answer{0, api.ErrArg}},
		{-1, 10001, answer{0, api.ErrArg}},
	} {
		expect(t, "Part", got(Part(c.a, c.points)), c.want, c.a, c.points)
	}
}

// wantScale is promise 1.3 in numbers without a bound.
func wantScale(a, n, d int64) answer {
	if a < 0 || a > top || n < 0 || d < 1 {
		return answer{0, api.ErrArg}
	}
	q := new(big.Int).Mul(big.NewInt(a), big.NewInt(n))
	q.Div(q, big.NewInt(d))
	if q.Cmp(big.NewInt(top)) > 0 {
		return answer{0, api.ErrOverflow}
	}
	return answer{q.Int64(), api.OK}
}

// TestEdgesAgainstEachOther: all calls at all edges, against the promises' words in numbers without a bound; none panics (P0).
func TestEdgesAgainstEachOther(t *testing.T) {
	for _, a := range edges {
		if Good(a) != (a >= 0 && a <= top) {
			t.Errorf("Good(%d)", a)
		}
		for _, b := range edges {
			sum, diff := answer{0, api.ErrArg}, answer{0, api.ErrArg}
			if a >= 0 && a <= top && b >= 0 && b <= top {
				sum, diff = answer{a + b, api.OK}, answer{a - b, api.OK}
				if a+b > top {
					sum = answer{0, api.ErrOverflow}
				}
				if a < b {
					diff = answer{0, api.ErrRange}
				}
			}
			expect(t, "Add", got(Add(a, b)), sum, a, b)
			expect(t, "Sum", got(Sum([]int64{a, b})), sum, a, b)
			expect(t, "Sub", got(Sub(a, b)), diff, a, b)
			part := wantScale(a, b, 10000)
			if b > 10000 {
				part = answer{0, api.ErrArg}
			}
			expect(t, "Part", got(Part(a, b)), part, a, b)
			for _, d := range edges {
				expect(t, "Scale", got(Scale(a, b, d)), wantScale(a, b, d), a, b, d)
			}
		}
	}
}

// Promise 1.5: what is cut off is less than a cent.
func TestCutOffIsLessThanACent(t *testing.T) {
	for _, a := range edges {
		for _, n := range edges {
			for _, d := range edges {
				q, e := Scale(a, n, d)
				if e != api.OK {
					continue
				}
				rest := new(big.Int).Mul(big.NewInt(a), big.NewInt(n))
				rest.Sub(rest, new(big.Int).Mul(big.NewInt(q), big.NewInt(d)))
				if rest.Sign() < 0 || rest.Cmp(big.NewInt(d)) >= 0 {
					t.Errorf("Scale(%d, %d, %d): %d leaves %v", a, n, d, q, rest)
				}
			}
		}
	}
}

// Promise 1.5: of more comes no less, be it a greater amount, more points or a greater n.
func TestOfMoreComesNoLess(t *testing.T) {
	for points := int64(0); points <= 10000; points += 37 {
		last := int64(0)
		for a := range int64(400) {
			q, e := Part(a, points)
			if e != api.OK || q < last || q > a {
				t.Fatalf("Part(%d, %d): %d, %v behind %d", a, points, q, e, last)
			}
			last = q
		}
	}
	last := int64(0)
	for points := range int64(10001) {
		q, e := Part(7551, points)
		if e != api.OK || q < last {
			t.Fatalf("Part(7551, %d): %d, %v behind %d", points, q, e, last)
		}
		last = q
	}
	last = 0
	for n := range int64(1000) {
		q, e := Scale(top-5, n<<32, 1000<<32)
		if e != api.OK || q < last {
			t.Fatalf("Scale(%d, %d, ..): %d, %v behind %d", int64(top-5), n<<32, q, e, last)
		}
		last = q
	}
}
