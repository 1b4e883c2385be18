package claim

import (
	"math"
	"math/rand"
	"reflect"
	"regexp"
	"strings"
	"testing"

	"leechbook/api"
)

func line() api.Line {
	return api.Line{Proc: "99213", Mods: []string{"25", "59"}, Date: 20240301, Units: 2, Billed: 100, Prior: 40}
}

func original(lines ...api.Line) api.Claim {
	return api.Claim{Id: "C1", Member: "M1", Family: "F1", Does: api.Original, Lines: lines}
}

func expectLine(t *testing.T, want api.Errno, change func(*api.Line)) {
	t.Helper()
	l := line()
	change(&l)
	if e := Line(l); e != want {
		t.Errorf("Line(%v): %v; want %v", l, e, want)
	}
}

func expectCheck(t *testing.T, want api.Errno, change func(*api.Claim)) {
	t.Helper()
	c := original(line(), line())
	change(&c)
	if e := Check(c); e != want {
		t.Errorf("Check(%.300v): %v; want %v", c, e, want)
	}
}

func times(n int, l api.Line) []api.Line {
	made := make([]api.Line, n)
	for i := range made {
		made[i] = l
	}
	return made
}

// Promise 7.1: letters from A to Z and digits.
func TestCodeSigns(t *testing.T) {
	const letters = "ABCDEFGHIJKLMNOPQRSTUVWXYZ0123456789"
	for b := range 256 {
		want := strings.IndexByte(letters, byte(b)) >= 0
		for _, s := range []string{string([]byte{byte(b)}), string([]byte{byte(b), 'A', '0'}), string([]byte{'A', byte(b), '0'}), string([]byte{'A', '0', byte(b)})} {
			if have := Code(s, 1, 3); have != want {
				t.Errorf("Code(%q, 1, 3): %v", s, have)
			}
		}
	}
	for _, s := range []string{"É", "A1", "A B", "ａ", "Ⅷ", "٣", " A", "A ", "A\x00"} {
		if have, want := Code(s, 1, 12), s == "A1"; have != want {
			t.Errorf("Code(%q, 1, 12): %v", s, have)
		}
	}
}

// Promise 7.1: as many as asked for.
func TestCodeLength(t *testing.T) {
	for n := range 16 {
		s := "Z9A0BCDEFGHI1234"[:n]
		for from := -2; from < 17; from++ {
			for to := -2; to < 17; to++ {
				if have, want := Code(s, from, to), from <= n && n <= to; have != want {
					t.Errorf("Code(%q, %d, %d): %v", s, from, to, have)
				}
			}
		}
	}
	if !Code("", 0, 0) || !Code("A", math.MinInt, math.MaxInt) || Code("A", math.MaxInt, math.MinInt) || Code("A", 1, math.MinInt) || Code("A", math.MaxInt, math.MaxInt) {
		t.Error("codes at the edges of int")
	}
}

// Promise 7.2: a service that may be, at the edges.
func TestLineThatMayBe(t *testing.T) {
	for _, change := range []func(*api.Line){
		func(*api.Line) {},
		func(l *api.Line) { l.Mods = nil },
		func(l *api.Line) { l.Mods = []string{} },
		func(l *api.Line) { l.Mods = []string{"AA", "AA", "00", "Z9"} },
		func(l *api.Line) { l.Proc = "ABCDE" },
		func(l *api.Line) { l.Proc = "00000" },
		func(l *api.Line) { l.Date = 10101 },
		func(l *api.Line) { l.Date = 99991231 },
		func(l *api.Line) { l.Date = 20000229 },
		func(l *api.Line) { l.Units = 1 },
		func(l *api.Line) { l.Units = 9999 },
		func(l *api.Line) { l.Billed, l.Prior = 0, 0 },
		func(l *api.Line) { l.Prior = 0 },
		func(l *api.Line) { l.Prior = 100 },
		func(l *api.Line) { l.Billed, l.Prior = 10000000000000, 10000000000000 },
	} {
		expectLine(t, api.OK, change)
	}
}

// Promise 7.2: ErrCode.
func TestLineErrCode(t *testing.T) {
	for _, proc := range []string{"", "9921", "992133", "9921 ", "9921a", "9921-", "992É"} {
		expectLine(t, api.ErrCode, func(l *api.Line) { l.Proc = proc })
	}
	for _, mods := range [][]string{{""}, {"2"}, {"255"}, {"a5"}, {"25", ""}, {"25", "59", "TC", "2"}, {"5 ", "25"}, {"É"}, {"25", "59", "TC", "26", "AA"}} {
		expectLine(t, api.ErrCode, func(l *api.Line) { l.Mods = mods })
	}
}

// Promise 7.2: ErrDate, ErrRange, ErrMoney.
func TestLineOtherErrors(t *testing.T) {
	for _, day := range []int{0, -20240301, 19000229, 20240230, 20241301, 20240001, 20240300, 100000101, 1231, math.MaxInt, math.MinInt} {
		expectLine(t, api.ErrDate, func(l *api.Line) { l.Date = day })
	}
	for _, units := range []int{0, -1, 10000, math.MaxInt, math.MinInt} {
		expectLine(t, api.ErrRange, func(l *api.Line) { l.Units = units })
	}
	for _, pair := range [][2]int64{{-1, 0}, {-1, -1}, {0, -1}, {100, -1}, {100, 101}, {0, 1}, {10000000000001, 0}, {10000000000000, 10000000000001}, {10000000000001, 10000000000001}, {math.MaxInt64, math.MaxInt64}, {math.MinInt64, 0}, {100, math.MinInt64}, {math.MinInt64, math.MinInt64}} {
		expectLine(t, api.ErrMoney, func(l *api.Line) { l.Billed, l.Prior = pair[0], pair[1] })
	}
}

// Promise 7.2 with R6: of several errors the one that is named first.
func TestLineOrder(t *testing.T) {
	wrong := []struct {
		e  api.Errno
		do func(*api.Line)
	}{
		{api.ErrCode, func(l *api.Line) { l.Mods = []string{"25", "2"} }},
		{api.ErrDate, func(l *api.Line) { l.Date = 0 }},
		{api.ErrRange, func(l *api.Line) { l.Units = 0 }},
		{api.ErrMoney, func(l *api.Line) { l.Prior = -1 }},
	}
	for set := range 1 << len(wrong) {
		l, want := line(), api.OK
		for i := len(wrong) - 1; i >= 0; i-- {
			if set>>i&1 == 1 {
				wrong[i].do(&l)
				want = wrong[i].e
			}
		}
		if e := Line(l); e != want {
			t.Errorf("Line(%v): %v; want %v", l, e, want)
		}
	}
}

// Promise 7.3: all Billed together.
func TestTotal(t *testing.T) {
	const most = 10000000000000
	for _, c := range []struct {
		billed []int64
		want   int64
		e      api.Errno
	}{
		{nil, 0, api.OK},
		{[]int64{}, 0, api.OK},
		{[]int64{0}, 0, api.OK},
		{[]int64{100, 1, 23}, 124, api.OK},
		{[]int64{most}, most, api.OK},
		{[]int64{most, 0, 0}, most, api.OK},
		{[]int64{most - 7, 3, 4}, most, api.OK},
		{[]int64{most - 7, 4, 4}, 0, api.ErrMoney},
		{[]int64{most, 1}, 0, api.ErrMoney},
		{[]int64{most + 1}, 0, api.ErrMoney},
		{[]int64{-1}, 0, api.ErrMoney},
		{[]int64{5, -1}, 0, api.ErrMoney},
		{[]int64{-1, 5}, 0, api.ErrMoney},
		{[]int64{most, most, -most}, 0, api.ErrMoney},
		{[]int64{math.MaxInt64, math.MaxInt64, 2}, 0, api.ErrMoney},
		{[]int64{math.MinInt64, math.MinInt64}, 0, api.ErrMoney},
	} {
		claim := api.Claim{}
		for _, b := range c.billed {
			// Of a claim just Billed is asked.
			claim.Lines = append(claim.Lines, api.Line{Billed: b, Prior: -5, Units: -7})
		}
		if n, e := Total(claim); n != c.want || e != c.e {
			t.Errorf("Total of %v: %d, %v; want %d, %v", c.billed, n, e, c.want, c.e)
		}
	}
	if n, e := Total(api.Claim{Lines: times(5000, api.Line{Billed: 2000000000})}); n != 10000000000000 || e != api.OK {
		t.Errorf("Total of 5000 services: %d, %v", n, e)
	}
}

// Promise 7.4: claims that may be, at the edges.
func TestClaimThatMayBe(t *testing.T) {
	for _, change := range []func(*api.Claim){
		func(*api.Claim) {},
		func(c *api.Claim) { c.Id, c.Member, c.Family = "A", "0", "Z" },
		func(c *api.Claim) { c.Id, c.Member, c.Family = "ABCDEFGHIJKL", "123456789012", "Z0Z0Z0Z0Z0Z0" },
		func(c *api.Claim) { c.Net = 1 },
		func(c *api.Claim) { c.Does, c.Ref = api.Replace, "C" },
		func(c *api.Claim) { c.Does, c.Ref = api.Replace, "123456789012" },
		func(c *api.Claim) { c.Does, c.Ref = api.Replace, c.Id },
		func(c *api.Claim) { c.Does, c.Ref, c.Lines = api.Void, "C0", nil },
		func(c *api.Claim) { c.Does, c.Ref, c.Lines = api.Void, "C0", []api.Line{} },
		func(c *api.Claim) { c.Lines = c.Lines[:1] },
		func(c *api.Claim) { c.Lines = times(999, line()) },
		func(c *api.Claim) { c.Lines[0].Date, c.Lines[1].Date = 20240101, 20241231 },
		func(c *api.Claim) { c.Lines[0].Billed, c.Lines[1].Billed = 9999999999900, 100 },
		func(c *api.Claim) { c.Lines[0] = api.Line{Proc: "A0000", Date: 20240229, Units: 1} },
	} {
		expectCheck(t, api.OK, change)
	}
}

// Promise 7.4: codes of 1 to 12.
func TestClaimNames(t *testing.T) {
	for _, s := range []string{"", "1234567890123", "c1", "C 1", "C1 ", "C-1", "É"} {
		expectCheck(t, api.ErrCode, func(c *api.Claim) { c.Id = s })
		expectCheck(t, api.ErrCode, func(c *api.Claim) { c.Member = s })
		expectCheck(t, api.ErrCode, func(c *api.Claim) { c.Family = s })
		expectCheck(t, api.ErrCode, func(c *api.Claim) { c.Does, c.Ref = api.Replace, s })
		expectCheck(t, api.ErrCode, func(c *api.Claim) { c.Does, c.Ref, c.Lines = api.Void, s, nil })
		expectCheck(t, api.ErrCode, func(c *api.Claim) { c.Does, c.Ref = 3, s })
	}
}

// Promise 7.4: an Original has no Ref, Net and Does are of those that are named.
func TestClaimNetAndDoes(t *testing.T) {
	for _, ref := range []string{"C0", " ", "-"} {
		expectCheck(t, api.ErrCode, func(c *api.Claim) { c.Ref = ref })
	}
	for _, net := range []int{-1, 2, 256, math.MaxInt, math.MinInt} {
		expectCheck(t, api.ErrRange, func(c *api.Claim) { c.Net = net })
	}
	for does := -3; does < 12; does++ {
		if does == api.Original || does == api.Replace || does == api.Void {
			continue
		}
		expectCheck(t, api.ErrCode, func(c *api.Claim) { c.Does = does })
		expectCheck(t, api.ErrRange, func(c *api.Claim) { c.Does, c.Ref = does, "C0" })
		expectCheck(t, api.ErrRange, func(c *api.Claim) { c.Does, c.Ref, c.Lines = does, "C0", nil })
	}
	for _, does := range []int{257, math.MaxInt, math.MinInt} {
		expectCheck(t, api.ErrRange, func(c *api.Claim) { c.Does, c.Ref = does, "C0" })
	}
}

// Promise 7.4: how many services there may be.
func TestClaimCounts(t *testing.T) {
	expectCheck(t, api.ErrLimit, func(c *api.Claim) { c.Lines = times(1000, line()) })
	expectCheck(t, api.ErrLimit, func(c *api.Claim) { c.Does, c.Ref, c.Lines = api.Void, "C0", times(1000, line()) })
	expectCheck(t, api.ErrLimit, func(c *api.Claim) { c.Lines = make([]api.Line, 1000) })
	expectCheck(t, api.ErrCount, func(c *api.Claim) { c.Does, c.Ref = api.Void, "C0" })
	expectCheck(t, api.ErrCount, func(c *api.Claim) { c.Does, c.Ref, c.Lines = api.Void, "C0", make([]api.Line, 999) })
	expectCheck(t, api.ErrCount, func(c *api.Claim) { c.Lines = nil })
	expectCheck(t, api.ErrCount, func(c *api.Claim) { c.Lines = []api.Line{} })
	expectCheck(t, api.ErrCount, func(c *api.Claim) { c.Does, c.Ref, c.Lines = api.Replace, "C0", nil })
}

// Promise 7.4: service by service its error, or another year's.
func TestClaimLines(t *testing.T) {
	expectCheck(t, api.ErrCode, func(c *api.Claim) { c.Lines[1].Proc = "" })
	expectCheck(t, api.ErrDate, func(c *api.Claim) { c.Lines[1].Date = 20230301 })
	expectCheck(t, api.ErrDate, func(c *api.Claim) { c.Lines[1].Date = 20250101 })
	expectCheck(t, api.ErrDate, func(c *api.Claim) { c.Lines[1].Date = 0 })
	expectCheck(t, api.ErrDate, func(c *api.Claim) { c.Lines[0].Date = 0 })
	expectCheck(t, api.ErrDate, func(c *api.Claim) { c.Lines[0].Date, c.Lines[1].Date = 0, 0 })
	expectCheck(t, api.ErrRange, func(c *api.Claim) { c.Lines[1].Units = 0 })
	expectCheck(t, api.ErrMoney, func(c *api.Claim) { c.Lines[1].Prior = -1 })
	// Of one service its own error stands ahead of the year; of two, the first one's counts.
	expectCheck(t, api.ErrRange, func(c *api.Claim) { c.Lines[1].Date, c.Lines[1].Units = 20230301, 0 })
	expectCheck(t, api.ErrMoney, func(c *api.Claim) { c.Lines[1].Date, c.Lines[1].Billed = 20230301, -1 })
	expectCheck(t, api.ErrMoney, func(c *api.Claim) { c.Lines[0].Prior, c.Lines[1].Proc = 101, "" })
	expectCheck(t, api.ErrDate, func(c *api.Claim) {
		c.Lines = times(4, line())
		c.Lines[2].Date, c.Lines[3].Proc = 20230301, ""
	})
	expectCheck(t, api.ErrCode, func(c *api.Claim) {
		c.Lines = times(4, line())
		c.Lines[2].Proc, c.Lines[3].Date = "", 20230301
	})
	// The last one of as many as there may be is asked, too.
	expectCheck(t, api.ErrDate, func(c *api.Claim) {
		c.Lines = times(999, line())
		c.Lines[998].Date = 20251231
	})
}

// Promise 7.4: Total's error at last.
func TestClaimTotal(t *testing.T) {
	expectCheck(t, api.ErrMoney, func(c *api.Claim) { c.Lines[0].Billed, c.Lines[1].Billed = 9999999999901, 100 })
	expectCheck(t, api.ErrMoney, func(c *api.Claim) { c.Lines[0].Billed, c.Lines[1].Billed = api.MaxCents, api.MaxCents })
	expectCheck(t, api.ErrDate, func(c *api.Claim) {
		c.Lines = times(3, line())
		c.Lines[0].Billed, c.Lines[1].Billed, c.Lines[2].Date = api.MaxCents, api.MaxCents, 20230301
	})
	expectCheck(t, api.ErrCode, func(c *api.Claim) {
		c.Lines = times(3, line())
		c.Lines[0].Billed, c.Lines[1].Billed, c.Lines[2].Proc = api.MaxCents, api.MaxCents, ""
	})
}

// Promise 7.4 with R6: of several errors the one that is named first.
func TestClaimOrder(t *testing.T) {
	wrong := []struct {
		e  api.Errno
		do func(*api.Claim)
	}{
		{api.ErrCode, func(c *api.Claim) { c.Family = "" }},
		{api.ErrRange, func(c *api.Claim) { c.Net = 2 }},
		{api.ErrCode, func(c *api.Claim) { c.Does, c.Ref = 2, "-" }},
		{api.ErrLimit, func(c *api.Claim) { c.Lines = times(1000, c.Lines[0]) }},
		{api.ErrDate, func(c *api.Claim) { c.Lines[0].Date = 1 }},
		{api.ErrMoney, func(c *api.Claim) { c.Lines[0].Billed, c.Lines[1].Billed = api.MaxCents, 1000 }},
	}
	for set := range 1 << len(wrong) {
		c, want := original(line(), line()), api.OK
		for i := len(wrong) - 1; i >= 0; i-- {
			if set>>i&1 == 1 {
				wrong[i].do(&c)
				want = wrong[i].e
			}
		}
		if e := Check(c); e != want {
			t.Errorf("Check, wrong by %b: %v; want %v", set, e, want)
		}
	}
	expectCheck(t, api.ErrRange, func(c *api.Claim) { c.Does, c.Ref, c.Lines = 9, "C0", make([]api.Line, 1000) })
	expectCheck(t, api.ErrRange, func(c *api.Claim) { c.Net, c.Ref = 2, "C0" })
}

// Promise 7.5: batches.
func TestBatch(t *testing.T) {
	good := original(line())
	many := func(n int) []api.Claim {
		l := make([]api.Claim, n)
		for i := range l {
			l[i] = good
		}
		return l
	}
	noNet, noName, noLine := good, good, good
	noNet.Net, noName.Id, noLine.Lines = 2, "", nil
	for _, c := range []struct {
		number int
		claims []api.Claim
		want   api.Errno
	}{
		{0, nil, api.OK},
		{0, []api.Claim{}, api.OK},
		{999999999, many(1), api.OK},
		{7, many(256), api.OK},
		{-1, nil, api.ErrRange},
		{1000000000, nil, api.ErrRange},
		{math.MaxInt, many(1), api.ErrRange},
		{math.MinInt, many(1), api.ErrRange},
		{7, many(257), api.ErrLimit},
		{7, make([]api.Claim, 257), api.ErrLimit},
		{-1, make([]api.Claim, 257), api.ErrRange},
		{-1, []api.Claim{noName}, api.ErrRange},
		{7, make([]api.Claim, 256), api.ErrCode},
		{7, []api.Claim{noNet}, api.ErrRange},
		{7, []api.Claim{noNet, noName}, api.ErrRange},
		{7, []api.Claim{noName, noNet}, api.ErrCode},
		{7, []api.Claim{good, noLine, noName}, api.ErrCount},
		{7, append(many(255), noLine), api.ErrCount},
	} {
		if e := Batch(api.Batch{Number: c.number, Claims: c.claims}); e != c.want {
			t.Errorf("Batch %d of %d claims: %v; want %v", c.number, len(c.claims), e, c.want)
		}
	}
}

// spare is a claim whose lists have more memory than they show.
func spare() api.Claim {
	mods := []string{"25", "59", "XX"}
	l := line()
	l.Mods = mods[:2]
	lines := []api.Line{l, line(), {Proc: "behind", Mods: []string{"-"}}}
	c := original(lines[:2]...)
	c.Lines = lines[:2]
	c.Net, c.Does, c.Ref = 1, api.Replace, "C0"
	return c
}

// Promise 7.6 with R3: Copy is the same claim, and shares no memory with it.
func TestCopy(t *testing.T) {
	c := spare()
	d := Copy(c)
	if !reflect.DeepEqual(c, d) || !reflect.DeepEqual(c, spare()) {
		t.Fatalf("Copy(%v): %v", c, d)
	}
	for i := range d.Lines {
		d.Lines[i].Mods[0] = "changed"
		d.Lines[i].Mods = append(d.Lines[i].Mods, "more")
		d.Lines[i].Proc = "changed"
	}
	d.Lines = append(d.Lines, line())
	if !reflect.DeepEqual(c, spare()) {
		t.Errorf("a change of the copy has changed the claim: %v", c)
	}
	if behind := c.Lines[:3][2]; behind.Proc != "behind" || behind.Mods[0] != "-" {
		t.Errorf("what lies behind the services was changed: %v", behind)
	}
	if behind := c.Lines[0].Mods[:3][2]; behind != "XX" {
		t.Errorf("what lies behind the modifiers was changed: %q", behind)
	}
	e := Copy(c)
	c.Lines[0].Mods[1], c.Lines[1].Units = "ZZ", 77
	if !reflect.DeepEqual(e, spare()) {
		t.Errorf("a change of the claim has changed the copy: %v", e)
	}
}

// Promise 7.6 with R3: no list of a copy hands out memory behind its length, and none shares memory with another one.
func TestCopyLists(t *testing.T) {
	shared := []string{"25", "59"}
	c := original(line(), line(), line())
	for i := range c.Lines {
		c.Lines[i].Mods = shared
	}
	c.Lines = c.Lines[:2]
	d := Copy(c)
	for i := 2; i < cap(d.Lines); i++ {
		if l := d.Lines[:i+1][i]; !reflect.DeepEqual(l, api.Line{}) {
			t.Errorf("behind the copy's services: %v", l)
		}
	}
	d.Lines[0].Mods[0] = "ZZ"
	if d.Lines[1].Mods[0] != "25" || shared[0] != "25" {
		t.Error("two services of a copy share their modifiers")
	}
}

// Promise 7.6: claims that may not be are copied, too; lists without elements are the same as none.
func TestCopyOfAny(t *testing.T) {
	for _, c := range []api.Claim{
		{},
		{Lines: []api.Line{}},
		{Id: "é", Net: -7, Does: 99, Ref: "-", Lines: []api.Line{{}, {Mods: []string{}}, {Mods: make([]string, 9), Date: -1, Units: -2, Billed: math.MinInt64, Prior: math.MaxInt64}}},
		{Lines: make([]api.Line, 2000)},
	} {
		d := Copy(c)
		if !Same(c, d) || len(d.Lines) != len(c.Lines) {
			t.Errorf("Copy(%.200v): %.200v", c, d)
		}
	}
}

// Promise 7.6: one field that is another one, and they are not the same.
func TestSame(t *testing.T) {
	if !Same(spare(), spare()) {
		t.Error("a claim is not the same as itself")
	}
	for i, change := range []func(*api.Claim){
		func(c *api.Claim) { c.Id = "C2" },
		func(c *api.Claim) { c.Member = "M2" },
		func(c *api.Claim) { c.Family = "F2" },
		func(c *api.Claim) { c.Net = 0 },
		func(c *api.Claim) { c.Does = api.Original },
		func(c *api.Claim) { c.Ref = "" },
		func(c *api.Claim) { c.Lines = nil },
		func(c *api.Claim) { c.Lines = c.Lines[:1] },
		func(c *api.Claim) { c.Lines = c.Lines[:3] },
		func(c *api.Claim) { c.Lines[0].Proc = "99214" },
		func(c *api.Claim) { c.Lines[1].Proc = "99214" },
		func(c *api.Claim) { c.Lines[1].Date = 20240302 },
		func(c *api.Claim) { c.Lines[1].Units = 3 },
		func(c *api.Claim) { c.Lines[1].Billed = 101 },
		func(c *api.Claim) { c.Lines[1].Prior = 41 },
		func(c *api.Claim) { c.Lines[0].Mods = nil },
		func(c *api.Claim) { c.Lines[0].Mods = c.Lines[0].Mods[:1] },
		func(c *api.Claim) { c.Lines[0].Mods = c.Lines[0].Mods[:3] },
		func(c *api.Claim) { c.Lines[0].Mods[0] = "26" },
		func(c *api.Claim) { c.Lines[1].Mods[1] = "26" },
		func(c *api.Claim) { c.Lines[1].Mods = []string{"59", "25"} },
		func(c *api.Claim) { c.Lines[1].Mods = []string{"2559"} },
		func(c *api.Claim) { c.Lines[1].Units = 1; c.Lines[0], c.Lines[1] = c.Lines[1], c.Lines[0] },
	} {
		c := spare()
		change(&c)
		if Same(c, spare()) || Same(spare(), c) {
			t.Errorf("change %d is not seen", i)
		}
	}
}

// Promise 7.6 with R3: a list that is nil and one without elements are the same.
func TestSameEmpty(t *testing.T) {
	none, empty := api.Claim{}, api.Claim{Lines: []api.Line{}}
	if !Same(none, empty) || !Same(empty, none) {
		t.Error("no services and none")
	}
	a, b := original(line()), original(line())
	a.Lines[0].Mods, b.Lines[0].Mods = nil, []string{}
	if !Same(a, b) || !Same(b, a) {
		t.Error("no modifiers and none")
	}
}

// Promise 7.7: some services of a claim that may be are a claim that may be.
func TestSomeServices(t *testing.T) {
	r := rand.New(rand.NewSource(7))
	for range 300 {
		c := original()
		for range 1 + r.Intn(12) {
			l := line()
			l.Date = 20240100 + r.Intn(12)*100 + 1 + r.Intn(28)
			l.Units, l.Billed = 1+r.Intn(9999), r.Int63n(800000000000)
			l.Prior = r.Int63n(l.Billed + 1)
			c.Lines = append(c.Lines, l)
		}
		if e := Check(c); e != api.OK {
			t.Fatalf("Check(%v): %v", c, e)
		}
		some := original()
		for _, l := range c.Lines {
			if r.Intn(2) == 0 {
				some.Lines = append(some.Lines, l)
			}
		}
		if e := Check(some); e != api.OK && len(some.Lines) > 0 {
			t.Errorf("Check(%v): %v", some, e)
		}
	}
}

var (
	fiveSigns   = regexp.MustCompile(`^[A-Z0-9]{5}$`)
	twoSigns    = regexp.MustCompile(`^[A-Z0-9]{2}$`)
	twelveSigns = regexp.MustCompile(`^[A-Z0-9]{1,12}$`)
)

// lineOracle tells Line's answer, by the words of promise 7.2, for the days that random lines have.
func lineOracle(l api.Line) api.Errno {
	if !fiveSigns.MatchString(l.Proc) || len(l.Mods) > 4 {
		return api.ErrCode
	}
	for _, m := range l.Mods {
		if !twoSigns.MatchString(m) {
			return api.ErrCode
		}
	}
	if l.Date == 20230229 {
		return api.ErrDate
	}
	if l.Units < 1 || l.Units > 9999 {
		return api.ErrRange
	}
	if l.Billed < 0 || l.Billed > 1e13 || l.Prior < 0 || l.Prior > l.Billed {
		return api.ErrMoney
	}
	return api.OK
}

func oracle(c api.Claim) api.Errno {
	if !twelveSigns.MatchString(c.Id) || !twelveSigns.MatchString(c.Member) || !twelveSigns.MatchString(c.Family) {
		return api.ErrCode
	}
	if c.Net>>1 != 0 {
		return api.ErrRange
	}
	if c.Does == 1 && c.Ref != "" || c.Does != 1 && !twelveSigns.MatchString(c.Ref) {
		return api.ErrCode
	}
	if c.Does != 1 && c.Does != 7 && c.Does != 8 {
		return api.ErrRange
	}
	if c.Does == 8 && len(c.Lines) > 0 || c.Does != 8 && len(c.Lines) == 0 {
		return api.ErrCount
	}
	total := int64(0)
	for _, l := range c.Lines {
		if e := lineOracle(l); e != api.OK {
			return e
		}
		if l.Date/10000 != c.Lines[0].Date/10000 {
			return api.ErrDate
		}
		total += l.Billed
	}
	if total > 1e13 {
		return api.ErrMoney
	}
	return api.OK
}

// mostly is the first of what is handed in, and now and then another one.
func mostly[T any](r *rand.Rand, usual T, other ...T) T {
	if r.Intn(24) > 0 {
		return usual
	}
	return other[r.Intn(len(other))]
}

func randomLine(r *rand.Rand) api.Line {
	return api.Line{
		Proc:   mostly(r, "99213", "", "9921", "99213A", "J0001", "9921é", "9921"),
		Mods:   mostly(r, []string{"25"}, nil, []string{"25", "5"}, []string{"A1", "B2", "C3", "D4"}, make([]string, 5), []string{"25", "25", "25", "25", "25"}),
		Date:   mostly(r, 20240301, 20230229, 20230301, 20241231),
		Units:  mostly(r, 1, 0, -1, 9999, 10000),
		Billed: mostly(r, int64(100), -1, 0, 1e13, 1e13+1, 5e12),
		Prior:  mostly(r, int64(0), -1, 1, 100, 101),
	}
}

func randomClaim(r *rand.Rand) api.Claim {
	c := api.Claim{
		Id:     mostly(r, "C1", "", "c1", "ABCDEFGHIJKL", "ABCDEFGHIJKLM"),
		Member: mostly(r, "M1", "", "-", "1"),
		Family: mostly(r, "F1", "", "F 1", "1"),
		Net:    mostly(r, 0, 1, 2, -1),
		Does:   mostly(r, 1, 0, 7, 8, 9),
		Ref:    mostly(r, "", "C0", "c"),
	}
	if c.Does != 1 {
		c.Ref = mostly(r, "C0", "", "c")
	}
	n := r.Intn(5)
	if c.Does == 8 {
		n = mostly(r, 0, 1)
	}
	for range n {
		c.Lines = append(c.Lines, randomLine(r))
	}
	return c
}

// Promises 7.2 and 7.4, held against an oracle that follows the words.
func TestRandomClaims(t *testing.T) {
	r := rand.New(rand.NewSource(77))
	seen := map[api.Errno]int{}
	for range 60000 {
		c := randomClaim(r)
		before := Copy(c)
		want := oracle(c)
		seen[want]++
		if e := Check(c); e != want {
			t.Fatalf("Check(%v): %v; want %v", c, e, want)
		}
		for _, l := range c.Lines {
			if e := Line(l); e != lineOracle(l) {
				t.Fatalf("Line(%v): %v; want %v", l, e, lineOracle(l))
			}
		}
		if !reflect.DeepEqual(c, before) {
			t.Fatalf("the claim was changed: %v; was %v", c, before)
		}
		if d := randomClaim(r); Same(c, d) != reflect.DeepEqual(c, d) {
			t.Fatalf("Same(%v, %v): %v", c, d, Same(c, d))
		}
	}
	for _, e := range []api.Errno{api.OK, api.ErrCode, api.ErrRange, api.ErrCount, api.ErrDate, api.ErrMoney} {
		if seen[e] < 100 {
			t.Errorf("%v was asked %d times alone", e, seen[e])
		}
	}
}

// The chapter's example.
func TestExample(t *testing.T) {
	c := original(api.Line{Proc: "99213", Date: 20240301, Units: 1, Billed: 100})
	if e := Check(c); e != api.OK {
		t.Errorf("as an Original: %v", e)
	}
	c.Does = api.Void
	if e := Check(c); e != api.ErrCode {
		t.Errorf("as a Void: %v", e)
	}
}
