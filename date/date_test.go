package date

import (
	"math"
	"testing"
	"time"

	"leechbook/api"
)

const (
	firstDay = 10101
	lastDay  = 99991231
	lastDays = 3652058 // how many days lie ahead of the last one
)

// answer is what a call answered.
type answer struct {
	n int
	e api.Errno
}

func got(n int, e api.Errno) answer { return answer{n, e} }

// expect also holds every error against R2: beside it stands 0.
func expect(t *testing.T, call string, arg int, have, want answer) {
	t.Helper()
	if have != want {
		t.Errorf("%s(%d): %d, %v; want %d, %v", call, arg, have.n, have.e, want.n, want.e)
	}
	if have.e != api.OK && have.n != 0 {
		t.Errorf("%s(%d): %d beside %v", call, arg, have.n, have.e)
	}
}

// isDay asks all that promises 2.1 and 2.2 say of a day, or of a number that is none.
func isDay(t *testing.T, n int, want bool, year int) {
	t.Helper()
	if Good(n) != want {
		t.Errorf("Good(%d): %v", n, !want)
	}
	if !want {
		year = 0
		expect(t, "Days", n, got(Days(n)), answer{0, api.ErrDate})
	} else if _, e := Days(n); e != api.OK {
		t.Errorf("Days(%d): %v", n, e)
	}
	if have := Year(n); have != year {
		t.Errorf("Year(%d): %d, want %d", n, have, year)
	}
}

// Promise 2.1: ordinary days, and the ends of the calendar.
func TestGoodAndYear(t *testing.T) {
	for _, c := range []struct {
		n    int
		want bool
		year int
	}{
		{20240115, true, 2024}, {20000229, true, 2000}, {19991231, true, 1999}, {11111, true, 1},
		{firstDay, true, 1}, {lastDay, true, 9999}, {10131, true, 1}, {99990101, true, 9999},
		{firstDay - 1, false, 0}, {lastDay + 1, false, 0},
		{100, false, 0}, {101, false, 0}, {1231, false, 0}, {9999, false, 0}, {10000, false, 0}, {10001, false, 0},
		{100000101, false, 0}, {120240115, false, 0},
		{20240015, false, 0}, {20241315, false, 0}, {20249915, false, 0}, {20240100, false, 0}, {20240000, false, 0}, {20240199, false, 0},
		{0, false, 0}, {1, false, 0}, {-1, false, 0}, {-101, false, 0}, {-firstDay, false, 0}, {-20240115, false, 0}, {-lastDay, false, 0},
		{math.MaxInt, false, 0}, {math.MinInt, false, 0}, {math.MaxInt32, false, 0}, {math.MinInt32, false, 0},
		{1<<32 + 20240115, false, 0}, {-(1 << 32) + 20240115, false, 0},
	} {
		isDay(t, c.n, c.want, c.year)
	}
}

// Promise 2.1: the last day of each month, and one beyond.
func TestMonthsEnds(t *testing.T) {
	ends := []int{31, 28, 31, 30, 31, 30, 31, 31, 30, 31, 30, 31}
	for _, year := range []int{1, 1900, 2023, 2100, 9999} {
		for i, last := range ends {
			month := year*10000 + (i+1)*100
			isDay(t, month, false, 0)
			isDay(t, month+1, true, year)
			isDay(t, month+last, true, year)
			isDay(t, month+last+1, false, 0)
		}
		isDay(t, year*10000+1, false, 0)
		isDay(t, year*10000+1301, false, 0)
	}
}

// Promise 2.1: the second month in years that 4, 100 and 400 divide, and in those beside them.
func TestLeapYears(t *testing.T) {
	for _, c := range []struct {
		year int
		leap bool
	}{
		{1, false}, {3, false}, {4, true}, {5, false}, {8, true}, {96, true}, {100, false}, {104, true},
		{200, false}, {300, false}, {400, true}, {404, true}, {500, false}, {800, true},
		{1600, true}, {1700, false}, {1896, true}, {1900, false}, {1904, true}, {2000, true},
		{2022, false}, {2023, false}, {2024, true}, {2025, false}, {2026, false}, {2100, false}, {2400, true},
		{9600, true}, {9900, false}, {9996, true}, {9999, false},
	} {
		second := c.year*10000 + 200
		isDay(t, second+28, true, c.year)
		isDay(t, second+29, c.leap, c.year)
		isDay(t, second+30, false, 0)
		// No other month is longer for it.
		isDay(t, c.year*10000+132, false, 0)
		isDay(t, c.year*10000+431, false, 0)
	}
}

// Promise 2.2: Days.
func TestDays(t *testing.T) {
	for _, c := range []struct {
		n    int
		want answer
	}{
		{firstDay, answer{0, api.OK}}, {10102, answer{1, api.OK}}, {10131, answer{30, api.OK}}, {10201, answer{31, api.OK}},
		{10228, answer{58, api.OK}}, {10301, answer{59, api.OK}}, {11231, answer{364, api.OK}}, {20101, answer{365, api.OK}},
		{40229, answer{1154, api.OK}}, {40301, answer{1155, api.OK}}, {50101, answer{1461, api.OK}},
		{1010101, answer{36524, api.OK}}, {4001231, answer{146096, api.OK}}, {4010101, answer{146097, api.OK}},
		{19700101, answer{719162, api.OK}}, {20000229, answer{730178, api.OK}}, {20240229, answer{738944, api.OK}}, {20240301, answer{738945, api.OK}},
		{99991230, answer{lastDays - 1, api.OK}}, {lastDay, answer{lastDays, api.OK}},
		{firstDay - 1, answer{0, api.ErrDate}}, {lastDay + 1, answer{0, api.ErrDate}}, {100000101, answer{0, api.ErrDate}},
		{19000229, answer{0, api.ErrDate}}, {20230229, answer{0, api.ErrDate}}, {20240431, answer{0, api.ErrDate}},
		{20240001, answer{0, api.ErrDate}}, {20241301, answer{0, api.ErrDate}}, {20240100, answer{0, api.ErrDate}},
		{0, answer{0, api.ErrDate}}, {-1, answer{0, api.ErrDate}}, {-20240115, answer{0, api.ErrDate}},
		{math.MaxInt, answer{0, api.ErrDate}}, {math.MinInt, answer{0, api.ErrDate}},
	} {
		expect(t, "Days", c.n, got(Days(c.n)), c.want)
	}
}

// Promise 2.2: Of.
func TestOf(t *testing.T) {
	for _, c := range []struct {
		days int
		want answer
	}{
		{0, answer{firstDay, api.OK}}, {1, answer{10102, api.OK}}, {30, answer{10131, api.OK}}, {31, answer{10201, api.OK}},
		{58, answer{10228, api.OK}}, {59, answer{10301, api.OK}}, {364, answer{11231, api.OK}}, {365, answer{20101, api.OK}}, {366, answer{20102, api.OK}},
		{1154, answer{40229, api.OK}}, {1155, answer{40301, api.OK}}, {1460, answer{41231, api.OK}}, {1461, answer{50101, api.OK}},
		{36523, answer{1001231, api.OK}}, {36524, answer{1010101, api.OK}}, {146096, answer{4001231, api.OK}}, {146097, answer{4010101, api.OK}},
		{719162, answer{19700101, api.OK}}, {730178, answer{20000229, api.OK}}, {738944, answer{20240229, api.OK}},
		{lastDays - 364, answer{99990101, api.OK}}, {lastDays - 1, answer{99991230, api.OK}}, {lastDays, answer{lastDay, api.OK}},
		{lastDays + 1, answer{0, api.ErrRange}}, {lastDays + 2, answer{0, api.ErrRange}}, {lastDays + 366, answer{0, api.ErrRange}},
		{-1, answer{0, api.ErrRange}}, {-2, answer{0, api.ErrRange}}, {-365, answer{0, api.ErrRange}}, {-lastDays, answer{0, api.ErrRange}},
		{lastDay, answer{0, api.ErrRange}}, {math.MaxInt32, answer{0, api.ErrRange}}, {1 << 32, answer{0, api.ErrRange}},
		{math.MaxInt, answer{0, api.ErrRange}}, {math.MaxInt - 1, answer{0, api.ErrRange}}, {math.MinInt, answer{0, api.ErrRange}}, {math.MinInt + 1, answer{0, api.ErrRange}},
	} {
		expect(t, "Of", c.days, got(Of(c.days)), c.want)
	}
}

// The chapter's example: the day ahead of the first one of the third month.
func TestDayAhead(t *testing.T) {
	for _, c := range []struct{ n, want int }{
		{20240301, 20240229}, {20230301, 20230228}, {19000301, 19000228}, {20000301, 20000229}, {20240101, 20231231},
	} {
		days, e := Days(c.n)
		if e != api.OK {
			t.Errorf("Days(%d): %v", c.n, e)
		}
		expect(t, "Of", days-1, got(Of(days-1)), answer{c.want, api.OK})
	}
}

// Promise 2.3, over all days: Days and Of are each other's opposites, a later day has a greater number, and the calendar is the library's.
func TestAllDays(t *testing.T) {
	day := time.Date(1, 1, 1, 0, 0, 0, 0, time.UTC)
	last := 0
	for days := range lastDays + 1 {
		y, m, d := day.Date()
		want := y*10000 + int(m)*100 + d
		n, e := Of(days)
		if n != want || e != api.OK {
			t.Fatalf("Of(%d): %d, %v; want %d", days, n, e, want)
		}
		if back, e := Days(n); back != days || e != api.OK {
			t.Fatalf("Days(%d): %d, %v; want %d", n, back, e, days)
		}
		if n <= last || !Good(n) || Year(n) != y {
			t.Fatalf("%d behind %d: %v, %d", n, last, Good(n), Year(n))
		}
		last = n
		day = day.AddDate(0, 0, 1)
	}
	if last != lastDay || day.Year() != 10000 {
		t.Errorf("the last one is %d, ahead of %v", last, day)
	}
}

// TestAllNumbers: of all numbers of up to nine digits about the calendar just as many are days as there are days.
func TestAllNumbers(t *testing.T) {
	count := 0
	for n := range 101000000 {
		if Good(n) {
			count++
			if Good(-n) {
				t.Fatalf("Good(%d)", -n)
			}
		}
	}
	if count != lastDays+1 {
		t.Errorf("%d numbers are days, want %d", count, lastDays+1)
	}
}
