package digits

import (
	"fmt"
	"math"
	"math/big"
	"math/rand"
	"regexp"
	"strings"
	"testing"

	"leechbook/api"
)

// answer is what a call answered.
type answer struct {
	n int64
	e api.Errno
}

func got(n int64, e api.Errno) answer { return answer{n, e} }

func good(n int64) answer { return answer{n, api.OK} }

var (
	noInt   = answer{0, api.ErrSyntax}
	noMoney = answer{0, api.ErrMoney}
)

func expect(t *testing.T, call, text string, have, want answer) {
	t.Helper()
	if have != want {
		t.Errorf("%s(%q): %d, %v; want %d, %v", call, text, have.n, have.e, want.n, want.e)
	}
}

// wrongSigns are texts that no call reads, with or without - ahead.
var wrongSigns = []string{
	" ", " 5", "5 ", "1 2", "\t5", "5\n", "+", "+5", "+0", "5+", "5-", "1-2", "1_000", "1,000", "1,5", "$5", "5%",
	"a", "x1", "1x", "0x10", "1e3", "1E3", "inf", "NaN", "½", "٣", "１２", "5\x00", "\x005", "\xff", "5\xff", "/", ":", "1/", "1:", "/1", ":1", "é",
	".", ".5", ".50", "-.5", "..", "5..", "5..5", "5.5.5", "5.5.", "..5",
	"00", "000", "01", "007", "00.5", "01.50", "--5", "--0", "--", "+-5", "-+5", "- 5", "5.-5", "5.+5", "5.5-", "−5",
}

// Promise 3.1: Int.
func TestInt(t *testing.T) {
	for _, c := range []struct {
		n    int64
		want string
	}{
		{0, "0"}, {1, "1"}, {9, "9"}, {10, "10"}, {99, "99"}, {100, "100"}, {1000, "1000"}, {20240115, "20240115"},
		{-1, "-1"}, {-9, "-9"}, {-10, "-10"}, {-1250, "-1250"},
		{api.MaxCents, "10000000000000"}, {999999999999999999, "999999999999999999"}, {1000000000000000000, "1000000000000000000"},
		{math.MaxInt64, "9223372036854775807"}, {math.MaxInt64 - 1, "9223372036854775806"},
		{math.MinInt64, "-9223372036854775808"}, {math.MinInt64 + 1, "-9223372036854775807"},
	} {
		if have := Int(c.n); have != c.want {
			t.Errorf("Int(%d): %q, want %q", c.n, have, c.want)
		}
	}
}

// Promise 3.1: ReadInt.
func TestReadInt(t *testing.T) {
	for _, c := range []struct {
		s    string
		most int
		want answer
	}{
		{"0", 1, good(0)}, {"5", 1, good(5)}, {"9", 9, good(9)}, {"10", 2, good(10)}, {"42", 9, good(42)}, {"1020", 4, good(1020)}, {"9999", 4, good(9999)},
		{"0123456789", 18, noInt}, {"1234567890", 18, good(1234567890)},
		// Most digits, and one more.
		{"12", 1, noInt}, {"10000", 4, noInt}, {"123456789", 9, good(123456789)}, {"1234567890", 9, noInt}, {"999999999999", 12, good(999999999999)}, {"1000000000000", 12, noInt},
		// 18 digits, and 19, however many may be.
		{"999999999999999999", 18, good(999999999999999999)}, {"100000000000000000", 18, good(100000000000000000)}, {"999999999999999999", 17, noInt},
		{"999999999999999999", 19, good(999999999999999999)}, {"999999999999999999", math.MaxInt, good(999999999999999999)},
		{"1000000000000000000", 18, noInt}, {"1000000000000000000", 19, noInt}, {"9223372036854775807", 19, noInt}, {"1000000000000000000", math.MaxInt, noInt}, {"18446744073709551617", 20, noInt},
		{strings.Repeat("9", 1000), math.MaxInt, noInt}, {strings.Repeat("0", 18), 18, noInt}, {strings.Repeat("0", 19), 19, noInt},
		// None may be, or fewer.
		{"", 0, noInt}, {"0", 0, noInt}, {"5", 0, noInt}, {"", -1, noInt}, {"0", -1, noInt}, {"5", -1, noInt}, {"5", math.MinInt, noInt}, {"", math.MinInt, noInt},
		// No digit, noughts ahead, signs.
		{"", 1, noInt}, {"", 18, noInt}, {"00", 2, noInt}, {"00", 18, noInt}, {"01", 2, noInt}, {"007", 9, noInt}, {"0000000000000000001", 19, noInt},
		{"-", 9, noInt}, {"-0", 9, noInt}, {"-5", 9, noInt}, {"-1", 1, noInt}, {"-9223372036854775808", 20, noInt},
		{"5.", 9, noInt}, {"5.0", 9, noInt}, {"12.50", 9, noInt},
	} {
		expect(t, fmt.Sprint(c.most, " ReadInt"), c.s, got(ReadInt(c.s, c.most)), c.want)
	}
	for _, s := range wrongSigns {
		for _, most := range []int{-1, 0, 1, 9, 18, 19, math.MaxInt} {
			expect(t, "ReadInt", s, got(ReadInt(s, most)), noInt)
		}
	}
}

// Promise 3.2: Money.
func TestMoney(t *testing.T) {
	for _, c := range []struct {
		a    int64
		want string
	}{
		{0, "0.00"}, {1, "0.01"}, {7, "0.07"}, {9, "0.09"}, {10, "0.10"}, {11, "0.11"}, {99, "0.99"}, {100, "1.00"}, {101, "1.01"}, {110, "1.10"}, {1250, "12.50"}, {7550, "75.50"}, {123456, "1234.56"},
		{-1, "-0.01"}, {-7, "-0.07"}, {-10, "-0.10"}, {-99, "-0.99"}, {-100, "-1.00"}, {-101, "-1.01"}, {-123456, "-1234.56"},
		{api.MaxCents, "100000000000.00"}, {api.MaxCents - 1, "99999999999.99"}, {api.MaxCents + 1, "100000000000.01"}, {-api.MaxCents, "-100000000000.00"},
		{math.MaxInt64, "92233720368547758.07"}, {math.MinInt64, "-92233720368547758.08"}, {math.MinInt64 + 1, "-92233720368547758.07"},
	} {
		if have := Money(c.a); have != c.want {
			t.Errorf("Money(%d): %q, want %q", c.a, have, c.want)
		}
	}
}

// moneyCases are what ReadMoney reads, and what it does not.
var moneyCases = []struct {
	s    string
	want answer
}{
	// No dot, one digit behind it, two, three, none.
	{"0", good(0)}, {"1", good(100)}, {"12", good(1200)}, {"0.0", good(0)}, {"0.00", good(0)}, {"0.5", good(50)}, {"0.05", good(5)}, {"0.50", good(50)}, {"0.01", good(1)}, {"0.99", good(99)},
	{"12.5", good(1250)}, {"12.50", good(1250)}, {"12.05", good(1205)}, {"12.0", good(1200)}, {"12.00", good(1200)}, {"75.50", good(7550)}, {"1234.56", good(123456)}, {"10.9", good(1090)}, {"10.09", good(1009)},
	{"1.", noMoney}, {"0.", noMoney}, {"1.234", noMoney}, {"1.230", noMoney}, {"0.000", noMoney}, {"1.0000", noMoney}, {"12.500000000", noMoney},
	// The greatest amount, one cent more, most digits and one more.
	{"100000000000", good(api.MaxCents)}, {"100000000000.0", good(api.MaxCents)}, {"100000000000.00", good(api.MaxCents)}, {"99999999999.99", good(api.MaxCents - 1)}, {"99999999999.9", good(api.MaxCents - 10)},
	{"100000000000.01", noMoney}, {"100000000000.1", noMoney}, {"100000000001", noMoney}, {"999999999999", noMoney}, {"999999999999.99", noMoney},
	{"1000000000000", noMoney}, {"1000000000000.00", noMoney}, {"184467440737095516.17", noMoney}, {"92233720368547758.08", noMoney}, {strings.Repeat("9", 1000), noMoney},
	// No sign at all, a dot ahead of all, noughts ahead, signs that are no digits.
	{"", noMoney}, {".", noMoney}, {".0", noMoney}, {".5", noMoney}, {".50", noMoney}, {"00", noMoney}, {"00.00", noMoney}, {"01", noMoney}, {"007.50", noMoney},
	{"1.x", noMoney}, {"1.x5", noMoney}, {"1.5x", noMoney}, {"1. ", noMoney}, {"1. 5", noMoney}, {"1.5 ", noMoney}, {"1.5.", noMoney}, {"1..", noMoney}, {"1..5", noMoney}, {"1.½", noMoney}, {"1.-5", noMoney},
	{"1./", noMoney}, {"1.:", noMoney}, {"1./5", noMoney}, {"1.5:", noMoney}, {"1,50", noMoney},
}

// Promise 3.3: ReadMoney.
func TestReadMoney(t *testing.T) {
	for _, c := range moneyCases {
		expect(t, "ReadMoney", c.s, got(ReadMoney(c.s)), c.want)
		expect(t, "ReadMoney", "-"+c.s, got(ReadMoney("-"+c.s)), noMoney)
	}
	for _, s := range wrongSigns {
		expect(t, "ReadMoney", s, got(ReadMoney(s)), noMoney)
	}
}

// Promise 3.3: ReadSigned, of all that ReadMoney was asked, and with - ahead of it.
func TestReadSigned(t *testing.T) {
	for _, c := range moneyCases {
		expect(t, "ReadSigned", c.s, got(ReadSigned(c.s)), c.want)
		below := answer{-c.want.n, c.want.e}
		if c.want.n == 0 {
			below = noMoney
		}
		expect(t, "ReadSigned", "-"+c.s, got(ReadSigned("-"+c.s)), below)
		expect(t, "ReadSigned", "--"+c.s, got(ReadSigned("--"+c.s)), noMoney)
		expect(t, "ReadSigned", "+"+c.s, got(ReadSigned("+"+c.s)), noMoney)
	}
	for _, s := range wrongSigns {
		expect(t, "ReadSigned", s, got(ReadSigned(s)), noMoney)
		expect(t, "ReadSigned", "-"+s, got(ReadSigned("-"+s)), noMoney)
	}
	for _, c := range []struct {
		s    string
		want answer
	}{
		{"-", noMoney}, {"--", noMoney}, {"-0", noMoney}, {"-0.0", noMoney}, {"-0.00", noMoney}, {"--0", noMoney}, {"--5", noMoney}, {"---5", noMoney}, {"- 5", noMoney}, {"5-", noMoney},
		{"-0.01", good(-1)}, {"-0.07", good(-7)}, {"-12.5", good(-1250)}, {"-1", good(-100)}, {"-100000000000", good(-api.MaxCents)}, {"-100000000000.01", noMoney},
	} {
		expect(t, "ReadSigned", c.s, got(ReadSigned(c.s)), c.want)
	}
}

// someNumbers are the small ones, those about each power of ten, and some by chance (always the same).
func someNumbers(most int64) []int64 {
	var l []int64
	for n := range int64(20000) {
		l = append(l, n)
	}
	for p := int64(10); p < most; p *= 10 {
		l = append(l, p-1, p, p+1)
	}
	r := rand.New(rand.NewSource(3))
	for range 20000 {
		l = append(l, r.Int63n(most+1), r.Int63n(most+1)>>r.Intn(40))
	}
	return append(l, most-1, most)
}

// Promise 3.4: what is written is read as what it was, a number.
func TestNumbersAreReadBack(t *testing.T) {
	for _, n := range someNumbers(999999999999999999) {
		s := Int(n)
		if s != big.NewInt(n).String() || Int(-n) != big.NewInt(-n).String() {
			t.Fatalf("Int(%d): %q", n, s)
		}
		expect(t, "ReadInt", s, got(ReadInt(s, 18)), good(n))
		expect(t, "ReadInt", s, got(ReadInt(s, len(s))), good(n))
		expect(t, "ReadInt", s, got(ReadInt(s, len(s)-1)), noInt)
	}
}

// Promise 3.4: what is written is read as what it was, an amount, below nothing or not.
func TestAmountsAreReadBack(t *testing.T) {
	for _, a := range someNumbers(api.MaxCents) {
		s := Money(a)
		if want := big.NewRat(a, 100).FloatString(2); s != want {
			t.Fatalf("Money(%d): %q, want %q", a, s, want)
		}
		expect(t, "ReadMoney", s, got(ReadMoney(s)), good(a))
		expect(t, "ReadSigned", s, got(ReadSigned(s)), good(a))
		if a == 0 {
			continue
		}
		expect(t, "ReadSigned", Money(-a), got(ReadSigned(Money(-a))), good(-a))
		expect(t, "ReadMoney", Money(-a), got(ReadMoney(Money(-a))), noMoney)
	}
}

// each calls f with every text of up to so many of these signs.
func each(signs string, most int, f func(string)) {
	var grow func(string)
	grow = func(s string) {
		f(s)
		if len(s) < most {
			for i := range len(signs) {
				grow(s + signs[i:i+1])
			}
		}
	}
	grow("")
}

// TestAllShortTexts holds every short text against what a pattern of the whole reads.
func TestAllShortTexts(t *testing.T) {
	whole := regexp.MustCompile(`\A(0|[1-9][0-9]*)\z`)
	money := regexp.MustCompile(`\A(0|[1-9][0-9]*)(\.[0-9][0-9]?)?\z`)
	each("0159.-+ x", 6, func(s string) {
		i, m, signed := noInt, noMoney, noMoney
		if whole.MatchString(s) {
			n, _ := new(big.Int).SetString(s, 10)
			i = good(n.Int64())
		}
		size, below := strings.CutPrefix(s, "-")
		if money.MatchString(size) {
			r, _ := new(big.Rat).SetString(size)
			a := r.Mul(r, big.NewRat(100, 1)).Num().Int64()
			if !below {
				m, signed = good(a), good(a)
			} else if a != 0 {
				signed = good(-a)
			}
		}
		expect(t, "ReadInt", s, got(ReadInt(s, 6)), i)
		expect(t, "ReadMoney", s, got(ReadMoney(s)), m)
		expect(t, "ReadSigned", s, got(ReadSigned(s)), signed)
	})
}

// Every byte, alone and beside digits: the ten digits are the only ones that are read, the dot within.
func TestAllBytes(t *testing.T) {
	for b := range 256 {
		s := string([]byte{byte(b)})
		want, around := noInt, noInt
		if '0' <= b && b <= '9' {
			want, around = good(int64(b-'0')), good(int64(102+10*(b-'0')))
		}
		expect(t, "ReadInt", s, got(ReadInt(s, 9)), want)
		expect(t, "ReadInt", "1"+s+"2", got(ReadInt("1"+s+"2", 9)), around)
		cents := noMoney
		if want != noInt {
			cents = good(100 + want.n*10)
		}
		expect(t, "ReadMoney", "1."+s, got(ReadMoney("1."+s)), cents)
		if want != noInt {
			cents = good(200 + 10 + want.n)
		}
		expect(t, "ReadMoney", "2.1"+s, got(ReadMoney("2.1"+s)), cents)
	}
}
