package fees

import (
	"fmt"
	"math/rand"
	"regexp"
	"slices"
	"strconv"
	"strings"
	"testing"

	"leechbook/api"
)

// good is visit's text.
const good = "fee 99213 none in 20240101 75.50"

// texts are tables, and how they are printed.
var texts = []struct {
	l []api.Fee
	s string
}{
	{nil, ""},
	{[]api.Fee{visit}, good},
	{[]api.Fee{{Proc: "99213", Mod: "59", Net: 1, From: 20240601, Cents: 8000}}, "fee 99213 59 out 20240601 80.00"},
	{
		[]api.Fee{
			{Proc: "00000", From: 10101},
			{Proc: "00000", From: 990930, Cents: 1},
			{Proc: "00000", Net: 1, From: 10101, Cents: 20},
			{Proc: "00000", Mod: "0A", From: 99991231, Cents: 305},
			{Proc: "0000A", From: 20000229, Cents: 4000},
			{Proc: "ZZZZZ", Mod: "ZZ", Net: 1, From: 20240229, Cents: api.MaxCents},
		},
		"fee 00000 none in 10101 0.00 fee 00000 none in 990930 0.01 fee 00000 none out 10101 0.20" +
			" fee 00000 0A in 99991231 3.05 fee 0000A none in 20000229 40.00 fee ZZZZZ ZZ out 20240229 100000000000.00",
	},
}

func expectPrinted(t *testing.T, l []api.Fee, want string) {
	t.Helper()
	if s, e := Print(l); s != want || e != api.OK {
		t.Errorf("Print(%s): %.300q, %v; want %.300q", short(l), s, e, want)
	}
}

func expectParsed(t *testing.T, s string, want []api.Fee) {
	t.Helper()
	if l, f := Parse(s); !slices.Equal(l, want) || f != (api.Fault{}) {
		t.Errorf("Parse(%.300q): %s, %v; want %s", s, short(l), f, short(want))
	}
}

func expectFault(t *testing.T, s string, e api.Errno, at int) {
	t.Helper()
	l, f := Parse(s)
	if f != (api.Fault{Err: e, At: at}) {
		t.Errorf("Parse(%.300q): %v, want %v", s, f, api.Fault{Err: e, At: at})
	}
	if len(l) != 0 {
		t.Errorf("Parse(%.300q): a table beside a fault: %s", s, short(l))
	}
}

// expectMarked is expectFault of a text in which a ^ stands ahead of the wrong word.
func expectMarked(t *testing.T, s string, e api.Errno) {
	t.Helper()
	before, behind, ok := strings.Cut(s, "^")
	if !ok {
		t.Fatalf("no mark in %q", s)
	}
	expectFault(t, before+behind, e, len(before))
}

// printed is a table's text in another way.
func printed(l []api.Fee) string {
	var rows []string
	for _, f := range l {
		mod := f.Mod
		if mod == "" {
			mod = "none"
		}
		rows = append(rows, fmt.Sprintf("fee %s %s %s %d %d.%02d", f.Proc, mod, []string{"in", "out"}[f.Net], f.From, f.Cents/100, f.Cents%100))
	}
	return strings.Join(rows, " ")
}

// Promises 12.3 and 12.4: tables printed, and parsed.
func TestPrintAndParse(t *testing.T) {
	for _, c := range texts {
		expectCheck(t, c.l, api.OK)
		expectPrinted(t, c.l, c.s)
		expectParsed(t, c.s, c.l)
		// Blanks and ends of lines, as many as there are.
		expectParsed(t, "\n"+strings.ReplaceAll(c.s, " ", "\n\n  ")+" \n", c.l)
	}
	expectPrinted(t, []api.Fee{}, "")
	expectParsed(t, " ", nil)
	expectParsed(t, "\n \n", nil)
	// Amounts with no digits behind a dot, with one, with two.
	for s, want := range map[string]int64{"75": 7500, "75.5": 7550, "75.50": 7550, "75.05": 7505, "0": 0, "0.0": 0, "0.01": 1, "100000000000": api.MaxCents, "99999999999.99": api.MaxCents - 1} {
		expectParsed(t, "fee 99213 none in 20240101 "+s, []api.Fee{changed(func(r *api.Fee) { r.Cents = want })})
	}
	r := rand.New(rand.NewSource(123))
	for range 500 {
		l := byChance(r)
		s := printed(l)
		expectPrinted(t, l, s)
		expectParsed(t, s, l)
	}
}

// Promise 12.3: the longest table's text is one that is parsed.
func TestLongest(t *testing.T) {
	l := numbered(512)
	for i := range l {
		l[i].Net, l[i].From, l[i].Cents = 1, 99991231, api.MaxCents
	}
	s, e := Print(l)
	if e != api.OK || len(s) != 512*44-1 {
		t.Fatalf("%d bytes, %v", len(s), e)
	}
	expectParsed(t, s, l)
}

// Promises 12.4 and 12.7: in which order rows stand in a text plays no part, the chapter's example first.
func TestRowsInAnyOrder(t *testing.T) {
	expectParsed(t, "fee 99213 none in 20240601 80 fee 99213 none in 20240101 75.5",
		[]api.Fee{{Proc: "99213", From: 20240101, Cents: 7550}, {Proc: "99213", From: 20240601, Cents: 8000}})
	// Each two rows, both ways round.
	l := someRows()
	for i := range l {
		for j := i + 1; j < len(l); j += 1 + j%3 {
			expectParsed(t, printed([]api.Fee{l[i], l[j]}), []api.Fee{l[i], l[j]})
			expectParsed(t, printed([]api.Fee{l[j], l[i]}), []api.Fee{l[i], l[j]})
		}
	}
	r := rand.New(rand.NewSource(127))
	for range 200 {
		l := byChance(r)
		other := slices.Clone(l)
		r.Shuffle(len(other), func(i, j int) { other[i], other[j] = other[j], other[i] })
		expectParsed(t, printed(other), l)
		slices.Reverse(other)
		expectParsed(t, printed(other), l)
	}
	l = numbered(512)
	slices.Reverse(l)
	expectParsed(t, printed(l), numbered(512))
}

// Promise 12.4: words.Split's fault, ahead of all others.
func TestSplitFaults(t *testing.T) {
	expectMarked(t, "^,", api.ErrSyntax)
	expectMarked(t, good+"^,", api.ErrSyntax)
	expectMarked(t, "x x x x x x ^- 5", api.ErrSyntax)
	expectMarked(t, good+" fee 99213 none in ^-20240101 5", api.ErrSyntax)
	expectMarked(t, good+"^\t", api.ErrSyntax)
	expectMarked(t, "x x ^é,", api.ErrSyntax)
	expectMarked(t, strings.Repeat(good+" ", 513)+"^*", api.ErrSyntax)
	expectFault(t, strings.Repeat(" ", 65537), api.ErrLimit, 0)
	expectFault(t, good+strings.Repeat(",", 65537), api.ErrLimit, 0)
	expectFault(t, good+strings.Repeat(" ", 65537-len(good)), api.ErrLimit, 0)
	expectParsed(t, good+strings.Repeat(" ", 65536-len(good)), []api.Fee{visit})
	expectFault(t, "fee"+strings.Repeat(" ", 65536-3), api.ErrSyntax, 65536)
}

// aheads are whole rows that may stand ahead of a wrong one.
var aheads = []string{"", " ", "\n", "fee 00000 none in 20240101 1 ", "fee ZZZZZ ZZ out 10101 0 fee 00000 59 in 20240101 1.5\n  "}

// Promise 12.4: ErrSyntax where the text ends within a row, whatever the row's words are.
func TestEndsWithinARow(t *testing.T) {
	for _, ahead := range aheads {
		for _, row := range []string{good, "fee ZZZZZ ZZ out 20240229 0", "x x x x x x", "( ( ( ) ) )", "fee fee fee fee fee fee", "fee 99213 5 on 0 x"} {
			list := strings.Fields(row)
			for count := 1; count < 6; count++ {
				part := strings.Join(list[:count], " ")
				expectMarked(t, ahead+part+"^", api.ErrSyntax)
				expectMarked(t, ahead+part+"  \n ^", api.ErrSyntax)
			}
		}
	}
	// A wrong word of a whole row ahead of it is told.
	expectMarked(t, "fee 99213 none in ^20240100 1 fee", api.ErrDate)
	expectMarked(t, "fee 99213 none in 20240101 ^1.234 fee 99213", api.ErrMoney)
	// Rows of one place are told at last.
	expectMarked(t, good+" "+good+" fee^", api.ErrSyntax)
}

// wrongWords are, by the place in a row, words that can't stand there, and the error of each.
func wrongWords() []struct {
	e    api.Errno
	list []string
} {
	return []struct {
		e    api.Errno
		list []string
	}{
		{api.ErrSyntax, []string{"Fee", "FEE", "fees", "fe", "none", "99213", "(", ")", ".", "edit"}},
		{api.ErrCode, []string{"none", "9921", "992133", "9921a", "9921.", "fee", "(", ")", "59", "99.13", "992l3"}},
		{api.ErrCode, []string{"None", "NONE", "no", "5", "590", "5a", "5.", "in", "out", "(", ")", "99213", "."}},
		{api.ErrSyntax, []string{"In", "OUT", "0", "1", "inn", "o", "none", "(", ")", "20240101", "."}},
		{api.ErrDate, []string{
			"0", "1", "10100", "10001", "101", "20230229", "19000229", "20240230", "20241301", "20240001", "20240100", "20240132", "20240431",
			"020240101", "00010101", "010101", "100000101", "202401010", "2024010", "20240101.", "20240101.0", "2024.0101", "x", "none", "in", "(", ")", "75.50",
			"4315207397", "18446744073729791717", "99999999999999999999",
		}},
		{api.ErrMoney, []string{"x", "fee", "(", ")", "5.", ".5", "5.555", "05", "00", "5.5.5", "1e3", "100000000000.01", "100000000001", "999999999999", "1000000000000", "5x", ".", "none"}},
	}
}

// Promise 12.4: each word of a row wrong by itself, and with others behind it.
func TestWrongWords(t *testing.T) {
	wrong := wrongWords()
	for _, ahead := range aheads {
		for at, w := range wrong {
			for _, word := range w.list {
				list := strings.Fields("fee 99213 none in 20240101 75.50")
				list[at] = "^" + word
				row := strings.Join(list, " ")
				expectMarked(t, ahead+row, w.e)
				// What stands behind the first wrong word plays no part, in that row and behind it.
				for _, behind := range []string{" ", " x", " " + good, " fee 99213 none in 0 x", strings.Repeat(" "+good, 600)} {
					expectMarked(t, ahead+row+behind, w.e)
				}
				for next := at + 1; next < 6; next++ {
					list[next] = wrong[next].list[0]
					expectMarked(t, ahead+strings.Join(list, " "), w.e)
				}
			}
		}
	}
}

// Promise 12.4: all ways in which some of a row's words are wrong; the first of them is told.
func TestSeveralWrongWords(t *testing.T) {
	wrong := wrongWords()
	for some := 1; some < 64; some++ {
		list := strings.Fields(good)
		first := -1
		for at := range list {
			if some>>at&1 == 0 {
				continue
			}
			list[at] = wrong[at].list[1]
			if first < 0 {
				first = at
				list[at] = "^" + list[at]
			}
		}
		expectMarked(t, strings.Join(list, " "), wrong[first].e)
		expectMarked(t, good+" "+strings.Join(list, " "), wrong[first].e)
	}
}

// Promise 12.4: ErrLimit at the first word of a row behind MaxFees, whatever stands there.
func TestRowsLimit(t *testing.T) {
	for _, count := range []int{511, 512} {
		expectParsed(t, printed(numbered(count)), numbered(count))
	}
	full := printed(numbered(512))
	for _, more := range []string{"fee ZZZZZ none in 20240101 1", "fee", "x", "x x x x x x", "(", "fee 99213 x", good + " " + good} {
		expectMarked(t, full+" ^"+more, api.ErrLimit)
		expectMarked(t, full+"\n\n ^"+more+" x", api.ErrLimit)
	}
	// Rows of one place are told at last, and in no other order than they stand in.
	expectMarked(t, strings.Repeat(good+" ", 512)+"^"+good, api.ErrLimit)
	expectFault(t, strings.Repeat(good+" ", 512), api.ErrTwice, 0)
	// A wrong word of a row ahead of it is told.
	expectMarked(t, strings.Replace(full, "00511 none in 20240101", "00511 none in ^20240100", 1)+" x", api.ErrDate)
	expectMarked(t, "^"+full[1:]+" x", api.ErrSyntax)
	expectMarked(t, printed(numbered(511))+" fee 00511^", api.ErrSyntax)
}

// Promise 12.4: rows of one place, wherever they stand, and whatever they cost.
func TestRowsOfOnePlace(t *testing.T) {
	expectFault(t, "fee 99213 none in 20240101 1 fee 99213 none in 20240101 2", api.ErrTwice, 0)
	expectFault(t, "fee 99213 none in 20240101 2 fee 99213 none in 20240101 1", api.ErrTwice, 0)
	expectFault(t, "  "+good+" "+good+" ", api.ErrTwice, 0)
	expectFault(t, "fee 99213 59 out 20240101 1 "+good+" fee 99213 59 out 20240101 1", api.ErrTwice, 0)
	r := rand.New(rand.NewSource(124))
	for range 300 {
		l := numbered(1 + r.Intn(511))
		other := slices.Insert(slices.Clone(l), r.Intn(len(l)+1), pick(r, l))
		r.Shuffle(len(other), func(i, j int) { other[i], other[j] = other[j], other[i] })
		expectFault(t, printed(other), api.ErrTwice, 0)
	}
	// Rows that differ in one thing alone are of two places.
	for _, s := range []string{"fee 99214 none in 20240101 1", "fee 99213 59 in 20240101 1", "fee 99213 none out 20240101 1", "fee 99213 none in 20240102 1"} {
		if l, f := Parse(good + " " + s); len(l) != 2 || f != (api.Fault{}) {
			t.Errorf("%q: %v, %v", s, l, f)
		}
	}
}

var (
	codeOf5 = regexp.MustCompile(`^[A-Z0-9]{5}$`)
	modWord = regexp.MustCompile(`^(none|[A-Z0-9]{2})$`)
	netWord = regexp.MustCompile(`^(in|out)$`)
	dayWord = regexp.MustCompile(`^([1-9][0-9]{0,3})(0[1-9]|1[0-2])([0-2][0-9]|3[01])$`)
	costs12 = regexp.MustCompile(`^(0|[1-9][0-9]{0,11})(\.[0-9]{1,2})?$`)
	oneWord = regexp.MustCompile(`[()]|[a-zA-Z0-9.]+`)
)

// faultOf is Parse's fault in another way, of a text whose bytes may all be, and whose days are in the first 28 of a month, or in none.
func faultOf(s string) api.Fault {
	list := oneWord.FindAllStringIndex(s, -1)
	places := map[string]bool{}
	twice := false
	for count := 0; count*6 < len(list); count++ {
		row := list[count*6:]
		if count == 512 {
			return api.Fault{Err: api.ErrLimit, At: row[0][0]}
		}
		if len(row) < 6 {
			return api.Fault{Err: api.ErrSyntax, At: len(s)}
		}
		word := func(i int) string { return s[row[i][0]:row[i][1]] }
		for i, c := range []struct {
			ok bool
			e  api.Errno
		}{
			{word(0) == "fee", api.ErrSyntax}, {codeOf5.MatchString(word(1)), api.ErrCode}, {modWord.MatchString(word(2)), api.ErrCode},
			{netWord.MatchString(word(3)), api.ErrSyntax}, {dayWord.MatchString(word(4)) && !strings.HasSuffix(word(4), "00"), api.ErrDate},
			{costs12.MatchString(word(5)), api.ErrMoney},
		} {
			if !c.ok {
				return api.Fault{Err: c.e, At: row[i][0]}
			}
		}
		place := word(1) + " " + word(2) + " " + word(3) + " " + word(4)
		twice = twice || places[place]
		places[place] = true
	}
	if twice {
		return api.Fault{Err: api.ErrTwice}
	}
	return api.Fault{}
}

// Promises 12.4 and P6: of texts by chance, most of whose words may stand where they do.
func TestParseByChance(t *testing.T) {
	r := rand.New(rand.NewSource(121))
	right := [][]string{
		{"fee"}, {"99213", "A9999", "00000", "ZZZZZ", "99214"}, {"none", "59", "25", "ZZ"}, {"in", "out"},
		{"20240101", "10101", "20241228", "99991201", "990930", "20240228"}, {"0", "1", "75.5", "75.50", "99999999999.99"},
	}
	any := []string{"fee", "99213", "none", "in", "20240101", "75.50", "(", ")", "x", "20240100", "007", "75.505", "59"}
	met := map[api.Errno]int{}
	for range 60000 {
		var s strings.Builder
		count := r.Intn(6) * 6
		if r.Intn(8) == 0 {
			count += r.Intn(6)
		}
		wrong := 1 + r.Intn(60)
		for i := range count {
			word := pick(r, right[i%6])
			if r.Intn(wrong) == 0 && r.Intn(4) == 0 {
				word = pick(r, any)
			}
			s.WriteString(word + pick(r, []string{" ", "\n", "  ", " \n"}))
		}
		text := s.String()
		want := faultOf(text)
		met[want.Err]++
		l, f := Parse(text)
		if f != want {
			t.Fatalf("Parse(%q): %v, want %v", text, f, want)
		}
		if f.Err != api.OK {
			continue
		}
		if len(l) != count/6 || Check(l) != api.OK {
			t.Fatalf("Parse(%q): %v", text, l)
		}
		again, e := Print(l)
		if e != api.OK || again != printed(l) {
			t.Fatalf("Print(%v): %q, %v", l, again, e)
		}
		expectParsed(t, again, l)
	}
	for _, e := range []api.Errno{api.OK, api.ErrSyntax, api.ErrCode, api.ErrDate, api.ErrMoney, api.ErrTwice} {
		if met[e] < 500 {
			t.Errorf("error %d just %d times", e, met[e])
		}
	}
}

// Promise P0: of any bytes Parse ends, and with a fault there is no table.
func TestParseAnything(t *testing.T) {
	r := rand.New(rand.NewSource(125))
	for range 20000 {
		b := []byte(good + "\n" + good)
		for range r.Intn(4) {
			b[r.Intn(len(b))] = byte(r.Intn(256))
		}
		s := string(b[:r.Intn(len(b)+1)])
		if l, f := Parse(s); f.Err != api.OK && len(l) != 0 || f.At < 0 || f.At > len(s) {
			t.Fatalf("Parse(%q): %v, %v", s, l, f)
		}
	}
}

// Rule R3: two answers share no memory.
func TestNewMemory(t *testing.T) {
	s := printed(numbered(10))
	first, _ := Parse(s)
	second, _ := Parse(s)
	for i := range first {
		first[i] = api.Fee{Proc: strconv.Itoa(i)}
	}
	_ = append(first, visit)
	if !slices.Equal(second, numbered(10)) {
		t.Errorf("%v", second)
	}
	expectParsed(t, s, numbered(10))
}
