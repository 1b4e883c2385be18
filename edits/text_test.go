package edits

import (
	"fmt"
	"math/rand"
	"regexp"
	"slices"
	"strings"
	"testing"

	"leechbook/api"
)

// texts are tables, and how they are printed.
var texts = []struct {
	l []api.Edit
	s string
}{
	{nil, ""},
	{[]api.Edit{panel}, "bundle 80050 99213 no"},
	{[]api.Edit{passed}, "bundle 80050 99213 yes"},
	{[]api.Edit{single}, "either J1100 A0428"},
	{[]api.Edit{capped}, "units J1100 3"},
	{[]api.Edit{passed, single}, "bundle 80050 99213 yes either J1100 A0428"},
	{
		[]api.Edit{
			{Kind: api.EUnits, A: "00000", N: 9999},
			{Kind: api.EEither, A: "ZZZZZ", B: "00000"},
			{Kind: api.EUnits, A: "ZZZZZ", N: 1},
			{Kind: api.EBundle, A: "UNITS", B: "00YES", Bypass: true},
			{Kind: api.EUnits, A: "000NO", N: 1000},
			{Kind: api.EUnits, A: "00000", N: 10},
			{Kind: api.EUnits, A: "00000", N: 10},
		},
		"units 00000 9999 either ZZZZZ 00000 units ZZZZZ 1 bundle UNITS 00YES yes units 000NO 1000 units 00000 10 units 00000 10",
	},
}

func expectPrinted(t *testing.T, l []api.Edit, want string) {
	t.Helper()
	if s, e := Print(l); s != want || e != api.OK {
		t.Errorf("Print(%s): %.300q, %v; want %.300q", short(l), s, e, want)
	}
}

func expectParsed(t *testing.T, s string, want []api.Edit) {
	t.Helper()
	if l, f := Parse(s); !slices.Equal(l, want) || f != (api.Fault{}) {
		t.Errorf("Parse(%.300q): %s, %v; want %s", s, short(l), f, short(want))
	}
}

func expectFault(t *testing.T, s string, e api.Errno, at int) {
	t.Helper()
	l, f := Parse(s)
	if f != (api.Fault{Err: e, At: at}) {
		t.Errorf("Parse(%.300q): %v, want %v", s, f, api.Fault{Err: e, At: at})
	}
	if len(l) != 0 {
		t.Errorf("Parse(%.300q): a table beside a fault: %s", s, short(l))
	}
}

// expectMarked is expectFault of a text in which a ^ stands ahead of the wrong word.
func expectMarked(t *testing.T, s string, e api.Errno) {
	t.Helper()
	before, behind, ok := strings.Cut(s, "^")
	if !ok {
		t.Fatalf("no mark in %q", s)
	}
	expectFault(t, before+behind, e, len(before))
}

// printed is a table's text in another way.
func printed(l []api.Edit) string {
	var rows []string
	for _, r := range l {
		s := ""
		switch {
		case r.Kind == api.EBundle && r.Bypass:
			s = fmt.Sprintf("bundle %s %s yes", r.A, r.B)
		case r.Kind == api.EBundle:
			s = fmt.Sprintf("bundle %s %s no", r.A, r.B)
		case r.Kind == api.EEither:
			s = fmt.Sprintf("either %s %s", r.A, r.B)
		case r.Kind == api.EUnits:
			s = fmt.Sprintf("units %s %d", r.A, r.N)
		}
		rows = append(rows, s)
	}
	return strings.Join(rows, " ")
}

// Promises 13.3 and 13.4: tables printed, and parsed.
func TestPrintAndParse(t *testing.T) {
	for _, c := range texts {
		expectCheck(t, c.l, api.OK)
		expectPrinted(t, c.l, c.s)
		expectParsed(t, c.s, c.l)
		// Blanks and ends of lines, as many as there are.
		expectParsed(t, "\n"+strings.ReplaceAll(c.s, " ", "\n\n  ")+" \n", c.l)
	}
	expectPrinted(t, []api.Edit{}, "")
	expectParsed(t, " ", nil)
	expectParsed(t, "\n \n", nil)
	r := rand.New(rand.NewSource(134))
	for range 500 {
		l := tableByChance(r, 256)
		expectPrinted(t, l, printed(l))
		expectParsed(t, printed(l), l)
	}
	// Each row that may be, of those of which most may not.
	for _, row := range allRows() {
		if wanted(row) == api.OK {
			expectPrinted(t, []api.Edit{row}, printed([]api.Edit{row}))
			expectParsed(t, printed([]api.Edit{row}), []api.Edit{row})
		}
	}
}

// Promise 13.4: all numbers of units, at and beyond their bounds.
func TestUnitsParsed(t *testing.T) {
	for n := 1; n <= 9999; n++ {
		expectParsed(t, fmt.Sprintf("units J1100 %d", n), []api.Edit{{Kind: api.EUnits, A: "J1100", N: n}})
	}
	for _, s := range []string{"0", "00", "0000", "00000", "01", "001", "0001", "09999", "10000", "99999", "10001", "65537", "4294967297", "18446744073709551617", "99999999999999999999"} {
		expectMarked(t, "units J1100 ^"+s, api.ErrSyntax)
	}
}

// Promise 13.3: the longest table's text is one that is parsed.
func TestLongest(t *testing.T) {
	l := slices.Repeat([]api.Edit{passed}, 256)
	s, e := Print(l)
	if e != api.OK || len(s) != 256*23-1 {
		t.Fatalf("%d bytes, %v", len(s), e)
	}
	expectParsed(t, s, l)
}

// Promise 13.4: words.Split's fault, ahead of all others.
func TestSplitFaults(t *testing.T) {
	const good = "bundle 80050 99213 yes"
	expectMarked(t, "^,", api.ErrSyntax)
	expectMarked(t, good+"^,", api.ErrSyntax)
	expectMarked(t, "x x x ^- 5", api.ErrSyntax)
	expectMarked(t, "units J1100 ^-1", api.ErrSyntax)
	expectMarked(t, "units J1100 1^\t", api.ErrSyntax)
	expectMarked(t, "units x 0 ^é,", api.ErrSyntax)
	expectMarked(t, strings.Repeat(good+" ", 257)+"^*", api.ErrSyntax)
	expectFault(t, strings.Repeat(" ", 65537), api.ErrLimit, 0)
	expectFault(t, good+strings.Repeat(",", 65537), api.ErrLimit, 0)
	expectFault(t, good+strings.Repeat(" ", 65537-len(good)), api.ErrLimit, 0)
	expectParsed(t, good+strings.Repeat(" ", 65536-len(good)), []api.Edit{passed})
	expectFault(t, "units"+strings.Repeat(" ", 65536-5), api.ErrSyntax, 65536)
}

// aheads are whole rows that may stand ahead of a wrong one.
var aheads = []string{"", " ", "\n", "units 00000 1 ", "either ZZZZZ 00000\n", "bundle ZZZZZ 00000 no units 99213 9999\n either 99213 80050  "}

// rowTexts are rows of each kind.
var rowTexts = []string{"bundle 80050 99213 yes", "bundle ZZZZZ 00000 no", "either J1100 A0428", "units J1100 3"}

// Promise 13.4: ErrSyntax where the text ends within a row, the chapter's example first.
func TestEndsWithinARow(t *testing.T) {
	expectFault(t, "units J1100", api.ErrSyntax, 11)
	for _, ahead := range aheads {
		for _, row := range rowTexts {
			list := strings.Fields(row)
			for count := 1; count < len(list); count++ {
				part := strings.Join(list[:count], " ")
				expectMarked(t, ahead+part+"^", api.ErrSyntax)
				expectMarked(t, ahead+part+"  \n ^", api.ErrSyntax)
			}
		}
	}
	// A wrong word of the row is told where it stands: it is met ahead of the end.
	expectMarked(t, "^x", api.ErrSyntax)
	expectMarked(t, "bundle ^9921", api.ErrCode)
	expectMarked(t, "either ^9921 ", api.ErrCode)
	expectMarked(t, "units ^9921\n", api.ErrCode)
	expectMarked(t, "bundle 80050 ^9921", api.ErrCode)
	expectMarked(t, "bundle 80050 ^80050", api.ErrCode)
	expectMarked(t, "bundle 80050 99213 ^bundle", api.ErrSyntax)
	expectMarked(t, "either 80050 99213 ^yes", api.ErrSyntax)
	expectMarked(t, "units ^x 0 either", api.ErrCode)
	expectMarked(t, "units 99213 ^0 either", api.ErrSyntax)
}

// wrongWords are words that can't stand in a place of a row, and the error of each.
type wrongWords struct {
	e    api.Errno
	list []string
}

var (
	wrongFirst  = wrongWords{api.ErrSyntax, []string{"x", "Bundle", "EITHER", "unit", "unitss", "bundles", "eithe", "yes", "no", "fee", "99213", "3", "(", ")", "."}}
	wrongCode   = wrongWords{api.ErrCode, []string{"x", "none", "9921", "992133", "9921a", "9921.", "bundle", "either", "units", "yes", "3", "(", ")", "99.13", "992l3", "."}}
	wrongAnswer = wrongWords{api.ErrSyntax, []string{"x", "Yes", "YES", "No", "NO", "y", "n", "yesno", "0", "1", "true", "59", "99213", "bundle", "units", "(", ")", "."}}
	wrongNumber = wrongWords{api.ErrSyntax, []string{"x", "0", "00", "03", "003", "0003", "10000", "99999", "3.", "3.0", ".3", "3x", "1e3", "yes", "units", "99213", "A0428", "(", ")", "."}}
)

// wrongPlaces are, by the kind of the row, what can't stand at its places.
func wrongPlaces(row string) []wrongWords {
	list := strings.Fields(row)
	if list[0] == "units" {
		return []wrongWords{wrongFirst, wrongCode, wrongNumber}
	}
	b := wrongWords{api.ErrCode, append([]string{list[1]}, wrongCode.list...)}
	return []wrongWords{wrongFirst, wrongCode, b, wrongAnswer}[:len(list)]
}

// Promise 13.4: each word of each kind of row wrong by itself, and with others behind it.
func TestWrongWords(t *testing.T) {
	for _, row := range rowTexts {
		for at, wrong := range wrongPlaces(row) {
			for _, word := range wrong.list {
				list := strings.Fields(row)
				list[at] = "^" + word
				for _, ahead := range aheads {
					expectMarked(t, ahead+strings.Join(list, " "), wrong.e)
					// What stands behind the first wrong word plays no part, in that row and behind it.
					for _, behind := range []string{" ", " x", " units", " units J1100 0", " " + row, strings.Repeat(" units J1100 1", 300)} {
						expectMarked(t, ahead+strings.Join(list, " ")+behind, wrong.e)
						expectMarked(t, ahead+strings.Join(list[:at+1], " ")+behind, wrong.e)
					}
				}
			}
		}
	}
}

// Promise 13.4: all ways in which some of a row's words are wrong; the first of them is told.
func TestSeveralWrongWords(t *testing.T) {
	for _, row := range rowTexts {
		places := wrongPlaces(row)
		for some := 1; some < 1<<len(places); some++ {
			list := strings.Fields(row)
			first := -1
			for at := range list {
				if some>>at&1 == 0 {
					continue
				}
				list[at] = places[at].list[1]
				if first < 0 {
					first = at
					list[at] = "^" + list[at]
				}
			}
			for _, ahead := range aheads {
				expectMarked(t, ahead+strings.Join(list, " "), places[first].e)
			}
		}
	}
}

// Promise 13.4: a B that is A, in a row of its kind alone.
func TestBIsA(t *testing.T) {
	for _, s := range []string{"00000", "99213", "ZZZZZ", "J1100"} {
		expectMarked(t, "bundle "+s+" ^"+s+" yes", api.ErrCode)
		expectMarked(t, "bundle "+s+" ^"+s+" x", api.ErrCode)
		expectMarked(t, "either "+s+" ^"+s, api.ErrCode)
		expectMarked(t, "units "+s+" ^"+s, api.ErrSyntax)
	}
	// A code may be another row's.
	expectParsed(t, "either J1100 A0428 either A0428 J1100 units J1100 3", []api.Edit{single, {Kind: api.EEither, A: "A0428", B: "J1100"}, capped})
}

// Promise 13.4: ErrLimit at the first word of a row behind MaxEdits, whatever stands there.
func TestRowsLimit(t *testing.T) {
	for _, count := range []int{255, 256} {
		expectParsed(t, printed(numbered(count)), numbered(count))
	}
	for _, full := range []string{printed(numbered(256)), strings.TrimSpace(strings.Repeat("units J1100 1 ", 256))} {
		for _, more := range []string{"units J1100 3", "units", "x", "x x x", "(", "bundle 80050", "either 80050 80050", "bundle 80050 99213 yes"} {
			expectMarked(t, full+" ^"+more, api.ErrLimit)
			expectMarked(t, full+"\n\n ^"+more+" x", api.ErrLimit)
		}
		expectFault(t, full[1:]+" units J1100 3", api.ErrSyntax, 0)
	}
	// A wrong word of the last row that may be, or the end within it, is told as what it is.
	almost := printed(numbered(255))
	expectMarked(t, almost+" units ^9921 3 units J1100 3", api.ErrCode)
	expectMarked(t, almost+" units 99213 ^0 x", api.ErrSyntax)
	expectMarked(t, almost+" ^x", api.ErrSyntax)
	expectMarked(t, almost+" units 99213^", api.ErrSyntax)
}

var (
	codeOf5 = regexp.MustCompile(`^[A-Z0-9]{5}$`)
	numbers = regexp.MustCompile(`^[1-9][0-9]{0,3}$`)
	oneWord = regexp.MustCompile(`[()]|[a-zA-Z0-9.]+`)
)

// faultOf is Parse's fault in another way, of a text whose bytes may all be: by what is awaited at each word.
func faultOf(s string) api.Fault {
	count, state, a := 0, "row", ""
	next := map[string]string{"bundle": "A yes", "either": "A", "units": "A number"}
	behind := ""
	for _, at := range oneWord.FindAllStringIndex(s, -1) {
		w := s[at[0]:at[1]]
		ok, e := true, api.ErrSyntax
		switch state {
		case "row":
			if count == 256 {
				return api.Fault{Err: api.ErrLimit, At: at[0]}
			}
			count++
			behind, ok = next[w]
			state = "A"
		case "A":
			ok, e = codeOf5.MatchString(w), api.ErrCode
			a, state = w, "B"
			if behind == "A number" {
				state = "number"
			}
		case "B":
			ok, e = codeOf5.MatchString(w) && w != a, api.ErrCode
			state = "row"
			if behind == "A yes" {
				state = "yes"
			}
		case "number":
			ok, state = numbers.MatchString(w), "row"
		case "yes":
			ok, state = w == "yes" || w == "no", "row"
		}
		if !ok {
			return api.Fault{Err: e, At: at[0]}
		}
	}
	if state != "row" {
		return api.Fault{Err: api.ErrSyntax, At: len(s)}
	}
	return api.Fault{}
}

// wordsByChance are the words of rows, most of which may stand where they do.
func wordsByChance(r *rand.Rand) []string {
	list := oneWord.FindAllString(printed(tableByChance(r, 6)), -1)
	any := []string{"bundle", "either", "units", "yes", "no", "99213", "80050", "J1100", "0", "3", "9999", "10000", "007", "(", ")", "x", "59"}
	for r.Intn(3) == 0 && len(list) > 0 {
		at := r.Intn(len(list))
		switch r.Intn(5) {
		case 0:
			list = slices.Insert(list, at, pick(r, any))
		case 1:
			list = slices.Delete(list, at, at+1)
		case 2:
			list = list[:at]
		case 3:
			list[at] = list[max(at-1, 0)]
		default:
			list[at] = pick(r, any)
		}
	}
	return list
}

// Promises 13.4 and P6: of texts by chance.
func TestParseByChance(t *testing.T) {
	r := rand.New(rand.NewSource(131))
	met := map[api.Errno]int{}
	for range 60000 {
		text := ""
		for _, w := range wordsByChance(r) {
			text += w + pick(r, []string{" ", "\n", "  ", " \n"})
		}
		want := faultOf(text)
		met[want.Err]++
		l, f := Parse(text)
		if f != want || f.Err != api.OK && len(l) != 0 {
			t.Fatalf("Parse(%q): %v, %v, want %v", text, l, f, want)
		}
		if f.Err != api.OK {
			continue
		}
		again := strings.Join(oneWord.FindAllString(text, -1), " ")
		if Check(l) != api.OK || printed(l) != again {
			t.Fatalf("Parse(%q): %v", text, l)
		}
		expectPrinted(t, l, again)
		expectParsed(t, again, l)
	}
	for _, e := range []api.Errno{api.OK, api.ErrSyntax, api.ErrCode} {
		if met[e] < 1000 {
			t.Errorf("error %d just %d times", e, met[e])
		}
	}
}

// Promise P0: of any bytes Parse ends, and with a fault there is no table.
func TestParseAnything(t *testing.T) {
	r := rand.New(rand.NewSource(132))
	good := strings.Join(rowTexts, "\n")
	for range 20000 {
		b := []byte(good)
		for range r.Intn(4) {
			b[r.Intn(len(b))] = byte(r.Intn(256))
		}
		s := string(b[:r.Intn(len(b)+1)])
		l, f := Parse(s)
		if f.Err != api.OK && len(l) != 0 || f.At < 0 || f.At > len(s) {
			t.Fatalf("Parse(%q): %v, %v", s, l, f)
		}
		if f.Err == api.OK && (f.At != 0 || Check(l) != api.OK) {
			t.Fatalf("Parse(%q): %v, %v", s, l, f)
		}
	}
}

// Rule R3: two answers share no memory.
func TestNewMemory(t *testing.T) {
	s := printed(numbered(10))
	first, _ := Parse(s)
	second, _ := Parse(s)
	for i := range first {
		first[i] = api.Edit{}
	}
	_ = append(first, panel)
	if !slices.Equal(second, numbered(10)) {
		t.Errorf("%v", second)
	}
	expectParsed(t, s, numbered(10))
}
