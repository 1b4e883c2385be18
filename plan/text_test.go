package plan

import (
	"fmt"
	"math/rand"
	"reflect"
	"regexp"
	"slices"
	"strconv"
	"strings"
	"testing"

	"leechbook/api"
)

const (
	head = "plan embedded member 500 2000 family 1000 4000"
	// whole has each kind of word.
	whole = "plan aggregate member 500 2000.5 family 1000.05 4000" +
		" rule 9999 if ( proc 99200 99300 and not mod 59 ) unless ( units 3 or billed 75.50 ) set cover yes deduct no copay 20 coins 2000 end" +
		" rule 0 if all set coins 10000 end" +
		" rule 7 if not ( ( out or all ) and mod 25 ) unless out set deduct yes end"
)

// texts are plans, and how they are printed.
var texts = []struct {
	p api.Plan
	s string
}{
	{api.Plan{}, "plan embedded member 0.00 0.00 family 0.00 0.00"},
	{withRules(), "plan embedded member 500.00 2000.00 family 1000.00 4000.00"},
	{api.Plan{Mode: 1, IndDed: 1, IndOop: 20, FamDed: 300, FamOop: 4005}, "plan aggregate member 0.01 0.20 family 3.00 40.05"},
	{api.Plan{Mode: 1, IndDed: api.MaxCents, IndOop: api.MaxCents, FamDed: api.MaxCents, FamOop: api.MaxCents},
		"plan aggregate member 100000000000.00 100000000000.00 family 100000000000.00 100000000000.00"},
	{withRules(covered(all)), "plan embedded member 500.00 2000.00 family 1000.00 4000.00 rule 1 if all set cover yes end"},
	{
		api.Plan{Mode: 1, IndDed: 50000, FamDed: 100005, IndOop: 200050, FamOop: 400000, Rules: []api.Rule{
			{Rank: 9999, If: and(visits, not(mod59)), Unless: []api.Cond{or(units(3), billed(7550))}, Sets: []api.Set{{What: api.SCover, N: 1}, {What: api.SDeduct}, {What: api.SCopay, N: 2000}, {What: api.SCoins, N: 2000}}},
			{If: all, Sets: []api.Set{{What: api.SCoins, N: 10000}}},
			{Rank: 7, If: not(and(or(out, all), api.Cond{Kind: api.CMod, Lo: "25"})), Unless: []api.Cond{out}, Sets: []api.Set{{What: api.SDeduct, N: 1}}},
		}},
		"plan aggregate member 500.00 2000.50 family 1000.05 4000.00" +
			" rule 9999 if ( proc 99200 99300 and not mod 59 ) unless ( units 3 or billed 75.50 ) set cover yes deduct no copay 20.00 coins 2000 end" +
			" rule 0 if all set coins 10000 end" +
			" rule 7 if not ( ( out or all ) and mod 25 ) unless out set deduct yes end",
	},
	{
		api.Plan{Rules: []api.Rule{
			{If: units(0), Sets: []api.Set{{What: api.SCoins}, {What: api.SCopay}, {What: api.SDeduct}, {What: api.SCover}}},
			{If: units(9999), Sets: []api.Set{{What: api.SCopay, N: api.MaxCents}}},
			{Rank: 10, If: billed(0), Sets: []api.Set{{What: api.SCoins, N: 1}}},
			{Rank: 100, If: billed(api.MaxCents), Sets: []api.Set{{What: api.SCopay, N: 7}}},
			{Rank: 1000, If: api.Cond{Kind: api.CProc, Lo: "ZZZZZ", Hi: "00000"}, Sets: []api.Set{{What: api.SCover}}},
		}},
		"plan embedded member 0.00 0.00 family 0.00 0.00" +
			" rule 0 if units 0 set coins 0 copay 0.00 deduct no cover no end" +
			" rule 0 if units 9999 set copay 100000000000.00 end" +
			" rule 10 if billed 0.00 set coins 1 end" +
			" rule 100 if billed 100000000000.00 set copay 0.07 end" +
			" rule 1000 if proc ZZZZZ 00000 set cover no end",
	},
	{withRules(covered(nested(not, 15, out))),
		"plan embedded member 500.00 2000.00 family 1000.00 4000.00 rule 1 if" + strings.Repeat(" not", 15) + " out set cover yes end"},
	{withRules(covered(nested(shapes[2], 15, mod59))),
		"plan embedded member 500.00 2000.00 family 1000.00 4000.00 rule 1 if" + strings.Repeat(" ( out and", 15) + " mod 59" + strings.Repeat(" )", 15) + " set cover yes end"},
}

func samePlan(a, b api.Plan) bool { return reflect.DeepEqual(bare(a), bare(b)) }

// bare is a plan in which lists without elements are nil, as both are the same.
func bare(p api.Plan) api.Plan {
	p.Rules = slices.Clone(p.Rules)
	if len(p.Rules) == 0 {
		p.Rules = nil
	}
	for i, r := range p.Rules {
		p.Rules[i].If = bareCond(r.If)
		p.Rules[i].Unless = bareConds(r.Unless)
		if len(r.Sets) == 0 {
			p.Rules[i].Sets = nil
		}
	}
	return p
}

func bareConds(l []api.Cond) []api.Cond {
	if len(l) == 0 {
		return nil
	}
	made := make([]api.Cond, len(l))
	for i, c := range l {
		made[i] = bareCond(c)
	}
	return made
}

func bareCond(c api.Cond) api.Cond {
	c.Kids = bareConds(c.Kids)
	return c
}

func expectPrinted(t *testing.T, p api.Plan, want string) {
	t.Helper()
	if s, e := Print(p); s != want || e != api.OK {
		t.Errorf("Print(%.300s): %.300q, %v; want %.300q", fmt.Sprint(p), s, e, want)
	}
}

func expectParsed(t *testing.T, s string, want api.Plan) {
	t.Helper()
	if p, f := Parse(s); !samePlan(p, want) || f != (api.Fault{}) {
		t.Errorf("Parse(%.300q): %.300s, %v; want %.300s", s, fmt.Sprint(p), f, fmt.Sprint(want))
	}
}

func expectFault(t *testing.T, s string, e api.Errno, at int) {
	t.Helper()
	p, f := Parse(s)
	if f != (api.Fault{Err: e, At: at}) {
		t.Errorf("Parse(%.300q): %v, want %v", s, f, api.Fault{Err: e, At: at})
	}
	if !reflect.DeepEqual(bare(p), api.Plan{}) {
		t.Errorf("Parse(%.300q): a plan beside a fault: %.300s", s, fmt.Sprint(p))
	}
}

// expectMarked is expectFault of a text in which a ^ stands ahead of the wrong word.
func expectMarked(t *testing.T, s string, e api.Errno) {
	t.Helper()
	before, behind, ok := strings.Cut(s, "^")
	if !ok {
		t.Fatalf("no mark in %q", s)
	}
	expectFault(t, before+behind, e, len(before))
}

// Promises 10.4, 10.5 and 10.6: plans printed, and parsed.
func TestPrintAndParse(t *testing.T) {
	for _, c := range texts {
		expectCheck(t, c.p, true)
		expectPrinted(t, c.p, c.s)
		expectParsed(t, c.s, c.p)
	}
	expectParsed(t, whole, texts[5].p)
	expectParsed(t, head, withRules())
	// Blanks, ends of lines, and none about brackets.
	expectParsed(t, "\n"+strings.ReplaceAll(whole, " ", "\n\n  ")+" \n", texts[5].p)
	expectParsed(t, strings.NewReplacer("( ", "(", " (", "(", " )", ")", ") ", ")").Replace(whole), texts[5].p)
	// Amounts with no digits behind a dot, with one, with two.
	want := api.Plan{IndDed: 500, IndOop: 550, FamDed: 555, FamOop: 600}
	expectParsed(t, "plan embedded member 5 5.5 family 5.55 6.00", want)
}

// fitted is a plan whose text is of just so many bytes, and that plan with one byte more.
func fitted(t *testing.T, size int) (api.Plan, api.Plan) {
	t.Helper()
	l := slices.Repeat([]api.Rule{covered(nested(both, 6, all))}, 64)
	length := func() int {
		total := len(texts[1].s)
		for _, r := range l {
			alone, e := Print(withRules(r))
			if e != api.OK {
				t.Fatal(e)
			}
			total += len(alone) - len(texts[1].s)
		}
		return total
	}
	for i := range l {
		for about := range 8 {
			before := l[i].Unless
			l[i].Unless = []api.Cond{nested(both, about, all)}
			if length() > size {
				l[i].Unless = before
			}
		}
	}
	// Each nought behind a rank is a byte more.
	left := size - length()
	if left > 3*len(l)-1 {
		t.Fatalf("%d bytes are left", left)
	}
	for i := range left {
		l[i/3].Rank *= 10
	}
	more := slices.Clone(l)
	more[left/3].Rank *= 10
	return withRules(l...), withRules(more...)
}

// Promises 10.4 and 10.5: a text of just MaxText bytes is printed and parsed; one with a byte more is not.
func TestBytesLimit(t *testing.T) {
	if api.MaxText != 65536 {
		t.Fatal(api.MaxText)
	}
	full, more := fitted(t, 65536)
	s, e := Print(full)
	if len(s) != 65536 || e != api.OK {
		t.Fatalf("%d bytes, %v", len(s), e)
	}
	expectParsed(t, s, full)
	expectFault(t, s+" ", api.ErrLimit, 0)
	expectFault(t, "x"+s, api.ErrLimit, 0)
	expectCheck(t, more, true)
	if s, e := Print(more); s != "" || e != api.ErrLimit {
		t.Errorf("%d bytes, %v", len(s), e)
	}
	// More conditions than could be printed at all.
	huge := covered(nested(both, 15, visits))
	huge.Unless = []api.Cond{huge.If}
	p := withRules(slices.Repeat([]api.Rule{huge}, 64)...)
	expectCheck(t, p, true)
	if s, e := Print(p); s != "" || e != api.ErrLimit {
		t.Errorf("%d bytes, %v", len(s), e)
	}
	// What may not be is told ahead of what is too long.
	p.FamOop = 0
	expectCheck(t, p, false)
}

// Promise 10.5: words.Split's fault, ahead of all others.
func TestSplitFaults(t *testing.T) {
	expectMarked(t, "^,", api.ErrSyntax)
	expectMarked(t, head+"^,", api.ErrSyntax)
	expectMarked(t, "plan x y z ^- 5", api.ErrSyntax)
	expectMarked(t, whole+" rule ^-1 if all set cover yes end", api.ErrSyntax)
	expectMarked(t, whole+"^\t", api.ErrSyntax)
	expectMarked(t, "x x ^é,", api.ErrSyntax)
	expectFault(t, strings.Repeat(" ", 65537), api.ErrLimit, 0)
	expectFault(t, head+strings.Repeat(",", 65537), api.ErrLimit, 0)
	expectFault(t, head+strings.Repeat(" ", 65537-len(head)), api.ErrLimit, 0)
	expectParsed(t, head+strings.Repeat(" ", 65536-len(head)), withRules())
}

// Promise 10.5: ErrSyntax at a word that can't stand there, the chapter's example first.
func TestSyntaxFaults(t *testing.T) {
	for _, s := range []string{
		"plan embedded ^x",
		"^", "  ^", "\n^", "^x", "  ^x", "^Plan", "^plans embedded", "^( plan",
		"plan^", "plan   ^", "plan ^x", "plan ^Embedded", "plan ^member", "plan ^( embedded",
		"plan embedded^", "plan embedded ^family", "plan embedded ^aggregate", "plan embedded ^500",
		"plan embedded member 1 2^", "plan embedded member 1 2 ^3", "plan embedded member 1 2 ^rule", "plan embedded member 1 2 ^member",
		head + " ^x", head + " ^plan", head + " ^5", head + " ^end", head + " ^(", head + " ^if all set cover yes end",
		head + " rule 1^", head + " rule 1 ^all", head + " rule 1 ^If", head + " rule 1 ^unless out",
		head + " rule 1 if^", head + " rule 1 if ^x", head + " rule 1 if ^set", head + " rule 1 if ^and", head + " rule 1 if ^)", head + " rule 1 if ^5", head + " rule 1 if ^ALL", head + " rule 1 if ^if",
		head + " rule 1 if all^", head + " rule 1 if all ^and out", head + " rule 1 if all ^or out", head + " rule 1 if all ^end", head + " rule 1 if all ^cover yes", head + " rule 1 if all ^all", head + " rule 1 if all ^)",
		head + " rule 1 if not^", head + " rule 1 if not ^set", head + " rule 1 if not ^x",
		head + " rule 1 if (^", head + " rule 1 if ( ^)", head + " rule 1 if ( ^and", head + " rule 1 if (^x",
		head + " rule 1 if ( all^", head + " rule 1 if ( all ^)", head + " rule 1 if ( all ^all", head + " rule 1 if ( all ^xor", head + " rule 1 if (all^)", head + " rule 1 if ( all ^unless",
		head + " rule 1 if ( all and^", head + " rule 1 if ( all and ^)", head + " rule 1 if ( all or ^and", head + " rule 1 if ( all or ^x",
		head + " rule 1 if ( all and out^", head + " rule 1 if ( all and out ^and", head + " rule 1 if ( all or out ^or out )", head + " rule 1 if ( all and out ^set", head + " rule 1 if ( all and out ^(",
		head + " rule 1 if ( all and out )^", head + " rule 1 if ( all and out ) ^)", head + " rule 1 if ( all and out ) ^and out",
		head + " rule 1 if all unless^", head + " rule 1 if all unless ^x", head + " rule 1 if all unless ^unless", head + " rule 1 if all unless ^set",
		head + " rule 1 if all unless out^", head + " rule 1 if all unless out ^unless out", head + " rule 1 if all unless out ^cover", head + " rule 1 if all unless out ^end",
		head + " rule 1 if all set^", head + " rule 1 if all set ^x", head + " rule 1 if all set ^set", head + " rule 1 if all set ^yes", head + " rule 1 if all set ^unless", head + " rule 1 if all set ^Cover yes",
		head + " rule 1 if all set ^end", // one or more are set
		head + " rule 1 if all unless out set ^end",
		head + " rule 1 if all set cover^", head + " rule 1 if all set cover ^maybe", head + " rule 1 if all set cover ^1", head + " rule 1 if all set cover ^Yes", head + " rule 1 if all set cover ^end", head + " rule 1 if all set cover ^cover",
		head + " rule 1 if all set deduct^", head + " rule 1 if all set deduct ^x", head + " rule 1 if all set deduct ^0", head + " rule 1 if all set deduct ^NO",
		head + " rule 1 if all set cover yes^", head + " rule 1 if all set cover yes ^x", head + " rule 1 if all set cover yes ^no", head + " rule 1 if all set cover yes ^rule", head + " rule 1 if all set cover yes ^unless out", head + " rule 1 if all set cover yes ^)",
		head + " rule 1 if all set cover yes end ^end", head + " rule 1 if all set cover yes end ^x", head + " rule 1 if all set cover yes end ^plan", head + " rule 1 if all set cover yes end ^coins 1",
		head + " rule 1 if all set cover yes end rule^",
	} {
		expectMarked(t, s, api.ErrSyntax)
		// What stands behind the first fault plays no part.
		if !strings.HasSuffix(strings.TrimSuffix(s, " "), "^") {
			expectMarked(t, s+" x ( 12.345 ) rule rule", api.ErrSyntax)
		}
	}
}

// Promise 10.5: ReadMoney's error at a word that must be an amount.
func TestAmountFaults(t *testing.T) {
	for _, ahead := range []string{
		"plan embedded member ", "plan embedded member 5 ", "plan aggregate member 5 5 family ", "plan embedded member 5 5 family 5 ",
		head + " rule 1 if billed ", head + " rule 1 if not ( all or billed ", head + " rule 1 if all unless billed ",
		head + " rule 1 if all set copay ", head + " rule 1 if all set cover yes copay ",
	} {
		for _, word := range []string{
			"x", "family", "rule", "(", ")", "5.", ".5", "5.555", "05", "00", "5.5.5", "1e3", "100000000000.01", "100000000001", "999999999999", "1000000000000", "5x", ".",
		} {
			expectMarked(t, ahead+"^"+word, api.ErrMoney)
			expectMarked(t, ahead+"^"+word+" x x", api.ErrMoney)
		}
		expectMarked(t, ahead+"^", api.ErrMoney)
		expectMarked(t, strings.TrimSuffix(ahead, " ")+"^", api.ErrMoney)
	}
}

// Promise 10.5: ErrCode at a word that must be a code.
func TestCodeFaults(t *testing.T) {
	for ahead, long := range map[string]bool{
		head + " rule 1 if proc ": true, head + " rule 1 if proc 99200 ": true, head + " rule 1 if ( all and not proc ": true, head + " rule 1 if all unless proc 99200 ": true,
		head + " rule 1 if mod ": false, head + " rule 1 if ( mod ": false, head + " rule 1 if all unless not mod ": false,
	} {
		wrong := []string{"x", "(", ")", "5", "590", "5a", "and", "5.", "set", "99213"}
		if long {
			wrong = []string{"x", "(", ")", "9920", "992000", "9920a", "and", "9920.", "59", "cover"}
		}
		for _, word := range wrong {
			expectMarked(t, ahead+"^"+word, api.ErrCode)
			expectMarked(t, ahead+"^"+word+" x x", api.ErrCode)
		}
		expectMarked(t, ahead+"^", api.ErrCode)
		expectMarked(t, strings.TrimSuffix(ahead, " ")+"^", api.ErrCode)
	}
}

// Promise 10.5: ErrSyntax at a word that must be a number and is none, or is too great.
func TestNumberFaults(t *testing.T) {
	const behindRank, behindUnits, behindCoins = " if all set cover yes end", " set cover yes end", " end"
	for _, c := range []struct {
		ahead, behind string
		most          int
	}{
		{head + " rule ", behindRank, 9999},
		{head + " rule 1 if all set cover yes end rule ", behindRank, 9999},
		{head + " rule 1 if units ", behindUnits, 9999},
		{head + " rule 1 if not units ", behindUnits, 9999},
		{head + " rule 1 if all unless units ", behindUnits, 9999},
		{head + " rule 1 if all set coins ", behindCoins, 10000},
		{head + " rule 1 if all set cover no coins ", behindCoins, 10000},
	} {
		for _, n := range []int{0, 1, 9, 10, 99, 100, 999, 1000, 9998, 9999, 10000, 10001, 10010, 20000, 99999, 100000, 1 << 32} {
			if n > c.most {
				expectMarked(t, c.ahead+"^"+strconv.Itoa(n)+c.behind, api.ErrSyntax)
			} else if _, f := Parse(c.ahead + strconv.Itoa(n) + c.behind); f != (api.Fault{}) {
				t.Errorf("%s%d: %v", c.ahead, n, f)
			}
		}
		for _, word := range []string{"x", "if", "set", "end", "(", ")", "5.0", "5.", "00", "007", "01", "5x", "99999999999999999999"} {
			expectMarked(t, c.ahead+"^"+word+c.behind, api.ErrSyntax)
		}
		expectMarked(t, c.ahead+"^", api.ErrSyntax)
		expectMarked(t, strings.TrimSuffix(c.ahead, " ")+"^", api.ErrSyntax)
	}
}

// Promise 10.5: ErrLimit where a condition would lie deeper than MaxNest.
func TestDepthFaults(t *testing.T) {
	for _, ahead := range []string{head + " rule 1 if ", head + " rule 1 if all unless "} {
		for _, shape := range []struct{ open, close string }{
			{"not ", ""}, {"( ", " and all )"}, {"(", " or out)"}, {"( all and ", " )"}, {"(out or(all and ", "))"},
		} {
			levels := strings.Count(shape.open, "(") + strings.Count(shape.open, "not")
			deepest := 15 / levels
			rest := strings.Repeat("not ", 15%levels)
			open, close := strings.Repeat(shape.open, deepest)+rest, strings.Repeat(shape.close, deepest)
			for _, word := range []string{"all", "out", "proc 99200 99300", "mod 59", "units 5", "billed 5"} {
				if _, f := Parse(ahead + open + word + close + " set cover yes end"); f != (api.Fault{}) {
					t.Errorf("%q: %v", open+word+close, f)
				}
				expectMarked(t, ahead+open+"not ^"+word+close+" set cover yes end", api.ErrLimit)
				expectMarked(t, ahead+open+"( ^"+word+" and all )"+close+" set cover yes end", api.ErrLimit)
				expectMarked(t, ahead+open+"not ^"+word+" x", api.ErrLimit)
			}
			// What follows the word that would begin one plays no part.
			expectMarked(t, ahead+open+"not ^not", api.ErrLimit)
			expectMarked(t, ahead+open+"not ^( x", api.ErrLimit)
			expectMarked(t, ahead+open+"not ^proc x", api.ErrLimit)
			expectMarked(t, ahead+open+"not ^billed x", api.ErrLimit)
			expectMarked(t, ahead+open+"not ^not not not not", api.ErrLimit)
			// A word that begins no condition can't stand there at any depth.
			expectMarked(t, ahead+open+"not ^x", api.ErrSyntax)
			expectMarked(t, ahead+open+"not ^)", api.ErrSyntax)
			expectMarked(t, ahead+open+"not^", api.ErrSyntax)
		}
	}
	// The second of two lies as deep as the first one.
	expectMarked(t, head+" rule 1 if "+strings.Repeat("not ", 14)+"( all and not ^all ) set cover yes end", api.ErrLimit)
	// Far deeper, and a great many side by side.
	expectMarked(t, head+" rule 1 if "+strings.Repeat("(", 16)+"^"+strings.Repeat("(", 60000), api.ErrLimit)
	expectMarked(t, head+" rule 1 if "+strings.Repeat("not ", 16)+"^"+strings.Repeat("not ", 15000), api.ErrLimit)
}

// Promise 10.5: ErrLimit where a rule more than MaxRules begins.
func TestRulesFault(t *testing.T) {
	full := head + strings.Repeat(" rule 1 if all set cover yes end", 64)
	expectParsed(t, full, withRules(slices.Repeat([]api.Rule{covered(all)}, 64)...))
	expectMarked(t, full+" ^rule 1 if all set cover yes end", api.ErrLimit)
	expectMarked(t, full+" ^rule x", api.ErrLimit)
	expectMarked(t, full+" ^rule", api.ErrLimit)
	expectMarked(t, full+" ^x", api.ErrSyntax)
	expectMarked(t, full+" ^end", api.ErrSyntax)
	expectMarked(t, strings.Replace(full, "yes", "^no1", 1)+" rule 1", api.ErrSyntax)
	// Check's error comes at last.
	expectMarked(t, strings.Replace(full, "member 500", "member 5000", 1)+" ^rule", api.ErrLimit)
}

// Promise 10.5: ErrTwice at the word that names it, behind the fault of what follows it.
func TestTwiceFaults(t *testing.T) {
	ahead := head + " rule 1 if all set "
	good := map[string][]string{"cover": {"yes", "no"}, "deduct": {"no", "yes"}, "copay": {"5", "5.5"}, "coins": {"5", "10000"}}
	bad := map[string]api.Errno{"cover": api.ErrSyntax, "deduct": api.ErrSyntax, "copay": api.ErrMoney, "coins": api.ErrSyntax}
	for what, values := range good {
		for other, otherValues := range good {
			between := ""
			if other != what {
				between = other + " " + otherValues[0] + " "
			}
			for _, value := range values {
				first := ahead + what + " " + values[0] + " " + between
				expectMarked(t, first+"^"+what+" "+value+" end", api.ErrTwice)
				expectMarked(t, first+"^"+what+" "+value, api.ErrTwice)
				expectMarked(t, first+"^"+what+" "+value+" x", api.ErrTwice)
				expectMarked(t, first+"^"+what+" "+value+" "+what+" x", api.ErrTwice)
				expectMarked(t, first+what+" ^x end", bad[what])
				expectMarked(t, first+what+" ^end", bad[what])
				expectMarked(t, first+what+"^", bad[what])
			}
		}
		// Another rule may set it, too.
		once := "rule 1 if all set " + what + " " + values[0] + " end "
		if _, f := Parse(head + " " + once + once); f != (api.Fault{}) {
			t.Errorf("%s in two rules: %v", what, f)
		}
	}
	expectMarked(t, ahead+"coins 5 coins ^10001 end", api.ErrSyntax)
}

// Promise 10.5: Check's error at last, At 0.
func TestCheckFaults(t *testing.T) {
	for _, s := range []string{
		"plan embedded member 5 4 family 5 5", "plan embedded member 5 5 family 4 5", "plan embedded member 5 5 family 6 5", "plan aggregate member 5 6 family 5 5.99",
		" plan embedded member 0.01 0 family 1 1", "plan aggregate member 5 5 family 5 0",
	} {
		expectFault(t, s, api.ErrPlan, 0)
		expectFault(t, "\n "+s+" rule 1 if all set cover yes end", api.ErrPlan, 0)
		expectMarked(t, s+" ^x", api.ErrSyntax)
		expectMarked(t, s+" rule 1 if mod ^x", api.ErrCode)
	}
}

// step is what the chapter says may stand at a place: a word, or one of the names in capitals below; a COND has so many about it.
type step struct {
	name  string
	depth int
}

// expected is what the chapter asks of a text, by a list of what must still come.
func expected(s string) api.Fault {
	places := regexp.MustCompile(`[()]|[a-zA-Z0-9.]+`).FindAllStringIndex(s, -1)
	todo := line("plan MODE member AMOUNT AMOUNT family AMOUNT AMOUNT RULES", 0)
	rules, named := 0, map[string]int{}
	for len(todo) > 0 {
		word, at := "", len(s)
		if len(places) > 0 {
			word, at = s[places[0][0]:places[0][1]], places[0][0]
		}
		now := todo[0]
		next, e := stand(now, word)
		switch {
		case now.name == "RULES" && word == "":
			return api.Fault{}
		case now.name == "RULES" && e == api.OK:
			rules++
			named = map[string]int{}
			if rules > 64 {
				e = api.ErrLimit
			}
		case (now.name == "FIRST" || now.name == "MORE") && e == api.OK:
			named[word]++
			if named[word] == 2 {
				if _, wrong := stand(next[0], second(s, places)); wrong == api.OK {
					e = api.ErrTwice
				}
			}
		}
		if e != api.OK {
			return api.Fault{Err: e, At: at}
		}
		places = places[1:]
		todo = append(next, todo[1:]...)
	}
	return api.Fault{}
}

// second is the word behind the next one, if there is any.
func second(s string, places [][]int) string {
	if len(places) < 2 {
		return ""
	}
	return s[places[1][0]:places[1][1]]
}

// line is steps, from names with blanks between.
func line(s string, depth int) []step {
	var l []step
	for _, name := range strings.Fields(s) {
		l = append(l, step{name, depth})
	}
	return l
}

var (
	amountWord = regexp.MustCompile(`\A(0|[1-9][0-9]{0,11})(\.[0-9][0-9]?)?\z`)
	numberWord = regexp.MustCompile(`\A(0|[1-9][0-9]{0,4})\z`)
	code5      = regexp.MustCompile(`\A[A-Z0-9]{5}\z`)
	code2      = regexp.MustCompile(`\A[A-Z0-9]{2}\z`)
	follows    = map[string]map[string]string{
		"MODE":  {"embedded": "", "aggregate": ""},
		"RULES": {"rule": "RANK if COND BEHIND RULES"},
		"COND": {"all": "", "proc": "CODE5 CODE5", "mod": "CODE2", "units": "UNITS", "billed": "AMOUNT", "out": "",
			"not": "COND", "(": "COND BETWEEN COND )"},
		"BETWEEN": {"and": "", "or": ""},
		"BEHIND":  {"unless": "COND set FIRST", "set": "FIRST"},
		"FIRST":   {"cover": "ANSWER MORE", "deduct": "ANSWER MORE", "copay": "AMOUNT MORE", "coins": "COINS MORE"},
		"MORE":    {"cover": "ANSWER MORE", "deduct": "ANSWER MORE", "copay": "AMOUNT MORE", "coins": "COINS MORE", "end": ""},
		"ANSWER":  {"yes": "", "no": ""},
	}
)

// stand is what must come behind a word that stands where this step is asked for, or why it can't.
func stand(now step, word string) ([]step, api.Errno) {
	most := map[string]int{"RANK": 9999, "UNITS": 9999, "COINS": 10000}
	fits := func(ok bool, e api.Errno) ([]step, api.Errno) {
		if ok {
			return nil, api.OK
		}
		return nil, e
	}
	if next, ok := follows[now.name]; ok {
		behind, ok := next[word]
		if ok && now.name == "COND" && now.depth == 16 {
			return nil, api.ErrLimit
		}
		depth := 0
		if now.name == "COND" {
			depth = now.depth + 1
		}
		if ok {
			return line(behind, depth), api.OK
		}
		return nil, api.ErrSyntax
	}
	switch now.name {
	case "AMOUNT":
		n, _ := strconv.ParseFloat(word, 64)
		return fits(amountWord.MatchString(word) && n <= 1e11, api.ErrMoney)
	case "CODE5":
		return fits(code5.MatchString(word), api.ErrCode)
	case "CODE2":
		return fits(code2.MatchString(word), api.ErrCode)
	case "RANK", "UNITS", "COINS":
		n, _ := strconv.Atoi(word)
		return fits(numberWord.MatchString(word) && n <= most[now.name], api.ErrSyntax)
	}
	return fits(word == now.name, api.ErrSyntax)
}

// expectAsked holds Parse against the chapter's words; of a text that is a plan, or Check's fault, it is printed and parsed again.
func expectAsked(t *testing.T, s string) {
	t.Helper()
	p, f := Parse(s)
	want := expected(s)
	if want == (api.Fault{}) && f == (api.Fault{Err: api.ErrPlan}) {
		return
	}
	if f != want {
		t.Fatalf("Parse(%q): %v, want %v", s, f, want)
	}
	if f != (api.Fault{}) {
		return
	}
	printed, e := Print(p)
	if e != api.OK {
		t.Fatalf("Print of Parse(%q): %v", s, e)
	}
	expectParsed(t, printed, p)
}

// someWords are such as stand in plans, and some that do not.
var someWords = strings.Fields("plan embedded aggregate member family rule if unless set end all proc mod units billed out not ( ) and or cover deduct copay coins yes no" +
	" 0 1 5 59 99213 9999 10000 10001 100000 5.5 0.05 5.555 .5 5. 007 A1 ABCDE x X none")

// Promise 10.5: a text that ends at each byte.
func TestCutTexts(t *testing.T) {
	for _, s := range []string{whole, head, texts[6].s, texts[7].s, texts[8].s} {
		for i := range len(s) + 1 {
			expectAsked(t, s[:i])
			expectAsked(t, s[:i]+" ")
		}
	}
}

// Promise 10.5: texts with each word in place of another one, ahead of it, or without it.
func TestChangedWords(t *testing.T) {
	for _, s := range []string{whole, texts[6].s, texts[8].s} {
		l := strings.Fields(s)
		for i := range l {
			expectAsked(t, strings.Join(slices.Concat(l[:i], l[i+1:]), " "))
			for _, word := range someWords {
				expectAsked(t, strings.Join(slices.Concat(l[:i], []string{word}, l[i+1:]), " "))
				expectAsked(t, strings.Join(slices.Concat(l[:i], []string{word}, l[i:]), "\n"))
			}
		}
	}
}

// chanceCond is a condition that may be, no deeper than so many.
func chanceCond(chance *rand.Rand, deep int) api.Cond {
	kind := chance.Intn(9)
	if deep == 1 {
		kind = chance.Intn(6)
	}
	code := func(count int) string {
		b := make([]byte, count)
		for i := range b {
			b[i] = "ABCXYZ0123456789"[chance.Intn(16)]
		}
		return string(b)
	}
	switch kind {
	case api.CProc:
		return api.Cond{Kind: kind, Lo: code(5), Hi: code(5)}
	case api.CMod:
		return api.Cond{Kind: kind, Lo: code(2)}
	case api.CUnits:
		return units(chance.Int63n(10000))
	case api.CBilled:
		return billed(chance.Int63n(api.MaxCents+1) >> chance.Intn(44))
	case api.CNot:
		return not(chanceCond(chance, deep-1))
	case api.CAnd, api.COr:
		return api.Cond{Kind: kind, Kids: []api.Cond{chanceCond(chance, deep-1), chanceCond(chance, deep-1)}}
	}
	return api.Cond{Kind: kind}
}

// chancePlan is a plan that may be.
func chancePlan(chance *rand.Rand) api.Plan {
	amount := func() int64 { return chance.Int63n(api.MaxCents/2) >> chance.Intn(44) }
	p := api.Plan{Mode: chance.Intn(2), IndDed: amount()}
	p.FamDed, p.IndOop = p.IndDed+amount()/2, p.IndDed+amount()/2
	p.FamOop = max(p.FamDed, p.IndOop) + amount()/4
	for range chance.Intn(6) {
		r := api.Rule{Rank: chance.Intn(10000), If: chanceCond(chance, 1+chance.Intn(16))}
		if chance.Intn(2) == 0 {
			r.Unless = []api.Cond{chanceCond(chance, 1+chance.Intn(16))}
		}
		most := []int64{api.SCover: 2, api.SDeduct: 2, api.SCopay: api.MaxCents + 1, api.SCoins: 10001}
		for _, i := range chance.Perm(4)[:1+chance.Intn(4)] {
			r.Sets = append(r.Sets, api.Set{What: i + 1, N: chance.Int63n(most[i+1])})
		}
		p.Rules = append(p.Rules, r)
	}
	return p
}

// Promise 10.6: a plan that is printed is parsed as what it was.
func TestThereAndBack(t *testing.T) {
	chance := rand.New(rand.NewSource(10))
	count := 0
	for range 20000 {
		p := chancePlan(chance)
		s, e := Print(p)
		if e == api.ErrLimit {
			continue
		}
		if e != api.OK {
			t.Fatalf("Print(%v): %v", p, e)
		}
		count++
		expectParsed(t, s, p)
		if expected(s) != (api.Fault{}) {
			t.Fatalf("%q is no plan: %v", s, expected(s))
		}
	}
	if count < 15000 {
		t.Errorf("%d plans alone were printed", count)
	}
}

// Promise 10.5: plans by chance, with some words changed, taken out, or put in.
func TestChangedChance(t *testing.T) {
	chance := rand.New(rand.NewSource(105))
	for range 20000 {
		s, _ := Print(chancePlan(chance))
		l := strings.Fields(s)
		if len(l) == 0 || len(l) > 300 {
			continue
		}
		for range 1 + chance.Intn(2) {
			i := chance.Intn(len(l))
			word := someWords[chance.Intn(len(someWords))]
			switch chance.Intn(4) {
			case 0:
				l = slices.Delete(l, i, i+1)
			case 1:
				l = slices.Insert(l, i, word)
			case 2:
				l[i] = word
			case 3:
				j := chance.Intn(len(l))
				l[i], l[j] = l[j], l[i]
			}
			if len(l) == 0 {
				break
			}
		}
		expectAsked(t, strings.Join(l, " "))
	}
}

// Promise P0: no text makes it panic, and a fault lies within the text.
func TestAnyText(t *testing.T) {
	chance := rand.New(rand.NewSource(11))
	for range 50000 {
		var b strings.Builder
		for range chance.Intn(40) {
			b.WriteString(someWords[chance.Intn(len(someWords))])
			b.WriteByte(" \n  ( )5a,"[chance.Intn(10)])
		}
		s := b.String()
		if _, f := Parse(s); f.Err == api.OK || f.At < 0 || f.At > len(s) {
			t.Fatalf("Parse(%q): %v", s, f)
		}
	}
}

// Rule R3: each answer is new memory, and none of its lists shares any with another one.
func TestAnswersAreNew(t *testing.T) {
	a, _ := Parse(whole)
	b, _ := Parse(whole)
	want, _ := Parse(whole)
	for i := range a.Rules {
		r := &a.Rules[i]
		_ = append(r.Sets, api.Set{What: 99})
		_ = append(r.Unless, api.Cond{Kind: 99})
		_ = append(r.If.Kids, api.Cond{Kind: 99})
	}
	_ = append(a.Rules, api.Rule{Rank: 99})
	if !samePlan(a, want) {
		t.Error("lists of one answer share memory")
	}
	for i := range a.Rules {
		a.Rules[i].Sets[0] = api.Set{What: 99}
		for j := range a.Rules[i].If.Kids {
			a.Rules[i].If.Kids[j] = api.Cond{Kind: 99}
		}
		a.Rules[i] = api.Rule{Rank: 99}
	}
	if c, _ := Parse(whole); !samePlan(b, want) || !samePlan(c, want) {
		t.Error("answers share memory")
	}
}
