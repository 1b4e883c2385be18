package seg

import (
	"fmt"
	"math/rand"
	"reflect"
	"slices"
	"strings"
	"testing"

	"leechbook/api"
)

var usual = api.Delims{Element: '*', Part: ':', Segment: '~'}

// signs are all bytes that may be signs, written out.
const signs = "!\"#$%&'()*+,/:;<=>?@[\\]^_`{|}~"

func delims(s string) api.Delims { return api.Delims{Element: s[0], Part: s[1], Segment: s[2]} }

// badDelims are signs of which Good is false.
var badDelims = []api.Delims{
	{}, {Element: '*'}, {Element: '*', Part: ':'}, {Part: ':', Segment: '~'}, {Element: '*', Segment: '~'},
	delims("**~"), delims("*:*"), delims("*::"), delims("***"),
	delims("A:~"), delims("*z~"), delims("*:0"), delims(".:~"), delims("*-~"), delims("*:."), delims(" :~"), delims("* ~"), delims("*: "),
	delims("*:\n"), delims("*:\x7f"), delims("\xff:~"), delims("*\x80~"), delims("*:\x1f"), delims("\x00:~"),
}

// seg makes a segment of elements, whose parts are told by : between.
func seg(elements ...string) api.Seg {
	g := api.Seg{Elements: make([][]string, 0, len(elements))}
	for _, e := range elements {
		g.Elements = append(g.Elements, strings.Split(e, ":"))
	}
	return g
}

func raw(elements ...[]string) api.Seg { return api.Seg{Elements: elements} }

func repeat(n int, g api.Seg) []api.Seg {
	l := make([]api.Seg, n)
	for i := range l {
		l[i] = g
	}
	return l
}

// Promise 5.1: each byte alone in each place, and all that may be beside each other.
func TestGoodByte(t *testing.T) {
	for b := range 256 {
		may := strings.Contains(signs, string([]byte{byte(b)}))
		want := may && b != '{' && b != '}'
		for _, d := range []api.Delims{
			{Element: byte(b), Part: '{', Segment: '}'},
			{Element: '{', Part: byte(b), Segment: '}'},
			{Element: '{', Part: '}', Segment: byte(b)},
		} {
			if have := Good(d); have != want {
				t.Errorf("Good(%q): %v, want %v", d, have, want)
			}
		}
	}
	if len(signs) != 94-62-2 {
		t.Fatalf("%d signs", len(signs))
	}
}

// Promise 5.1: no two are the same.
func TestGoodTriples(t *testing.T) {
	for i := range len(signs) {
		for j := range len(signs) {
			for k := range len(signs) {
				d := api.Delims{Element: signs[i], Part: signs[j], Segment: signs[k]}
				if want := i != j && j != k && i != k; Good(d) != want {
					t.Fatalf("Good(%q): %v", d, !want)
				}
			}
		}
	}
	for _, d := range badDelims {
		if Good(d) {
			t.Errorf("Good(%q)", d)
		}
	}
}

// Promise 5.2: Head is ISA and the signs, as bytes.
func TestHead(t *testing.T) {
	for _, c := range []struct {
		d    api.Delims
		want string
	}{
		{usual, "ISA*:~"}, {delims("|^\\"), "ISA|^\\"}, {delims("~*:"), "ISA~*:"}, {api.Delims{}, "ISA\x00\x00\x00"}, {delims("\xff\x80\xc3"), "ISA\xff\x80\xc3"},
	} {
		if have := Head(c.d); have != c.want {
			t.Errorf("Head(%q): %q, want %q", c.d, have, c.want)
		}
	}
}

// Promise 5.2: Find.
func TestFind(t *testing.T) {
	for _, c := range []struct {
		s    string
		want api.Delims
		e    api.Errno
	}{
		{"ISA*:~", usual, api.OK}, {"ISA*:~GS*1~", usual, api.OK}, {"ISA*:~\x00\xff", usual, api.OK}, {"ISA|^\\x", delims("|^\\"), api.OK}, {"ISA~*:", delims("~*:"), api.OK},
		{"", api.Delims{}, api.ErrEnvelope}, {"I", api.Delims{}, api.ErrEnvelope}, {"ISA", api.Delims{}, api.ErrEnvelope}, {"ISA*", api.Delims{}, api.ErrEnvelope}, {"ISA*:", api.Delims{}, api.ErrEnvelope},
		{"isa*:~", api.Delims{}, api.ErrEnvelope}, {"ISB*:~", api.Delims{}, api.ErrEnvelope}, {"XSA*:~", api.Delims{}, api.ErrEnvelope}, {" ISA*:~", api.Delims{}, api.ErrEnvelope}, {"IXA*:~", api.Delims{}, api.ErrEnvelope}, {"GS*1*2~", api.Delims{}, api.ErrEnvelope},
		{"*:~ISA", api.Delims{}, api.ErrEnvelope}, {"ISA**~", api.Delims{}, api.ErrEnvelope}, {"ISA*:*~", api.Delims{}, api.ErrEnvelope}, {"ISA*é~", api.Delims{}, api.ErrEnvelope},
	} {
		if d, e := Find(c.s); d != c.want || e != c.e {
			t.Errorf("Find(%q): %q, %v; want %q, %v", c.s, d, e, c.want, c.e)
		}
	}
	for _, d := range badDelims {
		if have, e := Find(Head(d) + "GS*1~"); have != (api.Delims{}) || e != api.ErrEnvelope {
			t.Errorf("Find of %q: %q, %v", Head(d), have, e)
		}
	}
}

// Promise 5.2: the signs of each head that may be are found again.
func TestFindsHead(t *testing.T) {
	for i := range len(signs) {
		for j := range len(signs) {
			d := api.Delims{Element: signs[i], Part: signs[j], Segment: signs[(i+j+1)%len(signs)]}
			have, e := Find(Head(d))
			if Good(d) != (e == api.OK) || e == api.OK && have != d {
				t.Fatalf("Find(%q): %q, %v", Head(d), have, e)
			}
		}
	}
}

// Promise 5.3: Plain, byte by byte.
func TestPlainByte(t *testing.T) {
	for b := range 256 {
		want := b >= 32 && b <= 126 && b != '*' && b != ':' && b != '~'
		for _, s := range []string{string([]byte{byte(b)}), "a" + string([]byte{byte(b)}), string([]byte{byte(b)}) + "a", "ab" + string([]byte{byte(b)}) + "cd"} {
			if have := Plain(usual, s); have != want {
				t.Errorf("Plain(%q): %v, want %v", s, have, want)
			}
		}
	}
}

// Promise 5.3: Plain of texts, and of other signs, even such as may not be.
func TestPlain(t *testing.T) {
	for _, c := range []struct {
		d    api.Delims
		s    string
		want bool
	}{
		{usual, "", true}, {usual, "99213", true}, {usual, "a b", true}, {usual, " ", true}, {usual, "12.50", true}, {usual, "-1", true}, {usual, "a|b", true}, {usual, "a~", false}, {usual, "*", false}, {usual, "x:y", false}, {usual, "é", false}, {usual, "a\n", false}, {usual, "\x7f", false},
		{delims("|^\\"), "a*b:c~", true}, {delims("|^\\"), "a|b", false}, {delims("|^\\"), "a^b", false}, {delims("|^\\"), "a\\b", false},
		{api.Delims{}, "", true}, {api.Delims{}, "abc", true}, {api.Delims{}, "\x00", false}, {delims("abb"), "cde", true}, {delims("abb"), "cda", false}, {delims("abb"), "cdb", false},
		{usual, strings.Repeat("x", api.MaxText+1), true}, {usual, strings.Repeat("x", api.MaxText+1) + "~", false},
	} {
		if have := Plain(c.d, c.s); have != c.want {
			t.Errorf("Plain(%q, %.20q): %v, want %v", c.d, c.s, have, c.want)
		}
	}
}

// written are segments and their texts, with the usual signs: one way alone, read and written.
var written = []struct {
	l []api.Seg
	s string
}{
	{nil, ""},
	{[]api.Seg{seg("X")}, "X~"},
	{[]api.Seg{seg("CLM", "a:b", ""), seg("X")}, "CLM*a:b*~X~"},
	{[]api.Seg{seg("A", "b", "c")}, "A*b*c~"},
	{[]api.Seg{seg("A", "")}, "A*~"}, {[]api.Seg{seg("A", "", "", "")}, "A***~"},
	{[]api.Seg{seg("A", ":")}, "A*:~"}, {[]api.Seg{seg("A", "::", "x:", ":x")}, "A*::*x:*:x~"},
	{[]api.Seg{seg(" ")}, " ~"}, {[]api.Seg{seg("a b", " c ")}, "a b* c ~"},
	{[]api.Seg{seg("ISA", "1"), seg("ISA")}, "ISA*1~ISA~"},
	{[]api.Seg{seg("SV", "HC:99213:25", "1.00", "1"), seg("DTP", "472", "20240301")}, "SV*HC:99213:25*1.00*1~DTP*472*20240301~"},
	{[]api.Seg{seg("!\"#$%&'()+,-./0189;<=>?@AZ[\\]^_`az{|}")}, "!\"#$%&'()+,-./0189;<=>?@AZ[\\]^_`az{|}~"},
}

func expectWritten(t *testing.T, d api.Delims, l []api.Seg, want string, wantErr api.Errno) {
	t.Helper()
	if s, e := Write(d, l); s != want || e != wantErr {
		t.Errorf("Write(%q, %.100q): %.100q, %v; want %.100q, %v", d, fmt.Sprint(l), s, e, want, wantErr)
	}
}

func sameSegs(a, b []api.Seg) bool {
	return len(a) == 0 && len(b) == 0 || reflect.DeepEqual(a, b)
}

func expectSplit(t *testing.T, d api.Delims, s string, want []api.Seg, wantErr api.Errno) {
	t.Helper()
	if l, e := Split(d, s); !sameSegs(l, want) || e != wantErr {
		t.Errorf("Split(%q, %.100q): %.100q, %v; want %.100q, %v", d, s, fmt.Sprint(l), e, fmt.Sprint(want), wantErr)
	}
}

// Promises 5.3 and 5.4: what is written, and read; with other signs, too.
func TestWrittenAndRead(t *testing.T) {
	for _, c := range written {
		expectWritten(t, usual, c.l, c.s, api.OK)
		expectSplit(t, usual, c.s, c.l, api.OK)
	}
	l := []api.Seg{seg("A", "b:c", "d*e"), seg("F~")}
	expectWritten(t, delims("|^\\"), l, "A|b^c|d*e\\F~\\", api.OK)
	expectSplit(t, delims("|^\\"), "A|b^c|d*e\\F~\\", l, api.OK)
	expectSplit(t, delims("~*:"), "A~b*c:", []api.Seg{seg("A", "b:c")}, api.OK)
}

// Promise 5.3: what Write refuses, wherever it stands.
func TestWriteRefuses(t *testing.T) {
	wrong := []api.Seg{
		{}, raw([]string{}), raw(nil), raw([]string{""}), raw([]string{"A", "b"}), raw([]string{"A", ""}), raw([]string{"", "A"}), raw([]string{"", ""}), raw([]string{""}, []string{"x"}),
		raw([]string{"A"}, nil), raw([]string{"A"}, []string{}), raw([]string{"A"}, []string{"b"}, nil), raw([]string{"A"}, nil, []string{"b"}), raw(nil, []string{"b"}),
		raw([]string{"A*"}), raw([]string{"A:"}), raw([]string{"~"}), raw([]string{"A\n"}), raw([]string{"é"}), raw([]string{"A\x1f"}), raw([]string{"A\x7f"}),
		raw([]string{"A"}, []string{"b*"}), raw([]string{"A"}, []string{"b", ":"}), raw([]string{"A"}, []string{"b", "c", "~"}), raw([]string{"A"}, []string{"b", "\x00"}), raw([]string{"A"}, []string{"b"}, []string{"c", "\xff"}),
	}
	for _, g := range wrong {
		expectWritten(t, usual, []api.Seg{g}, "", api.ErrArg)
		expectWritten(t, usual, []api.Seg{g, seg("X")}, "", api.ErrArg)
		expectWritten(t, usual, []api.Seg{seg("X"), g}, "", api.ErrArg)
	}
	for _, d := range badDelims {
		expectWritten(t, d, nil, "", api.ErrArg)
		expectWritten(t, d, []api.Seg{seg("X")}, "", api.ErrArg)
	}
}

// Promise 5.3: at the limit of segments, and behind it; a text's bytes have none here.
func TestWriteLimits(t *testing.T) {
	expectWritten(t, usual, repeat(api.MaxSegs, seg("A", "b")), strings.Repeat("A*b~", api.MaxSegs), api.OK)
	expectWritten(t, usual, repeat(api.MaxSegs+1, seg("A", "b")), "", api.ErrArg)
	expectWritten(t, usual, repeat(api.MaxSegs-1, seg("A")), strings.Repeat("A~", api.MaxSegs-1), api.OK)
	long := strings.Repeat("x", api.MaxText+5)
	expectWritten(t, usual, []api.Seg{seg("A", long)}, "A*"+long+"~", api.OK)
	many := make([]string, 70000)
	expectWritten(t, usual, []api.Seg{raw([]string{"A"}, many)}, "A*"+strings.Repeat(":", 69999)+"~", api.OK)
}

// Promise 5.4: what Split refuses.
func TestSplitRefuses(t *testing.T) {
	for _, s := range []string{
		"CLM*a", "X", "*", ":", " ", "X~Y", "X~ ", "X~\n", "~X", "X~*", "\x00", // no sign behind
		"~", "~~", "X~~", "~X~", "*~", "*a~", ":~", "A:b~", "A:~", ":A~", "A:*b~", "X~*b~", "X~:~", "X~A:b*c~", // no name
		"A\n~", "\nA~", "A~\nB~", "A*\t~", "A*b:\x1f~", "A*\x7f~", "A*\x80~", "A*é~", "A*b\x00c~", "\xff~", "X~A*\xff:b~",
	} {
		expectSplit(t, usual, s, nil, api.ErrSyntax)
	}
	for _, d := range badDelims {
		for _, s := range []string{"", "X", "X~", "X" + string([]byte{d.Segment}), strings.Repeat("x", api.MaxText+1)} {
			expectSplit(t, d, s, nil, api.ErrArg)
		}
	}
}

// Promise 5.4: no byte but those from 32 to 126 stands in a segment, wherever.
func TestSplitByte(t *testing.T) {
	for b := range 256 {
		c := string([]byte{byte(b)})
		if strings.Contains("*:~", c) {
			continue
		}
		if b < 32 || b > 126 {
			expectSplit(t, usual, "A"+c+"~", nil, api.ErrSyntax)
			expectSplit(t, usual, "A*x:y"+c+"~B~", nil, api.ErrSyntax)
			continue
		}
		expectSplit(t, usual, c+"~", []api.Seg{seg(c)}, api.OK)
		expectSplit(t, usual, "A*x:y"+c+"~B~", []api.Seg{raw([]string{"A"}, []string{"x", "y" + c}), seg("B")}, api.OK)
	}
}

// Promise 5.4: at the limit of bytes, and behind it.
func TestSplitBytesLimit(t *testing.T) {
	fits := strings.Repeat("x", api.MaxText-1)
	expectSplit(t, usual, fits+"~", []api.Seg{seg(fits)}, api.OK)
	expectSplit(t, usual, fits+"x~", nil, api.ErrLimit)
	expectSplit(t, usual, fits+"x", nil, api.ErrSyntax)
	// Too long is named ahead of what is no text.
	expectSplit(t, usual, fits+"xx", nil, api.ErrLimit)
	expectSplit(t, usual, fits+"~~", nil, api.ErrLimit)
	expectSplit(t, usual, strings.Repeat("\xff", api.MaxText+1), nil, api.ErrLimit)
	expectSplit(t, usual, strings.Repeat("~", api.MaxText), nil, api.ErrSyntax)
}

// Promise 5.4: at the limit of segments, and behind it; segment by segment, so that an earlier one's error is told.
func TestSplitSegsLimit(t *testing.T) {
	full := strings.Repeat("A*b~", api.MaxSegs)
	expectSplit(t, usual, full, repeat(api.MaxSegs, seg("A", "b")), api.OK)
	expectSplit(t, usual, full+"A~", nil, api.ErrLimit)
	expectSplit(t, usual, full+"~", nil, api.ErrLimit)
	expectSplit(t, usual, full+"\xff~", nil, api.ErrLimit)
	expectSplit(t, usual, full+"A~~", nil, api.ErrLimit)
	expectSplit(t, usual, full+"A", nil, api.ErrSyntax)
	fewer := strings.Repeat("A*b~", api.MaxSegs-1)
	expectSplit(t, usual, fewer+"~A~", nil, api.ErrSyntax)
	expectSplit(t, usual, fewer+"A:b~A~", nil, api.ErrSyntax)
	expectSplit(t, usual, fewer+"A\n~A~A~", nil, api.ErrSyntax)
	expectSplit(t, usual, "*~"+full, nil, api.ErrSyntax)
	expectSplit(t, usual, strings.Repeat("x~", api.MaxText/2), nil, api.ErrLimit)
}

// byHand reads a text byte by byte, as an oracle for Split of short ones.
func byHand(d api.Delims, s string) ([]api.Seg, api.Errno) {
	var l []api.Seg
	part, parts, elements := "", []string{}, [][]string{}
	for i := range len(s) {
		c := s[i]
		if c < 32 || c > 126 {
			return nil, api.ErrSyntax
		}
		if c != d.Element && c != d.Part && c != d.Segment {
			part += s[i : i+1]
			continue
		}
		parts, part = append(parts, part), ""
		if c == d.Part {
			continue
		}
		elements, parts = append(elements, parts), nil
		if c == d.Element {
			continue
		}
		if len(elements[0]) != 1 || elements[0][0] == "" {
			return nil, api.ErrSyntax
		}
		l, elements = append(l, api.Seg{Elements: elements}), nil
	}
	if len(s) > 0 && s[len(s)-1] != d.Segment {
		return nil, api.ErrSyntax
	}
	return l, api.OK
}

// allTexts are the texts of at most so many bytes, of an alphabet.
func allTexts(alphabet string, most int) []string {
	all := []string{""}
	for from := 0; most > 0; most-- {
		end := len(all)
		for ; from < end; from++ {
			for i := range len(alphabet) {
				all = append(all, all[from]+alphabet[i:i+1])
			}
		}
	}
	return all
}

// Promises 5.4 and 5.5: every short text; what is read is written as it was.
func TestEveryShortText(t *testing.T) {
	for _, s := range allTexts("a*:~\n", 7) {
		want, wantErr := byHand(usual, s)
		l, e := Split(usual, s)
		if e != wantErr || !sameSegs(l, want) {
			t.Fatalf("Split(%q): %q, %v; want %q, %v", s, l, e, want, wantErr)
		}
		if e != api.OK {
			continue
		}
		if again, e := Write(usual, l); again != s || e != api.OK {
			t.Fatalf("%q is written as %q, %v", s, again, e)
		}
	}
}

func randomSegs(r *rand.Rand, d api.Delims, most int) []api.Seg {
	letters := ""
	for b := byte(32); b <= 126; b++ {
		if b != d.Element && b != d.Part && b != d.Segment {
			letters += string([]byte{b})
		}
	}
	text := func(least int) string {
		s := make([]byte, least+r.Intn(4))
		for i := range s {
			s[i] = letters[r.Intn(len(letters))]
		}
		return string(s)
	}
	l := make([]api.Seg, r.Intn(most))
	for i := range l {
		l[i] = raw([]string{text(1)})
		for range r.Intn(4) {
			parts := []string{text(0)}
			for range r.Intn(3) {
				parts = append(parts, text(0))
			}
			l[i].Elements = append(l[i].Elements, parts)
		}
	}
	return l
}

func randomDelims(r *rand.Rand) api.Delims {
	p := r.Perm(len(signs))
	return api.Delims{Element: signs[p[0]], Part: signs[p[1]], Segment: signs[p[2]]}
}

// Promise 5.5: what is written is read as what it was; texts, one behind the other, have both ones' segments.
func TestReadAsWritten(t *testing.T) {
	r := rand.New(rand.NewSource(5))
	for range 3000 {
		d := randomDelims(r)
		a, b := randomSegs(r, d, 6), randomSegs(r, d, 6)
		s, e := Write(d, a)
		u, f := Write(d, b)
		if e != api.OK || f != api.OK {
			t.Fatalf("Write(%q, %q): %v; (%q): %v", d, a, e, b, f)
		}
		expectSplit(t, d, s, a, api.OK)
		expectSplit(t, d, s+u, slices.Concat(a, b), api.OK)
		expectWritten(t, d, slices.Concat(a, b), s+u, api.OK)
		if found, e := Find(Head(d) + s); found != d || e != api.OK {
			t.Fatalf("Find: %q, %v", found, e)
		}
	}
}

// P0: random bytes never do harm; what is read may be written.
func TestRandomBytes(t *testing.T) {
	r := rand.New(rand.NewSource(55))
	for range 20000 {
		const bytes = "AB*:~ \n\xff09.-ISA*:~~~"
		s := make([]byte, r.Intn(30))
		for i := range s {
			s[i] = bytes[r.Intn(len(bytes))]
		}
		d := delims(string([]byte{"*:~ A\x00"[r.Intn(6)], "*:~|"[r.Intn(4)], "*:~|\xff"[r.Intn(5)]}))
		Find(string(s))
		Plain(d, string(s))
		l, e := Split(d, string(s))
		if !Good(d) != (e == api.ErrArg) || e != api.OK && l != nil {
			t.Fatalf("Split(%q, %q): %q, %v", d, s, l, e)
		}
		if again, f := Write(d, l); e == api.OK && (f != api.OK || again != string(s)) {
			t.Fatalf("%q is written as %q, %v", s, again, f)
		}
	}
}

// R3: what is handed in stays as it was, and what lies behind a list's length is left alone.
func TestArgumentsStay(t *testing.T) {
	behind := raw([]string{"behind~"})
	parts := []string{"x", "y", "behind*"}[:2]
	elements := [][]string{{"A"}, parts, {"behind:"}}[:2]
	l := []api.Seg{{Elements: elements}, seg("B"), behind}[:2]
	expectWritten(t, usual, l, "A*x:y~B~", api.OK)
	if !reflect.DeepEqual(l[:3], []api.Seg{{Elements: elements}, seg("B"), behind}) || parts[:3][2] != "behind*" || elements[:3][2][0] != "behind:" {
		t.Errorf("changed: %q, %q, %q", l[:3], elements[:3], parts[:3])
	}
}

// R3: no two lists of an answer share memory, nor do two answers: each list, stretched into all the memory it has, is written over.
func TestNewMemory(t *testing.T) {
	const text = "A*b:c*d~E*f~G~"
	want, _ := Split(usual, text)
	other, _ := Split(usual, text)
	l, _ := Split(usual, text)
	for i := range l {
		for k := range l[i].Elements {
			parts := l[i].Elements[k]
			saved := slices.Clone(parts)
			whole := parts[:cap(parts)]
			for n := range whole {
				whole[n] = "changed"
			}
			copy(parts, saved)
			if !reflect.DeepEqual(l, want) || !reflect.DeepEqual(other, want) {
				t.Fatalf("parts are shared: %q, %q", l, other)
			}
		}
		saved := slices.Clone(l[i].Elements)
		clear(l[i].Elements[:cap(l[i].Elements)])
		copy(l[i].Elements, saved)
		if !reflect.DeepEqual(l, want) || !reflect.DeepEqual(other, want) {
			t.Fatalf("elements are shared: %q, %q", l, other)
		}
	}
	clear(l[:cap(l)])
	if !reflect.DeepEqual(other, want) {
		t.Fatalf("segments are shared: %q", other)
	}
}
