package cover

import (
	"fmt"
	"math"
	"math/rand"
	"reflect"
	"slices"
	"strconv"
	"strings"
	"testing"

	"leechbook/api"
	"leechbook/seg"
)

const signs = "!\"#$%&'()*+,/:;<=>?@[\\]^_`{|}~"

var (
	usual = delims("*:~")
	abc   = line("A", "b", "c")
)

func delims(s string) api.Delims { return api.Delims{Element: s[0], Part: s[1], Segment: s[2]} }

// line makes a segment of elements, whose parts are told by : between.
func line(elements ...string) api.Seg {
	g := api.Seg{}
	for _, e := range elements {
		g.Elements = append(g.Elements, strings.Split(e, ":"))
	}
	return g
}

func repeat(n int, g api.Seg) []api.Seg {
	l := make([]api.Seg, n)
	for i := range l {
		l[i] = g
	}
	return l
}

func sameLists(a, b []api.Seg) bool {
	return len(a) == 0 && len(b) == 0 || reflect.DeepEqual(a, b)
}

func expectWrapped(t *testing.T, d api.Delims, kind string, number int, l []api.Seg, want string, wantErr api.Errno) {
	t.Helper()
	if s, e := Wrap(d, kind, number, l); s != want || e != wantErr {
		t.Errorf("Wrap(%q, %q, %d, %.80q): %.120q, %v; want %.120q, %v", d, kind, number, fmt.Sprint(l), s, e, want, wantErr)
	}
}

func expectOpened(t *testing.T, kind, s string, d api.Delims, number int, l []api.Seg) {
	t.Helper()
	if haveD, n, have, e := Open(kind, s); haveD != d || n != number || !sameLists(have, l) || e != api.OK {
		t.Errorf("Open(%q, %.120q): %q, %d, %.80q, %v; want %q, %d, %.80q", kind, s, haveD, n, fmt.Sprint(have), e, d, number, fmt.Sprint(l))
	}
}

func expectClosed(t *testing.T, kind, s string, want api.Errno) {
	t.Helper()
	if d, n, l, e := Open(kind, s); d != (api.Delims{}) || n != 0 || len(l) != 0 || e != want {
		t.Errorf("Open(%q, %.120q): %q, %d, %.80q, %v; want %v", kind, s, d, n, fmt.Sprint(l), e, want)
	}
}

// Promise 6.1: three digits, and nothing else.
func TestKind(t *testing.T) {
	for n := range 1000 {
		if s := fmt.Sprintf("%03d", n); !Kind(s) {
			t.Errorf("not Kind(%q)", s)
		}
	}
	for _, s := range []string{"", "8", "83", "8377", "0837", "837 ", " 837", "-83", "+83", "8.3", "83a", "A37", "8x7", "٣٣٣", "83\x00", "\xff\xff\xff", "８", "1e2", "0x1", "837\n", "83:", "/37", strings.Repeat("8", 1000)} {
		if Kind(s) {
			t.Errorf("Kind(%q)", s)
		}
	}
}

// Promise 6.1: each byte, in each place.
func TestKindByte(t *testing.T) {
	for b := range 256 {
		for place := range 3 {
			s := []byte("837")
			s[place] = byte(b)
			if want := strings.IndexByte("0123456789", byte(b)) >= 0; Kind(string(s)) != want {
				t.Errorf("Kind(%q): %v", s, !want)
			}
		}
	}
}

// wrapped are envelopes and their texts: one way alone, wrapped and opened.
var wrapped = []struct {
	d      api.Delims
	kind   string
	number int
	l      []api.Seg
	s      string
}{
	{usual, "837", 7, []api.Seg{abc}, "ISA*:~GS*837*7~ST*837*7~A*b*c~SE*3*7~GE*1*7~IEA*1*7~"},
	{usual, "835", 0, nil, "ISA*:~GS*835*0~ST*835*0~SE*2*0~GE*1*0~IEA*1*0~"},
	{usual, "000", 999999999, []api.Seg{line("X"), line("Y", "a:b", "")}, "ISA*:~GS*000*999999999~ST*000*999999999~X~Y*a:b*~SE*4*999999999~GE*1*999999999~IEA*1*999999999~"},
	{delims("|^\\"), "999", 10, []api.Seg{line("A*", "x~")}, "ISA|^\\GS|999|10\\ST|999|10\\A*|x~\\SE|3|10\\GE|1|10\\IEA|1|10\\"},
	// What lies in it may look like an envelope's own segments.
	{usual, "837", 7, []api.Seg{line("SE", "2", "7"), line("GE", "1", "7"), line("IEA", "1", "7")}, "ISA*:~GS*837*7~ST*837*7~SE*2*7~GE*1*7~IEA*1*7~SE*5*7~GE*1*7~IEA*1*7~"},
	{usual, "837", 1, []api.Seg{line("GS", "837", "1"), line("ST", "837", "1")}, "ISA*:~GS*837*1~ST*837*1~GS*837*1~ST*837*1~SE*4*1~GE*1*1~IEA*1*1~"},
	{usual, "837", 7, repeat(8, line("Z")), "ISA*:~GS*837*7~ST*837*7~" + strings.Repeat("Z~", 8) + "SE*10*7~GE*1*7~IEA*1*7~"},
	{usual, "837", 123, []api.Seg{line("ISA"), line(" ", "::")}, "ISA*:~GS*837*123~ST*837*123~ISA~ *::~SE*4*123~GE*1*123~IEA*1*123~"},
}

// Promises 6.2, 6.3 and 6.4: what is wrapped, and opened.
func TestWrapAndOpen(t *testing.T) {
	for _, c := range wrapped {
		expectWrapped(t, c.d, c.kind, c.number, c.l, c.s, api.OK)
		expectOpened(t, c.kind, c.s, c.d, c.number, c.l)
	}
	expectClosed(t, "835", wrapped[0].s, api.ErrEnvelope)
}

// Promise 6.2: signs, kinds and numbers that may not be.
func TestWrapRefuses(t *testing.T) {
	for _, d := range []api.Delims{{}, delims("**~"), delims("*::"), delims("*:*"), delims("A:~"), delims("*1~"), delims("*:."), delims("-:~"), delims("*: "), delims("*:\n"), delims("\xff:~")} {
		expectWrapped(t, d, "837", 7, []api.Seg{abc}, "", api.ErrArg)
		expectWrapped(t, d, "837", 7, nil, "", api.ErrArg)
	}
	for _, kind := range []string{"", "83", "8377", "83a", "8*7", "8~7", " 83", "-83", "83é"} {
		expectWrapped(t, usual, kind, 7, []api.Seg{abc}, "", api.ErrArg)
	}
	for _, number := range []int{-1, -7, 1000000000, 1 << 31, 1 << 32, math.MaxInt, math.MinInt} {
		expectWrapped(t, usual, "837", number, []api.Seg{abc}, "", api.ErrArg)
	}
	for _, number := range []int{0, 1, 9, 10, 999999998, 999999999} {
		n := strconv.Itoa(number)
		expectWrapped(t, usual, "837", number, nil, "ISA*:~GS*837*"+n+"~ST*837*"+n+"~SE*2*"+n+"~GE*1*"+n+"~IEA*1*"+n+"~", api.OK)
	}
}

// Promise 6.2: seg.Write's error, wherever it stands.
func TestWrapWritesError(t *testing.T) {
	for _, g := range []api.Seg{{}, {Elements: [][]string{nil}}, {Elements: [][]string{{"A", "b"}}}, {Elements: [][]string{{"A"}, {}}}, line(""), line("A", "b*"), line("A~"), line("A", "é"), line("A", "b:\n")} {
		for _, l := range [][]api.Seg{{g}, {g, abc}, {abc, g}, {abc, g, abc}} {
			expectWrapped(t, usual, "837", 7, l, "", api.ErrArg)
		}
	}
	// Ahead of the limit of bytes.
	long := line("A", strings.Repeat("x", api.MaxText))
	expectWrapped(t, usual, "837", 7, []api.Seg{long, {}}, "", api.ErrArg)
	expectWrapped(t, usual, "8", 7, []api.Seg{long}, "", api.ErrArg)
	expectWrapped(t, usual, "837", -7, []api.Seg{long}, "", api.ErrArg)
	expectWrapped(t, delims("*:*"), "837", 7, []api.Seg{long}, "", api.ErrArg)
	expectWrapped(t, usual, "837", 7, []api.Seg{long}, "", api.ErrLimit)
}

// Promises 6.2 and 6.3: the envelope's own segments count to the limit of segments.
func TestSegsLimit(t *testing.T) {
	most := api.MaxSegs - 5
	l := repeat(most, line("A", "b"))
	s := "ISA*:~GS*837*7~ST*837*7~" + strings.Repeat("A*b~", most) + "SE*4093*7~GE*1*7~IEA*1*7~"
	expectWrapped(t, usual, "837", 7, l, s, api.OK)
	expectOpened(t, "837", s, usual, 7, l)
	for _, more := range []int{1, 2, 5, 6, 100, 100000} {
		expectWrapped(t, usual, "837", 7, repeat(most+more, line("A", "b")), "", api.ErrArg)
	}
	expectClosed(t, "837", "ISA*:~GS*837*7~ST*837*7~"+strings.Repeat("A*b~", most+1)+"SE*4094*7~GE*1*7~IEA*1*7~", api.ErrLimit)
}

// Promises 6.2 and 6.3: at the limit of bytes, the head's among them, and behind it.
func TestBytesLimit(t *testing.T) {
	const begin, end = "ISA*:~GS*837*7~ST*837*7~A*", "~SE*3*7~GE*1*7~IEA*1*7~"
	fill := strings.Repeat("x", api.MaxText-len(begin)-len(end))
	l := []api.Seg{line("A", fill)}
	expectWrapped(t, usual, "837", 7, l, begin+fill+end, api.OK)
	expectOpened(t, "837", begin+fill+end, usual, 7, l)
	for _, more := range []string{"x", "xx", "xxxxx", "xxxxxx", "xxxxxxx", fill} {
		expectWrapped(t, usual, "837", 7, []api.Seg{line("A", fill+more)}, "", api.ErrLimit)
		expectClosed(t, "837", begin+fill+more+end, api.ErrLimit)
	}
	fewer := fill[1:]
	expectWrapped(t, usual, "837", 7, []api.Seg{line("A", fewer)}, begin+fewer+end, api.OK)
}

// Promise 6.3: too long a text is named ahead of all else.
func TestOpenLimitFirst(t *testing.T) {
	for _, s := range []string{strings.Repeat("x", api.MaxText+1), strings.Repeat("\xff", api.MaxText+1), "ISA*:~" + strings.Repeat("~", api.MaxText)} {
		expectClosed(t, "837", s, api.ErrLimit)
		expectClosed(t, "", s, api.ErrLimit)
	}
	expectClosed(t, "837", strings.Repeat("x", api.MaxText), api.ErrEnvelope)
	expectClosed(t, "83", "ISA*:~"+strings.Repeat("x~", api.MaxText/2-3), api.ErrEnvelope)
	expectClosed(t, "837", "ISA*:~"+strings.Repeat("x~", api.MaxText/2-3), api.ErrLimit)
}

// Promise 6.3: no head, or no kind, ahead of what is behind the head.
func TestOpenHead(t *testing.T) {
	const rest = "GS*837*7~ST*837*7~SE*2*7~GE*1*7~IEA*1*7~"
	expectOpened(t, "837", "ISA*:~"+rest, usual, 7, nil)
	for _, s := range []string{"", "I", "ISA*:", rest, "isa*:~" + rest, " ISA*:~" + rest, "ISA**~" + rest, "ISA*A~" + rest, "ISA*:\x00" + rest, "ISA", "ISB*:~" + rest, "ISA*:.x"} {
		expectClosed(t, "837", s, api.ErrEnvelope)
		expectClosed(t, "", s, api.ErrEnvelope)
	}
	for _, kind := range []string{"", "83", "8377", "83a", "8 7", "-37"} {
		expectClosed(t, kind, "ISA*:~"+rest, api.ErrEnvelope)
		expectClosed(t, kind, "ISA*:~GS*"+kind+"*7~ST*"+kind+"*7~SE*2*7~GE*1*7~IEA*1*7~", api.ErrEnvelope)
		expectClosed(t, kind, "ISA*:~no text", api.ErrEnvelope)
		expectClosed(t, kind, "ISA*:~", api.ErrEnvelope)
	}
	// Other signs than the head's are none.
	expectClosed(t, "837", "ISA|:~"+rest, api.ErrEnvelope)
	expectClosed(t, "837", "ISA*:|"+rest, api.ErrSyntax)
}

// Promise 6.3: seg.Split's error, ahead of what the segments say.
func TestOpenSplitsError(t *testing.T) {
	for _, s := range []string{"x", "~", "GS*837*7", "GS*837*7~ST*837*7~SE*2*7~GE*1*7~IEA*1*7", "GS*837*7~ST*837*7~~SE*9*7~GE*1*7~IEA*1*7~", "GS*837*7~ST*837*7~*a~SE*3*7~GE*1*7~IEA*1*7~", "GS*837*7~ST*837*7~A:b~SE*3*7~GE*1*7~IEA*1*7~", "GS*837*7~ST*837*7~A*\n~SE*3*7~GE*1*7~IEA*1*7~", "GS*837*7~ST*837*7~A*é~SE*3*7~GE*1*7~IEA*1*7~", "GS*837*7~ST*837*7~SE*2*7~GE*1*7~IEA*1*7~\n", "~GS*837*7~"} {
		expectClosed(t, "837", "ISA*:~"+s, api.ErrSyntax)
	}
}

// Promise 6.3: fewer than five segments.
func TestOpenFew(t *testing.T) {
	own := []string{"GS*837*7~", "ST*837*7~", "SE*2*7~", "GE*1*7~", "IEA*1*7~"}
	for n := range 5 {
		expectClosed(t, "837", "ISA*:~"+strings.Join(own[:n], ""), api.ErrEnvelope)
		expectClosed(t, "837", "ISA*:~"+strings.Join(own[5-n:], ""), api.ErrEnvelope)
	}
	expectClosed(t, "837", "ISA*:~GS*837*7~ST*837*7~GE*1*7~IEA*1*7~", api.ErrEnvelope)
	expectOpened(t, "837", "ISA*:~"+strings.Join(own, ""), usual, 7, nil)
}

// Promise 6.3: a number that is none, the same in all segments.
func TestOpenNumber(t *testing.T) {
	text := func(n string) string {
		return strings.ReplaceAll("ISA*:~GS*837*N~ST*837*N~A*b*c~SE*3*N~GE*1*N~IEA*1*N~", "N", n)
	}
	for _, n := range []string{"", "07", "00", "-7", "-0", "+7", "7.0", " 7", "7 ", "a", "7a", "1000000000", "0000000007", "9999999999", "99999999999999999999", "1:2", "7:", ":7", "7*", "7*8", "0x7"} {
		expectClosed(t, "837", text(n), api.ErrEnvelope)
	}
	for _, n := range []int{0, 1, 7, 10, 123456789, 999999999} {
		expectOpened(t, "837", text(strconv.Itoa(n)), usual, n, []api.Seg{abc})
	}
}

// Promise 6.3: each of the envelope's own segments, in many a wrong form; what is beside SE is named ahead of it.
func TestOpenOwnSegments(t *testing.T) {
	own := []string{"GS*837*7", "ST*837*7", "SE*3*7", "GE*1*7", "IEA*1*7"}
	text := func(l []string) string {
		return "ISA*:~" + l[0] + "~" + l[1] + "~A*b*c~" + l[2] + "~" + l[3] + "~" + l[4] + "~"
	}
	expectOpened(t, "837", text(own), usual, 7, []api.Seg{abc})
	wrong := [][]string{
		{"gs*837*7", "ST*837*7", "GS*835*7", "GS*837:*7", "GS*:837*7", "GS**7", "GS*837", "GS", "GS*837*7*", "GS*837*7*1", "GS*837*8", "GS*7*837", "GS *837*7", "GS*837 *7"},
		{"st*837*7", "GS*837*7", "ST*835*7", "ST*837:*7", "ST**7", "ST*837", "ST", "ST*837*7*", "ST*837*8", "ST*837*07", "ST*837*7:", "ST*7*837", "A*b*c"},
		{"se*3*7", "SE*2*7", "SE*4*7", "SE*03*7", "SE*3:*7", "SE**7", "SE*3", "SE", "SE*3*7*", "SE*3*8", "SE*3*07", "SE*3*7:", "SE*7*3", "A*b*c", "SE*1*7", "SE*0*7", "SE*-3*7", "SE*6*7", "SE*8*7", "SE*x*7", "GE*1*7", "SE*99999999999999999999*7"},
		{"ge*1*7", "GE*0*7", "GE*2*7", "GE*01*7", "GE*1:*7", "GE**7", "GE*1", "GE", "GE*1*7*", "GE*1*8", "GE*1*07", "GE*1*7:", "GE*7*1", "IEA*1*7", "SE*3*7"},
		{"iea*1*7", "IEA*0*7", "IEA*2*7", "IEA*01*7", "IEA*1:*7", "IEA**7", "IEA*1", "IEA", "IEA*1*7*", "IEA*1*8", "IEA*1*07", "IEA*1*7:", "IEA*7*1", "GE*1*7", "A*b*c"},
	}
	for place, forms := range wrong {
		for _, form := range forms {
			l := slices.Clone(own)
			l[place] = form
			want := api.ErrEnvelope
			if place == 2 {
				want = api.ErrCount
			}
			expectClosed(t, "837", text(l), want)
			if place != 2 {
				l[2] = "SE*9*7"
				expectClosed(t, "837", text(l), api.ErrEnvelope)
			}
		}
	}
	expectClosed(t, "837", "ISA*:~ST*837*7~GS*837*7~SE*2*7~GE*1*7~IEA*1*7~", api.ErrEnvelope)
	expectClosed(t, "837", "ISA*:~GS*837*7~ST*837*7~SE*2*7~IEA*1*7~GE*1*7~", api.ErrEnvelope)
	expectClosed(t, "837", text(own)+"A~", api.ErrEnvelope)
	expectClosed(t, "837", text(own)+"IEA*1*7~", api.ErrEnvelope)
	// Two envelopes begin and end as one does; the count tells them.
	expectClosed(t, "837", text(own)+text(own), api.ErrCount)
}

// Promise 6.3: a segment too many, or too few, by the count.
func TestOpenCount(t *testing.T) {
	for _, inside := range []int{0, 1, 2, 7, 8, 9, 97, 98, 99, 998} {
		for _, count := range []int{0, 1, 2, inside, inside + 1, inside + 2, inside + 3, inside + 5, 10 * inside, 4096} {
			s := "ISA*:~GS*837*7~ST*837*7~" + strings.Repeat("A*b*c~", inside) + "SE*" + strconv.Itoa(count) + "*7~GE*1*7~IEA*1*7~"
			if count == inside+2 {
				expectOpened(t, "837", s, usual, 7, repeat(inside, abc))
			} else {
				expectClosed(t, "837", s, api.ErrCount)
			}
		}
	}
}

func randomSegs(r *rand.Rand, d api.Delims) []api.Seg {
	text := func(least int) string {
		s := make([]byte, 0, 8)
		for n := least + r.Intn(4); len(s) < n; {
			if b := byte(32 + r.Intn(95)); b != d.Element && b != d.Part && b != d.Segment {
				s = append(s, b)
			}
		}
		return string(s)
	}
	l := make([]api.Seg, r.Intn(12))
	for i := range l {
		l[i].Elements = [][]string{{text(1)}}
		for range r.Intn(4) {
			parts := []string{text(0)}
			for range r.Intn(3) {
				parts = append(parts, text(0))
			}
			l[i].Elements = append(l[i].Elements, parts)
		}
	}
	return l
}

// Promise 6.4: what was put in an envelope lies in it.
func TestLiesInIt(t *testing.T) {
	r := rand.New(rand.NewSource(6))
	for range 3000 {
		p := r.Perm(len(signs))
		d := api.Delims{Element: signs[p[0]], Part: signs[p[1]], Segment: signs[p[2]]}
		kind, number, l := fmt.Sprintf("%03d", r.Intn(1000)), r.Intn(1+r.Intn(1000000000)), randomSegs(r, d)
		s, e := Wrap(d, kind, number, l)
		if e != api.OK {
			t.Fatalf("Wrap(%q, %q, %d, %q): %v", d, kind, number, l, e)
		}
		expectOpened(t, kind, s, d, number, l)
		other := fmt.Sprintf("%03d", r.Intn(1000))
		if other != kind {
			expectClosed(t, other, s, api.ErrEnvelope)
		}
	}
}

// Promise 6.4 and P0: of texts that are changed a little, what is opened is written as it was.
func TestWrittenAsItWas(t *testing.T) {
	r := rand.New(rand.NewSource(66))
	opened := 0
	for range 60000 {
		s := []byte(wrapped[r.Intn(len(wrapped))].s)
		for range r.Intn(3) {
			const bytes = "0123789*:~ASTGEI\n\xff"
			at := r.Intn(len(s))
			switch r.Intn(3) {
			case 0:
				s[at] = bytes[r.Intn(len(bytes))]
			case 1:
				s = slices.Delete(s, at, at+1)
			case 2:
				s = slices.Insert(s, at, bytes[r.Intn(len(bytes))])
			}
		}
		kind := []string{"837", "835", "000", "999"}[r.Intn(4)]
		d, n, l, e := Open(kind, string(s))
		if e != api.OK {
			if d != (api.Delims{}) || n != 0 || l != nil {
				t.Fatalf("Open(%q, %q): %q, %d, %q, %v", kind, s, d, n, l, e)
			}
			continue
		}
		opened++
		expectWrapped(t, d, kind, n, l, string(s), api.OK)
	}
	if opened < 1000 {
		t.Errorf("just %d were opened", opened)
	}
}

// R3: what is handed in stays as it was, and what lies behind a list's length is neither read nor written.
func TestArgumentsStay(t *testing.T) {
	elements := [][]string{{"A"}, {"b"}, {"c"}, {"behind*"}}[:3]
	l := []api.Seg{{Elements: elements}, line("behind~"), line("behind~"), line("behind~"), line("behind~")}[:1]
	expectWrapped(t, usual, "837", 7, l, wrapped[0].s, api.OK)
	for _, g := range l[:5][1:] {
		if !reflect.DeepEqual(g, line("behind~")) {
			t.Errorf("changed: %q", l[:5])
		}
	}
	if elements[:4][3][0] != "behind*" || !reflect.DeepEqual(l[0], abc) {
		t.Errorf("changed: %q", elements[:4])
	}
}

// R3: what is answered is new memory; behind its end lies nothing of the envelope.
func TestNewMemory(t *testing.T) {
	_, _, a, _ := Open("837", wrapped[0].s)
	_, _, b, _ := Open("837", wrapped[0].s)
	for _, g := range a[:cap(a)][len(a):] {
		if g.Elements != nil {
			t.Errorf("behind the end: %q", g)
		}
	}
	for _, parts := range a[0].Elements {
		parts[0] = "changed"
	}
	clear(a[0].Elements)
	clear(a)
	if !sameLists(b, []api.Seg{abc}) {
		t.Errorf("shared: %q", b)
	}
	_, _, none, _ := Open("837", "ISA*:~GS*837*7~ST*837*7~SE*2*7~GE*1*7~IEA*1*7~")
	if len(none) != 0 || cap(none) != 0 {
		t.Errorf("%q of %d", none, cap(none))
	}
}

// Promise 6.2: the text is the head, and what seg writes; an oracle that joins texts by hand.
func TestWrapByHand(t *testing.T) {
	r := rand.New(rand.NewSource(666))
	for range 500 {
		l, n := randomSegs(r, usual), r.Intn(2000)
		inside, e := seg.Write(usual, l)
		if e != api.OK {
			t.Fatalf("%q: %v", l, e)
		}
		want := fmt.Sprintf("ISA*:~GS*123*%d~ST*123*%d~%sSE*%d*%d~GE*1*%d~IEA*1*%d~", n, n, inside, len(l)+2, n, n, n)
		expectWrapped(t, usual, "123", n, l, want, api.OK)
	}
}
