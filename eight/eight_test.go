package eight

import (
	"fmt"
	"math"
	"math/rand"
	"reflect"
	"regexp"
	"slices"
	"strconv"
	"strings"
	"testing"

	"leechbook/api"
	"leechbook/claim"
	"leechbook/cover"
)

const signs = "!\"#$%&'()*+,/:;<=>?@[\\]^_`{|}~"

var usual = delims("*:~")

func delims(s string) api.Delims { return api.Delims{Element: s[0], Part: s[1], Segment: s[2]} }

func line() api.Line {
	return api.Line{Proc: "99213", Mods: []string{"25"}, Date: 20240301, Units: 1, Billed: 100}
}

func original(id string, lines ...api.Line) api.Claim {
	return api.Claim{Id: id, Member: "M1", Family: "F1", Does: api.Original, Lines: lines}
}

func void(id string) api.Claim {
	return api.Claim{Id: id, Member: "M1", Family: "F1", Does: api.Void, Ref: "C0"}
}

func batch(claims ...api.Claim) api.Batch { return api.Batch{Number: 7, Claims: claims} }

// text is an envelope of the number 7 about these segments, with the usual signs.
func text(segs ...string) string {
	inside := ""
	for _, g := range segs {
		inside += g + "~"
	}
	return "ISA*:~GS*837*7~ST*837*7~" + inside + "SE*" + strconv.Itoa(len(segs)+2) + "*7~GE*1*7~IEA*1*7~"
}

// example is the chapter's, segment by segment.
func example() []string {
	return []string{"BHT*1", "HL*1", "NM*M1*F1", "CLM*C1*1.00*0*1*", "LX*1", "SV*HC:99213:25*1.00*1", "DTP*472*20240301"}
}

// with is the example with another segment at a place.
func with(at int, g string) []string {
	l := example()
	l[at] = g
	return l
}

func sameBatch(a, b api.Batch) bool {
	return a.Number == b.Number && slices.EqualFunc(a.Claims, b.Claims, claim.Same)
}

func expectWritten(t *testing.T, d api.Delims, b api.Batch, want string, wantErr api.Errno) {
	t.Helper()
	if s, e := Write(d, b); s != want || e != wantErr {
		t.Errorf("Write(%q, %.300v): %.300q, %v; want %.300q, %v", d, fmt.Sprint(b), s, e, want, wantErr)
	}
}

func expectRead(t *testing.T, s string, d api.Delims, b api.Batch) {
	t.Helper()
	if haveD, have, e := Read(s); haveD != d || !sameBatch(have, b) || e != api.OK {
		t.Errorf("Read(%.300q): %q, %.300v, %v; want %.300v", s, haveD, fmt.Sprint(have), e, fmt.Sprint(b))
	}
}

func expectRefused(t *testing.T, s string, want api.Errno) {
	t.Helper()
	if d, b, e := Read(s); d != (api.Delims{}) || b.Number != 0 || len(b.Claims) != 0 || e != want {
		t.Errorf("Read(%.300q): %q, %.300v, %v; want %v", s, d, fmt.Sprint(b), e, want)
	}
}

// written are batches and their texts.
var written = []struct {
	d api.Delims
	b api.Batch
	s string
}{
	{usual, batch(original("C1", line())), text(example()...)},
	{usual, batch(), text("BHT*0")},
	{usual, batch(void("C1")), text("BHT*1", "HL*1", "NM*M1*F1", "CLM*C1*0.00*0*8*C0")},
	{usual, batch(
		api.Claim{Id: "C2", Member: "M2", Family: "F2", Net: 1, Does: api.Replace, Ref: "C1", Lines: []api.Line{
			{Proc: "A0000", Date: 10101, Units: 9999, Billed: 7},
			{Proc: "80050", Mods: []string{"AA", "00", "Z9", "59"}, Date: 11231, Units: 10, Billed: 123456, Prior: 5},
		}},
		void("C3"),
		original("C4", api.Line{Proc: "99213", Date: 99991231, Units: 2, Billed: api.MaxCents, Prior: api.MaxCents}),
	), text("BHT*3",
		"HL*1", "NM*M2*F2", "CLM*C2*1234.63*1*7*C1",
		"LX*1", "SV*HC:A0000*0.07*9999", "DTP*472*10101",
		"LX*2", "SV*HC:80050:AA:00:Z9:59*1234.56*10", "DTP*472*11231", "AMT*D*0.05",
		"HL*2", "NM*M1*F1", "CLM*C3*0.00*0*8*C0",
		"HL*3", "NM*M1*F1", "CLM*C4*100000000000.00*0*1*",
		"LX*1", "SV*HC:99213*100000000000.00*2", "DTP*472*99991231", "AMT*D*100000000000.00")},
	{delims("|^\\"), api.Batch{Number: 999999999, Claims: []api.Claim{original("123456789012", api.Line{Proc: "99213", Mods: []string{"25", "25"}, Date: 20240301, Units: 1})}},
		"ISA|^\\GS|837|999999999\\ST|837|999999999\\BHT|1\\HL|1\\NM|M1|F1\\CLM|123456789012|0.00|0|1|\\LX|1\\SV|HC^99213^25^25|0.00|1\\DTP|472|20240301\\SE|9|999999999\\GE|1|999999999\\IEA|1|999999999\\"},
	{delims("+;!"), api.Batch{}, "ISA+;!GS+837+0!ST+837+0!BHT+0!SE+3+0!GE+1+0!IEA+1+0!"},
}

// Promises 8.1, 8.2, 8.3 and 8.5: what is written, and read.
func TestWriteAndRead(t *testing.T) {
	for _, c := range written {
		expectWritten(t, c.d, c.b, c.s, api.OK)
		expectRead(t, c.s, c.d, c.b)
	}
}

// Promise 8.2: claim.Batch's error, ahead of cover.Wrap's.
func TestWriteBatchError(t *testing.T) {
	wrong := line()
	wrong.Proc = "9921"
	for _, c := range []struct {
		b api.Batch
		e api.Errno
	}{
		{api.Batch{Number: -1}, api.ErrRange},
		{api.Batch{Number: 1000000000}, api.ErrRange},
		{api.Batch{Number: math.MinInt}, api.ErrRange},
		{api.Batch{Number: math.MaxInt, Claims: make([]api.Claim, 257)}, api.ErrRange},
		{api.Batch{Claims: make([]api.Claim, 257)}, api.ErrLimit},
		{batch(original("C1")), api.ErrCount},
		{batch(original("C1", line()), original("c2", line())), api.ErrCode},
		{batch(original("C1", line(), wrong)), api.ErrCode},
		{batch(original("C1", api.Line{Proc: "99213", Date: 20240230, Units: 1})), api.ErrDate},
		{batch(original("C1", api.Line{Proc: "99213", Date: 20240301})), api.ErrRange},
		{batch(original("C1", api.Line{Proc: "99213", Date: 20240301, Units: 1, Prior: 1})), api.ErrMoney},
		{batch(original("C1", api.Line{Proc: "99213", Date: 20240301, Units: 1, Billed: -1})), api.ErrMoney},
		{batch(original("C1", slices.Repeat([]api.Line{{Proc: "99213", Date: 20240301, Units: 1, Billed: api.MaxCents}}, 2)...)), api.ErrMoney},
		{batch(original("C1", make([]api.Line, 1000)...)), api.ErrLimit},
		{batch(api.Claim{}), api.ErrCode},
	} {
		expectWritten(t, usual, c.b, "", c.e)
		expectWritten(t, delims("**~"), c.b, "", c.e)
		expectWritten(t, api.Delims{}, c.b, "", c.e)
	}
}

// Promise 8.2: cover.Wrap's error: signs that may not be, too many segments, too long a text.
func TestWriteWrapError(t *testing.T) {
	for _, d := range []api.Delims{{}, delims("**~"), delims("A:~"), delims("*.~"), delims("*:-"), delims("*: "), delims("*:\n"), delims("\xff:~")} {
		expectWritten(t, d, batch(), "", api.ErrArg)
		expectWritten(t, d, batch(original("C1", line())), "", api.ErrArg)
	}
	full := original("C1", slices.Repeat([]api.Line{{Proc: "99213", Date: 20240301, Units: 1}}, 999)...)
	expectWritten(t, usual, batch(full, full), "", api.ErrArg)
	expectWritten(t, usual, api.Batch{Claims: slices.Repeat([]api.Claim{full}, 256)}, "", api.ErrArg)
	// 3001 segments, but too many bytes.
	long := slices.Repeat([]api.Line{{Proc: "99213", Mods: []string{"25", "25", "25", "25"}, Date: 20240301, Units: 9999, Billed: 10000000000}}, 999)
	expectWritten(t, usual, batch(original("C1", long...)), "", api.ErrLimit)
	expectWritten(t, delims("*::"), batch(original("C1", long...)), "", api.ErrArg)
}

// Promises 8.2 and 8.3: a text of just MaxText bytes is written and read; one with a byte more is not.
func TestBytesLimit(t *testing.T) {
	long := api.Line{Proc: "99213", Mods: []string{"25", "25", "25", "25"}, Date: 20240301, Units: 1, Billed: 10000000000}
	c := original("C1", slices.Repeat([]api.Line{long}, 999)...)
	s, e := Write(usual, batch(c))
	if e != api.OK {
		t.Fatal(e)
	}
	// Each nought behind a service's units is a byte more.
	for i := range api.MaxText - len(s) {
		c.Lines[i/3].Units *= 10
	}
	s, e = Write(usual, batch(c))
	if len(s) != api.MaxText || e != api.OK {
		t.Fatalf("%d bytes, %v", len(s), e)
	}
	expectRead(t, s, usual, batch(c))
	expectWritten(t, usual, api.Batch{Number: 10, Claims: []api.Claim{c}}, "", api.ErrLimit)
	c.Id += "1"
	expectWritten(t, usual, batch(c), "", api.ErrLimit)
	expectRefused(t, strings.Replace(s, "CLM*C1*", "CLM*C11*", 1), api.ErrLimit)
}

// Promises 8.2 and 8.3: as many segments as an envelope may have, and one more.
func TestSegsLimit(t *testing.T) {
	service := api.Line{Proc: "99213", Date: 10101, Units: 1, Billed: 1}
	long := original("C1", slices.Repeat([]api.Line{service}, 999)...)
	rest := original("C2", slices.Repeat([]api.Line{service}, 362)...)
	rest.Lines[0].Prior = 1
	if inside := 1 + 3 + 3*999 + 3 + 3*362 + 1; inside != api.MaxSegs-5 {
		t.Fatalf("%d segments", inside)
	}
	s, e := Write(usual, batch(long, rest))
	if e != api.OK {
		t.Fatal(e)
	}
	expectRead(t, s, usual, batch(long, rest))
	rest.Lines[1].Prior = 1
	expectWritten(t, usual, batch(long, rest), "", api.ErrArg)
}

// Promise 8.3: cover.Open's error of the kind 837, ahead of what lies in the envelope.
func TestReadEnvelope(t *testing.T) {
	s := text(example()...)
	expectRefused(t, "", api.ErrEnvelope)
	expectRefused(t, "ISA*:~", api.ErrEnvelope)
	expectRefused(t, strings.ReplaceAll(s, "837", "835"), api.ErrEnvelope)
	expectRefused(t, strings.Replace(s, "SE*9", "SE*10", 1), api.ErrCount)
	expectRefused(t, strings.Replace(s, "GE*1", "GE*2", 1), api.ErrEnvelope)
	expectRefused(t, s[:len(s)-1], api.ErrSyntax)
	expectRefused(t, s+"~", api.ErrSyntax)
	expectRefused(t, strings.Replace(s, "99213", "99\x00213", 1), api.ErrSyntax)
	expectRefused(t, strings.Replace(s, "LX*1", "*1", 1), api.ErrSyntax)
	expectRefused(t, s+strings.Repeat(" ", api.MaxText), api.ErrLimit)
	expectRefused(t, strings.Replace(text("XYZ"), "SE*3", "SE*4", 1), api.ErrCount)
	expectRefused(t, strings.Replace(text("BHT*2"), "GE*1*7", "GE*1*8", 1), api.ErrEnvelope)
}

// Promise 8.3: what is first is not BHT with one element more, of one part, that is a number of at most three digits.
func TestReadCount(t *testing.T) {
	expectRefused(t, text(), api.ErrSyntax)
	for _, g := range []string{"BHT", "BHT*1*", "BHT*1*1", "BHT*", "BHT*1:", "BHT*:1", "BHT*1:1", "BHX*1", "bht*1", "HL*1", "BHT *1", "BHT*01", "BHT*-1", "BHT*+1", "BHT*1.0", "BHT* 1", "BHT*1000", "BHT*0001", "BHT*x", "BHT*9999"} {
		expectRefused(t, text(with(0, g)...), api.ErrSyntax)
		expectRefused(t, text(g), api.ErrSyntax)
		// Ahead of all that is behind.
		expectRefused(t, text(g, "XX"), api.ErrSyntax)
	}
	expectRefused(t, text(example()[1:]...), api.ErrSyntax)
}

// Promise 8.3: at last ErrCount.
func TestReadClaimsCount(t *testing.T) {
	for _, told := range []int{0, 2, 3, 10, 256, 999} {
		expectRefused(t, text(with(0, "BHT*"+strconv.Itoa(told))...), api.ErrCount)
	}
	for _, told := range []int{1, 2, 9, 10, 256, 257, 999} {
		expectRefused(t, text("BHT*"+strconv.Itoa(told)), api.ErrCount)
	}
	expectRefused(t, text("BHT*0", "XX"), api.ErrOrder)
	l := append(with(0, "BHT*3"), "HL*2", "NM*M1*F1", "CLM*C2*0.01*0*8*C1")
	expectRefused(t, text(l...), api.ErrBalance)
	l[len(l)-1] = "CLM*C2*0*0*8*C1"
	expectRefused(t, text(l...), api.ErrCount)
	l[0] = "BHT*2"
	expectRead(t, text(l...), usual, batch(original("C1", line()), api.Claim{Id: "C2", Member: "M1", Family: "F1", Does: api.Void, Ref: "C1"}))
}

func voids(n int) []string {
	l := []string{"BHT*" + strconv.Itoa(n)}
	for i := range n {
		l = append(l, "HL*"+strconv.Itoa(i+1), "NM*M1*F1", "CLM*C1*0*0*8*C0")
	}
	return l
}

// Promise 8.3: at the limit of claims, and behind it, whatever stands there.
func TestReadClaimsLimit(t *testing.T) {
	full := batch(slices.Repeat([]api.Claim{void("C1")}, 256)...)
	expectRead(t, text(voids(256)...), usual, full)
	expectRefused(t, text(voids(257)...), api.ErrLimit)
	expectRefused(t, text(voids(300)...), api.ErrLimit)
	for _, g := range []string{"HL*257", "HL*1", "XX", "LX*1", "AMT*D*1", "BHT*256"} {
		want := api.ErrLimit
		if g == "LX*1" {
			// A service of the last claim.
			want = api.ErrSyntax
		}
		expectRefused(t, text(append(voids(256), g)...), want)
	}
	expectRefused(t, text(append(voids(255), "XX")...), api.ErrOrder)
	expectRefused(t, text(append(voids(255), "HL*257")...), api.ErrOrder)
	l := voids(256)
	l[0] = "BHT*255"
	expectRefused(t, text(l...), api.ErrCount)
	l = voids(257)
	l[1] = "HL*2"
	expectRefused(t, text(l...), api.ErrOrder)
}

// Promise 8.3: a claim's place.
func TestReadPlace(t *testing.T) {
	for _, g := range []string{"HL", "HL*", "HL*0", "HL*2", "HL*01", "HL*1*", "HL*1*1", "HL*1:", "HL*:1", "HL*-1", "HL* 1", "HL*x", "hl*1", "HLX*1", "NM*M1*F1", "LX*1", "BHT*1"} {
		expectRefused(t, text(with(1, g)...), api.ErrOrder)
		expectRefused(t, text("BHT*1", g), api.ErrOrder)
	}
	for _, g := range []string{"HL*1", "HL*3", "HL*02", "HL*2*", "SV*1", "AMT*D", "DTP*472*20240301", "XX"} {
		expectRefused(t, text(append(example(), g, "NM*M1*F1", "CLM*C1*0*0*8*C0")...), api.ErrOrder)
	}
}

// Promise 8.3: NM with two elements more, CLM with five, all of one part.
func TestReadHead(t *testing.T) {
	for _, g := range []string{"NM", "NM*M1", "NM*M1*F1*", "NM*M1*F1*X", "NM*M1:*F1", "NM*M1*F1:", "NM*M1*:", "nm*M1*F1", "NMX*M1*F1", "CLM*C1*1.00*0*1*", "HL*1", "LX*1"} {
		expectRefused(t, text(with(2, g)...), api.ErrSyntax)
	}
	for _, g := range []string{"CLM", "CLM*C1*1.00*0*1", "CLM*C1*1.00*0*1**", "CLM*C1*1.00*0*1*:", "CLM*C1:*1.00*0*1*", "CLM*C1*1.00:*0*1*", "CLM*C1*1.00*0:*1*", "CLM*C1*1.00*0*1:*", "CLM*C1*1.00*0*1*C0:", "clm*C1*1.00*0*1*", "CLX*C1*1.00*0*1*", "CLM*C1*x*0*1", "NM*M1*F1", "LX*1"} {
		expectRefused(t, text(with(3, g)...), api.ErrSyntax)
	}
	expectRefused(t, text("BHT*1", "HL*1"), api.ErrSyntax)
	expectRefused(t, text("BHT*1", "HL*1", "NM*M1*F1"), api.ErrSyntax)
	expectRefused(t, text("BHT*1", "HL*1", "CLM*C1*1.00*0*1*", "NM*M1*F1"), api.ErrSyntax)
}

// Promise 8.3: ReadMoney's error of the amount, then Net's and Does'.
func TestReadHeadNumbers(t *testing.T) {
	for _, s := range []string{"", "x", "1.234", "1.", ".1", "01", "-1", "+1", "1,00", " 1", "100000000000.01", "1000000000000", "1e2"} {
		expectRefused(t, text(with(3, "CLM*C1*"+s+"*0*1*")...), api.ErrMoney)
		expectRefused(t, text(with(3, "CLM*C1*"+s+"*10*x*")...), api.ErrMoney)
		expectRefused(t, text("BHT*1", "HL*1", "NM*M1*F1", "CLM*C1*"+s+"*10*x*"), api.ErrMoney)
	}
	for _, s := range []string{"", "x", "10", "00", "01", "-1", "+1", "1.0", " 1", "1 "} {
		for _, g := range []string{"CLM*C1*1.00*" + s + "*1*", "CLM*C1*1.00*0*" + s + "*", "CLM*c1*9.99*" + s + "*" + s + "*-"} {
			expectRefused(t, text(with(3, g)...), api.ErrSyntax)
			// Ahead of what is behind.
			l := with(3, g)
			l[4] = "LX*2"
			expectRefused(t, text(l...), api.ErrSyntax)
		}
	}
	for _, s := range []string{"1", "1.0", "1.00"} {
		expectRead(t, text(with(3, "CLM*C1*"+s+"*0*1*")...), usual, batch(original("C1", line())))
	}
}

// Promise 8.3: claim.Check's error of the claim, behind its services' own.
func TestReadCheck(t *testing.T) {
	for g, want := range map[string]api.Errno{
		"CLM**1.00*0*1*":               api.ErrCode,
		"CLM*c1*1.00*0*1*":             api.ErrCode,
		"CLM*1234567890123*1.00*0*1*":  api.ErrCode,
		"CLM*C1*1.00*2*1*":             api.ErrRange,
		"CLM*C1*1.00*9*1*":             api.ErrRange,
		"CLM*C1*1.00*0*1*C0":           api.ErrCode,
		"CLM*C1*1.00*0*7*":             api.ErrCode,
		"CLM*C1*1.00*0*7*-":            api.ErrCode,
		"CLM*C1*1.00*0*0*C0":           api.ErrRange,
		"CLM*C1*1.00*0*9*C0":           api.ErrRange,
		"CLM*C1*1.00*0*8*C0":           api.ErrCount,
		"CLM*C1*0.00*0*8*C0":           api.ErrCount,
		"CLM*c1*9.99*2*1*C0":           api.ErrCode,
		"CLM*C1*9.99*2*1*C0":           api.ErrRange,
		"CLM*C1*9.99*0*8*1234567890AB": api.ErrCount,
	} {
		expectRefused(t, text(with(3, g)...), want)
		// A service's error stands ahead of it.
		l := with(3, g)
		l[4] = "LX*2"
		expectRefused(t, text(l...), api.ErrOrder)
		// It stands ahead of what is behind the claim.
		expectRefused(t, text(append(with(3, g), "XX")...), want)
	}
	for _, g := range []string{"NM**F1", "NM*M1*", "NM*m1*F1", "NM*M1*1234567890123"} {
		expectRefused(t, text(with(2, g)...), api.ErrCode)
	}
	expectRefused(t, text("BHT*1", "HL*1", "NM*M1*F1", "CLM*C1*0.00*0*1*"), api.ErrCount)
	expectRefused(t, text("BHT*1", "HL*1", "NM*M1*F1", "CLM*C1*0.00*0*7*C0", "HL*2"), api.ErrCount)
}

// Promise 8.3: claim.Check's error of what the services say.
func TestReadCheckServices(t *testing.T) {
	for g, want := range map[string]api.Errno{
		"SV*HC:9921:25*1.00*1":             api.ErrCode,
		"SV*HC:*1.00*1":                    api.ErrCode,
		"SV*HC:99213:*1.00*1":              api.ErrCode,
		"SV*HC:99213:255*1.00*1":           api.ErrCode,
		"SV*HC:99213:25:*1.00*1":           api.ErrCode,
		"SV*HC:99213:25:25:25:25:25*1.0*1": api.ErrCode,
		"SV*HC:99213:25*1.00*0":            api.ErrRange,
	} {
		expectRefused(t, text(with(5, g)...), want)
	}
	for _, day := range []string{"0", "20240230", "19000229", "99999999", "1"} {
		expectRefused(t, text(with(6, "DTP*472*"+day)...), api.ErrDate)
	}
	expectRefused(t, text(append(example(), "AMT*D*1.01")...), api.ErrMoney)
	expectRead(t, text(append(example(), "AMT*D*1")...), usual, batch(original("C1", api.Line{Proc: "99213", Mods: []string{"25"}, Date: 20240301, Units: 1, Billed: 100, Prior: 100})))
	// Two years.
	expectRefused(t, text(append(with(3, "CLM*C1*2.00*0*1*"), "LX*2", "SV*HC:99213*1.00*1", "DTP*472*20250101")...), api.ErrDate)
	// All together are no amount.
	most := "SV*HC:99213*100000000000*1"
	expectRefused(t, text("BHT*1", "HL*1", "NM*M1*F1", "CLM*C1*100000000000*0*1*", "LX*1", most, "DTP*472*20240301", "LX*2", most, "DTP*472*20240301"), api.ErrMoney)
}

// Promise 8.3: claims of 999 services, and of more.
func TestReadServicesLimit(t *testing.T) {
	long := func(n int, more ...string) string {
		l := []string{"BHT*1", "HL*1", "NM*M1*F1", "CLM*C1*0*0*1*"}
		for i := range n {
			l = append(l, "LX*"+strconv.Itoa(i+1), "SV*HC:99213*0*1", "DTP*472*20240301")
		}
		return text(append(l, more...)...)
	}
	service := api.Line{Proc: "99213", Date: 20240301, Units: 1}
	expectRead(t, long(999), usual, batch(original("C1", slices.Repeat([]api.Line{service}, 999)...)))
	expectRefused(t, long(1000), api.ErrLimit)
	expectRefused(t, long(1000, "LX*1000"), api.ErrOrder)
	expectRefused(t, long(1000, "LX*1001", "SV*HC:99213*0*1", "DTP*472*x"), api.ErrDate)
	expectRefused(t, long(999, "LX*999"), api.ErrOrder)
}

// Promise 8.3: ErrBalance, if the amount that is told is another one than the services'.
func TestReadBalance(t *testing.T) {
	for _, s := range []string{"0", "0.99", "1.01", "2", "100", "100000000000"} {
		expectRefused(t, text(with(3, "CLM*C1*"+s+"*0*1*")...), api.ErrBalance)
		// Ahead of what is behind, and of the count.
		expectRefused(t, text(append(with(3, "CLM*C1*"+s+"*0*1*"), "XX")...), api.ErrBalance)
		l := with(3, "CLM*C1*"+s+"*0*1*")
		l[0] = "BHT*2"
		expectRefused(t, text(l...), api.ErrBalance)
	}
	expectRefused(t, text("BHT*1", "HL*1", "NM*M1*F1", "CLM*C1*0.01*0*8*C0"), api.ErrBalance)
}

// Promise 8.4: a service's place.
func TestReadServicePlace(t *testing.T) {
	for _, g := range []string{"LX", "LX*", "LX*0", "LX*2", "LX*01", "LX*1*", "LX*1*1", "LX*1:", "LX*:1", "LX*-1", "LX*x"} {
		expectRefused(t, text(with(4, g)...), api.ErrOrder)
		// Ahead of what is behind.
		l := with(4, g)
		l[5] = "XX"
		expectRefused(t, text(l...), api.ErrOrder)
	}
	for _, g := range []string{"LX*1", "LX*3", "LX*02", "LX"} {
		expectRefused(t, text(append(example(), g, "SV*HC:99213*1.00*1", "DTP*472*20240301")...), api.ErrOrder)
	}
	// Another name is no service: the claim ends there, and it has none.
	for _, g := range []string{"lx*1", "LXX*1", "SV*1"} {
		expectRefused(t, text(with(4, g)...), api.ErrCount)
	}
}

// Promise 8.4: SV with three elements more, the first of two parts or more.
func TestReadDone(t *testing.T) {
	for _, g := range []string{"SV", "SV*HC:99213:25*1.00", "SV*HC:99213:25*1.00*1*", "SV*HC:99213:25*1.00*1*1", "SV*HC*1.00*1", "SV*99213*1.00*1", "SV*HC99213*1.00*1", "SV*hc:99213*1.00*1", "SV*:99213*1.00*1", "SV*HX:99213*1.00*1", "SV*99213:HC*1.00*1", "SV*HC:99213*1.00:*1", "SV*HC:99213*1.00*1:", "SV*HC:99213*x:*1", "SV*HC:99213*x*1:1", "SV**1.00*1", "sv*HC:99213*1.00*1", "SVX*HC:99213*1.00*1", "DTP*472*20240301", "LX*1", "LX*2"} {
		expectRefused(t, text(with(5, g)...), api.ErrSyntax)
	}
	expectRefused(t, text(example()[:5]...), api.ErrSyntax)
	// The amount, then the units.
	for _, s := range []string{"", "x", "1.234", "1.", "01", "-1", "100000000000.01"} {
		expectRefused(t, text(with(5, "SV*HC:99213*"+s+"*1")...), api.ErrMoney)
		expectRefused(t, text(with(5, "SV*HC:99213*"+s+"*10000")...), api.ErrMoney)
		l := with(5, "SV*HC:9*"+s+"*10000")
		expectRefused(t, text(l[:6]...), api.ErrMoney)
	}
	for _, s := range []string{"", "x", "10000", "01", "00", "-1", "1.0", " 1"} {
		expectRefused(t, text(with(5, "SV*HC:99213*1.00*"+s)...), api.ErrSyntax)
		l := with(5, "SV*HC:99213*1.00*"+s)
		l[6] = "DTP*472*x"
		expectRefused(t, text(l...), api.ErrSyntax)
	}
	expectRead(t, text(with(5, "SV*HC:99213:25*1*1")...), usual, batch(original("C1", line())))
}

// Promise 8.4: DTP with two elements more, the first 472, the second a number of at most eight digits.
func TestReadDay(t *testing.T) {
	for _, g := range []string{"DTP", "DTP*472", "DTP*472*20240301*", "DTP*472*20240301*1", "DTP*473*20240301", "DTP*0472*20240301", "DTP**20240301", "DTP*472:*20240301", "DTP*472*20240301:", "DTP*:472*20240301", "DTP*472*2024:0301", "DTP*20240301*472", "DTP*473*x", "dtp*472*20240301", "DTX*472*20240301", "AMT*D*1.00", "LX*2", "HL*2"} {
		expectRefused(t, text(with(6, g)...), api.ErrSyntax)
	}
	expectRefused(t, text(example()[:6]...), api.ErrSyntax)
	for _, s := range []string{"", "x", "-20240301", "020240301", "0020240301", "00010101", "120240301", "2024.0301", " 20240301", "2024-3-1", "+1"} {
		expectRefused(t, text(with(6, "DTP*472*"+s)...), api.ErrDate)
		l := append(with(6, "DTP*472*"+s), "AMT*X*0")
		l[5] = "SV*HC:9*1.00*0"
		expectRefused(t, text(l...), api.ErrDate)
	}
	early := line()
	early.Date = 10101
	expectRead(t, text(with(6, "DTP*472*10101")...), usual, batch(original("C1", early)))
}

// Promise 8.4: AMT with two elements more, of one part each; one of another form is not the service's.
func TestReadPrior(t *testing.T) {
	for _, g := range []string{"AMT*X*1.00", "AMT*d*1.00", "AMT**1.00", "AMT*DD*1.00", "AMT*D*", "AMT*D*x", "AMT*D*0", "AMT*D*0.0", "AMT*D*0.00", "AMT*D*-1", "AMT*D*-0.01", "AMT*D*01", "AMT*D*1.001", "AMT*D*100000000000.01", "AMT*1.00*D", "AMT*X*0"} {
		expectRefused(t, text(append(example(), g)...), api.ErrMoney)
		// Ahead of what the claim's check says.
		expectRefused(t, text(append(with(3, "CLM*c1*9.00*0*1*"), g)...), api.ErrMoney)
	}
	for _, g := range []string{"AMT", "AMT*D", "AMT*D*1.00*", "AMT*D*1.00*1", "AMT*D:*1.00", "AMT*D*1.00:", "AMT*D*:", "AMT*X:*0", "amt*D*1.00", "AMTX*D*1.00", "NTE*D*1.00"} {
		expectRefused(t, text(append(example(), g)...), api.ErrOrder)
		// The claim's own error comes first.
		expectRefused(t, text(append(with(3, "CLM*c1*1.00*0*1*"), g)...), api.ErrCode)
		expectRefused(t, text(append(with(3, "CLM*C1*9.00*0*1*"), g)...), api.ErrBalance)
	}
	// A second one is none of it.
	expectRefused(t, text(append(example(), "AMT*D*0.50", "AMT*D*0.50")...), api.ErrOrder)
	some := line()
	some.Prior = 50
	expectRead(t, text(append(example(), "AMT*D*0.5")...), usual, batch(original("C1", some)))
	other := line()
	other.Mods = nil
	expectRead(t, text(append(with(3, "CLM*C1*2.00*0*1*"), "AMT*D*0.50", "LX*2", "SV*HC:99213*1.00*1", "DTP*472*20240301")...), usual, batch(original("C1", some, other)))
}

// refusal is how the oracle leaves a text.
type refusal api.Errno

// oracle reads a batch by the chapter's words, as rows of texts with * and : between.
type oracle struct {
	rows []string
	at   int
}

func (o *oracle) row() string {
	if o.at < len(o.rows) {
		return o.rows[o.at]
	}
	return ""
}

var compiled = map[string]*regexp.Regexp{}

func pattern(s string) *regexp.Regexp {
	if compiled[s] == nil {
		compiled[s] = regexp.MustCompile("^(?:" + s + ")$")
	}
	return compiled[s]
}

func (o *oracle) need(s string, e api.Errno) []string {
	found := pattern(s).FindStringSubmatch(o.row())
	if found == nil {
		panic(refusal(e))
	}
	o.at++
	return found
}

func cents(s string) int64 {
	if !pattern(`(0|[1-9][0-9]{0,11})(\.[0-9][0-9]?)?`).MatchString(s) {
		panic(refusal(api.ErrMoney))
	}
	whole, part, _ := strings.Cut(s, ".")
	n, _ := strconv.ParseInt(whole+(part + "00")[:2], 10, 64)
	if n > api.MaxCents {
		panic(refusal(api.ErrMoney))
	}
	return n
}

func number(s string, most int, e api.Errno) int {
	if n, err := strconv.ParseUint(s, 10, 60); err == nil && strconv.FormatUint(n, 10) == s && len(s) <= most {
		return int(n)
	}
	panic(refusal(e))
}

const one = `([^*:]*)`

func (o *oracle) service(place int) api.Line {
	o.need(`LX\*`+strconv.Itoa(place), api.ErrOrder)
	f := o.need(`SV\*HC:([^*]*)\*`+one+`\*`+one, api.ErrSyntax)
	parts := strings.Split(f[1], ":")
	l := api.Line{Proc: parts[0], Mods: parts[1:], Billed: cents(f[2]), Units: number(f[3], 4, api.ErrSyntax)}
	l.Date = number(o.need(`DTP\*472\*`+one, api.ErrSyntax)[1], 8, api.ErrDate)
	if pattern(`AMT\*` + one + `\*` + one).MatchString(o.row()) {
		l.Prior = cents(o.need(`AMT\*D\*`+one, api.ErrMoney)[1])
		if l.Prior == 0 {
			panic(refusal(api.ErrMoney))
		}
	}
	return l
}

func (o *oracle) claim(place int) api.Claim {
	if place > 256 {
		panic(refusal(api.ErrLimit))
	}
	o.need(`HL\*`+strconv.Itoa(place), api.ErrOrder)
	n := o.need(`NM\*`+one+`\*`+one, api.ErrSyntax)
	f := o.need(`CLM\*`+one+`\*`+one+`\*`+one+`\*`+one+`\*`+one, api.ErrSyntax)
	total := cents(f[2])
	c := api.Claim{Id: f[1], Member: n[1], Family: n[2], Net: number(f[3], 1, api.ErrSyntax), Does: number(f[4], 1, api.ErrSyntax), Ref: f[5]}
	for strings.Split(o.row(), "*")[0] == "LX" {
		c.Lines = append(c.Lines, o.service(len(c.Lines)+1))
	}
	if e := claim.Check(c); e != api.OK {
		panic(refusal(e))
	}
	for _, l := range c.Lines {
		total -= l.Billed
	}
	if total != 0 {
		panic(refusal(api.ErrBalance))
	}
	return c
}

func readByWords(rows []string) (b api.Batch, e api.Errno) {
	defer func() {
		if r, ok := recover().(refusal); ok {
			b, e = api.Batch{}, api.Errno(r)
		}
	}()
	o := &oracle{rows: rows}
	told := number(o.need(`BHT\*`+one, api.ErrSyntax)[1], 3, api.ErrSyntax)
	for o.at < len(o.rows) {
		b.Claims = append(b.Claims, o.claim(len(b.Claims)+1))
	}
	if len(b.Claims) != told {
		return api.Batch{}, api.ErrCount
	}
	b.Number = 7
	return b, api.OK
}

func randomCode(r *rand.Rand, from, to int) string {
	s := ""
	for n := from + r.Intn(to-from+1); len(s) < n; {
		s += string("ABCXYZ0189"[r.Intn(10)])
	}
	return s
}

func randomLine(r *rand.Rand) api.Line {
	l := api.Line{Proc: randomCode(r, 5, 5), Date: 20240101 + 100*r.Intn(12) + r.Intn(28), Units: 1 + r.Intn(1+r.Intn(9999)), Billed: r.Int63n(1 + r.Int63n(1000000))}
	for range r.Intn(api.MaxMods + 1) {
		l.Mods = append(l.Mods, randomCode(r, 2, 2))
	}
	if r.Intn(2) == 0 {
		l.Prior = r.Int63n(l.Billed + 1)
	}
	return l
}

func randomBatch(r *rand.Rand, most int) api.Batch {
	b := api.Batch{Number: 7}
	for range r.Intn(most + 1) {
		c := api.Claim{Id: randomCode(r, 1, 12), Member: randomCode(r, 1, 12), Family: randomCode(r, 1, 12), Net: r.Intn(2), Does: []int{1, 7, 8}[r.Intn(3)]}
		if c.Does != api.Original {
			c.Ref = randomCode(r, 1, 12)
		}
		if c.Does != api.Void {
			for range 1 + r.Intn(4) {
				c.Lines = append(c.Lines, randomLine(r))
			}
		}
		b.Claims = append(b.Claims, c)
	}
	return b
}

// Promise 8.5: a batch that is written is read as what it was, with whatever signs.
func TestReadAsItWas(t *testing.T) {
	r := rand.New(rand.NewSource(8))
	for range 2000 {
		p := r.Perm(len(signs))
		d := api.Delims{Element: signs[p[0]], Part: signs[p[1]], Segment: signs[p[2]]}
		b := randomBatch(r, 6)
		b.Number = r.Intn(1 + r.Intn(1000000000))
		s, e := Write(d, b)
		if e != api.OK {
			t.Fatalf("Write(%q, %v): %v", d, b, e)
		}
		expectRead(t, s, d, b)
	}
}

// inside are the rows of a batch's text, with the usual signs.
func inside(t *testing.T, b api.Batch) []string {
	s, e := Write(usual, b)
	if e != api.OK {
		t.Fatalf("Write(%v): %v", b, e)
	}
	rows := strings.Split(strings.TrimPrefix(s, "ISA*:~"), "~")
	return rows[2 : len(rows)-4]
}

// change does something small to rows.
func change(r *rand.Rand, rows []string) []string {
	at := r.Intn(len(rows))
	switch r.Intn(8) {
	case 0:
		return slices.Delete(rows, at, at+1)
	case 1:
		return slices.Insert(rows, at, rows[r.Intn(len(rows))])
	case 2:
		other := r.Intn(len(rows))
		rows[at], rows[other] = rows[other], rows[at]
	case 3:
		return slices.Insert(rows, at, []string{"AMT*D*0.01", "AMT*D*0", "AMT*D", "LX*1", "HL*2", "XX", "DTP*472*x"}[r.Intn(7)])
	default:
		s := []byte(rows[at])
		const bytes = "0123456789*:.-AHCDLX"
		for range 1 + r.Intn(2) {
			switch i := r.Intn(len(s)); r.Intn(3) {
			case 0:
				s[i] = bytes[r.Intn(len(bytes))]
			case 1:
				s = slices.Insert(s, i, bytes[r.Intn(len(bytes))])
			case 2:
				s = append(slices.Delete(s, i, i+1), ""...)
			}
			if len(s) == 0 {
				s = []byte("X")
			}
		}
		rows[at] = string(s)
	}
	return rows
}

// Promises 8.3, 8.4 and 8.5: texts that are changed a little, held against the oracle; what is read is written as one that is read as the same.
func TestReadByWords(t *testing.T) {
	r := rand.New(rand.NewSource(88))
	seen := map[api.Errno]int{}
	for range 20000 {
		rows := inside(t, randomBatch(r, 3))
		for range r.Intn(3) {
			if len(rows) > 0 {
				rows = change(r, rows)
			}
		}
		s := text(rows...)
		if _, _, _, e := cover.Open("837", s); e != api.OK {
			expectRefused(t, s, e)
			continue
		}
		want, e := readByWords(rows)
		seen[e]++
		if e != api.OK {
			expectRefused(t, s, e)
			continue
		}
		expectRead(t, s, usual, want)
		again, e := Write(usual, want)
		if e != api.OK {
			t.Fatalf("Write(%v): %v", want, e)
		}
		expectRead(t, again, usual, want)
	}
	for _, e := range []api.Errno{api.OK, api.ErrSyntax, api.ErrOrder, api.ErrCount, api.ErrDate, api.ErrMoney, api.ErrCode, api.ErrRange, api.ErrBalance} {
		if seen[e] == 0 {
			t.Errorf("%v: %d texts", e, seen[e])
		}
	}
}

// P0: whatever comes is refused or read, and no call panics.
func TestNoPanics(t *testing.T) {
	r := rand.New(rand.NewSource(888))
	base := []byte(written[3].s)
	for range 20000 {
		s := slices.Clone(base[:r.Intn(len(base)+1)])
		for range r.Intn(4) {
			if len(s) > 0 {
				s[r.Intn(len(s))] = byte(r.Intn(256))
			}
		}
		if d, b, e := Read(string(s)); e != api.OK && (d != (api.Delims{}) || b.Number != 0 || b.Claims != nil) {
			t.Fatalf("Read(%q): %q, %v, %v", s, d, b, e)
		}
	}
	for range 2000 {
		d := api.Delims{Element: byte(r.Intn(256)), Part: byte(r.Intn(256)), Segment: byte(r.Intn(256))}
		b := randomBatch(r, 2)
		if len(b.Claims) > 0 && r.Intn(2) == 0 {
			b.Claims[0].Net, b.Claims[0].Lines = int(r.Uint64()), make([]api.Line, r.Intn(3))
		}
		if s, e := Write(d, b); e != api.OK && s != "" {
			t.Fatalf("Write(%q, %v): %q, %v", d, b, s, e)
		}
	}
}

// R3: what is handed in stays as it was, and what lies behind a list's length is neither read nor written.
func TestArgumentsStay(t *testing.T) {
	mods := []string{"25", "behind", "behind"}[:1]
	lines := []api.Line{line(), {Proc: "behind"}, {Proc: "behind"}}[:1]
	lines[0].Mods = mods
	claims := []api.Claim{original("C1", lines...), {Id: "behind"}}[:1]
	claims[0].Lines = lines
	expectWritten(t, usual, api.Batch{Number: 7, Claims: claims}, written[0].s, api.OK)
	if mods[0] != "25" || mods[:3][1] != "behind" || mods[:3][2] != "behind" || lines[:3][1].Proc != "behind" || claims[:2][1].Id != "behind" {
		t.Errorf("changed: %v, %v, %v", mods[:3], lines[:3], claims[:2])
	}
	if !claim.Same(claims[0], original("C1", line())) {
		t.Errorf("changed: %v", claims[0])
	}
}

// R3: what is answered is new memory, and no two of its lists share any.
func TestNewMemory(t *testing.T) {
	s := written[3].s
	_, a, _ := Read(s)
	_, b, _ := Read(s)
	for i := range a.Claims {
		for j := range a.Claims[i].Lines {
			mods := a.Claims[i].Lines[j].Mods
			for _, mod := range mods[:cap(mods)][len(mods):] {
				if mod != "" {
					t.Errorf("behind the end: %q", mod)
				}
			}
			clear(mods[:cap(mods)])
		}
	}
	want := written[3].b
	for i, c := range a.Claims {
		for j, l := range c.Lines {
			l.Mods = want.Claims[i].Lines[j].Mods
			if !reflect.DeepEqual(l, want.Claims[i].Lines[j]) {
				t.Errorf("shared: %v", l)
			}
		}
		clear(c.Lines)
	}
	clear(a.Claims)
	if !sameBatch(b, want) {
		t.Errorf("shared: %v", b)
	}
}
