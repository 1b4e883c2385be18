package five

import (
	"fmt"
	"math"
	"runtime"
	"slices"
	"strconv"
	"strings"
	"testing"

	"leechbook/api"
	"leechbook/remit"
	"leechbook/svc"
)

const most = api.MaxCents

var usual = delims("*:~")

func delims(s string) api.Delims { return api.Delims{Element: s[0], Part: s[1], Segment: s[2]} }

// text is an envelope of the number 7 about these segments, with the usual signs.
func text(segs ...string) string {
	inside := ""
	for _, g := range segs {
		inside += g + "~"
	}
	return "ISA*:~GS*835*7~ST*835*7~" + inside + "SE*" + strconv.Itoa(len(segs)+2) + "*7~GE*1*7~IEA*1*7~"
}

func cas(group string, why int, cents int64) api.Cas {
	return api.Cas{Group: group, Why: why, Cents: cents}
}

func service(proc string, billed, paid int64, l ...api.Cas) api.Svc {
	return api.Svc{Proc: proc, Billed: billed, Paid: paid, Cas: l}
}

// told is a claim with what its services are together.
func told(id string, status int, l ...api.Svc) api.Clp {
	x := api.Clp{Id: id, Status: status, Svcs: l}
	for _, s := range l {
		x.Billed += s.Billed
		x.Paid += s.Paid
		for _, a := range s.Cas {
			if a.Group == "PR" {
				x.Member += a.Cents
			}
		}
	}
	return x
}

// remittance is of the number 7, and balances.
func remittance(held int64, l ...api.Clp) api.Remit {
	r := api.Remit{Number: 7, Held: held, Claims: l}
	r.Paid = remit.Sum(r) - held
	return r
}

// plainPaid is a claim of one service that is paid in full.
func plainPaid(id string, paid int64) api.Clp { return told(id, 1, service("99213", paid, paid)) }

func first() api.Clp {
	return told("C1", 1, service("99213", 100, 80, cas("CO", 45, 20)))
}

// example is the chapter's, segment by segment.
func example() []string {
	return []string{"BPR*0.80*0.00*1", "CLP*C1*1*1.00*0.80*0.00", "SVC*99213*1.00*0.80", "CAS*CO*45*0.20"}
}

// longer is a remittance of a claim that is paid, and of one that is taken back.
func longer() api.Remit {
	return remittance(-80,
		told("C1", 1, service("99213", 100, 50, cas("CO", 45, 20), cas("PR", 1, 30)), service("80050", 70, 70)),
		told("C2", 22, service("J1100", -200, -190, cas("PR", 2, -10))))
}

func longerRows() []string {
	return []string{"BPR*0.10*-0.80*2",
		"CLP*C1*1*1.70*1.20*0.30", "SVC*99213*1.00*0.50", "CAS*CO*45*0.20", "CAS*PR*1*0.30", "SVC*80050*0.70*0.70",
		"CLP*C2*22*-2.00*-1.90*-0.10", "SVC*J1100*-2.00*-1.90", "CAS*PR*2*-0.10"}
}

// with is segments with another one at a place.
func with(l []string, at int, g string) []string {
	l = slices.Clone(l)
	l[at] = g
	return l
}

func sameRemit(a, b api.Remit) bool {
	return a.Number == b.Number && a.Paid == b.Paid && a.Held == b.Held && slices.EqualFunc(a.Claims, b.Claims, svc.Same)
}

func nothing(r api.Remit) bool {
	return r.Number == 0 && r.Paid == 0 && r.Held == 0 && r.Claims == nil
}

func expectWritten(t *testing.T, d api.Delims, r api.Remit, want string, wantErr api.Errno) {
	t.Helper()
	if s, e := Write(d, r); s != want || e != wantErr {
		t.Errorf("Write(%q, %.300s): %.300q, %v; want %.300q, %v", d, fmt.Sprintf("%+v", r), s, e, want, wantErr)
	}
}

func expectRead(t *testing.T, s string, d api.Delims, r api.Remit) {
	t.Helper()
	if haveD, have, e := Read(s); haveD != d || !sameRemit(have, r) || e != api.OK {
		t.Errorf("Read(%.300q): %q, %.300s, %v; want %.300s", s, haveD, fmt.Sprintf("%+v", have), e, fmt.Sprintf("%+v", r))
	}
}

func expectRefused(t *testing.T, s string, want api.Errno) {
	t.Helper()
	if d, r, e := Read(s); d != (api.Delims{}) || !nothing(r) || e != want {
		t.Errorf("Read(%.300q): %q, %.300s, %v; want %v", s, d, fmt.Sprintf("%+v", r), e, want)
	}
}

// written are remittances and their texts.
var written = []struct {
	d api.Delims
	r api.Remit
	s string
}{
	{usual, remittance(0, first()), text(example()...)},
	{usual, remittance(0), text("BPR*0.00*0.00*0")},
	{usual, longer(), text(longerRows()...)},
	{usual, remittance(-80, svc.Back(first())), text("BPR*0.00*-0.80*1", "CLP*C1*22*-1.00*-0.80*0.00", "SVC*99213*-1.00*-0.80", "CAS*CO*45*-0.20")},
	// Taken back, and told anew, of which a part is held back.
	{usual, remittance(3, svc.Back(first()), told("C1", 1, service("99213", 100, 85, cas("OA", 999, 7), cas("PR", 1, 5), cas("PR", 10, 3)))),
		text("BPR*0.02*0.03*2", "CLP*C1*22*-1.00*-0.80*0.00", "SVC*99213*-1.00*-0.80", "CAS*CO*45*-0.20", "CLP*C1*1*1.00*0.85*0.08", "SVC*99213*1.00*0.85", "CAS*OA*999*0.07", "CAS*PR*1*0.05", "CAS*PR*10*0.03")},
	// One of services for nothing, one of the greatest amounts.
	{usual, remittance(0, told("0", 1, service("A0000", 0, 0), service("ZZZZZ", 0, 0)), told("ABCDEFGHIJKL", 1, service("99213", most, 0, cas("PR", 1, most))), told("123456789012", 22, service("99213", -most, 0, cas("CO", 18, -most)))),
		text("BPR*0.00*0.00*3", "CLP*0*1*0.00*0.00*0.00", "SVC*A0000*0.00*0.00", "SVC*ZZZZZ*0.00*0.00",
			"CLP*ABCDEFGHIJKL*1*100000000000.00*0.00*100000000000.00", "SVC*99213*100000000000.00*0.00", "CAS*PR*1*100000000000.00",
			"CLP*123456789012*22*-100000000000.00*0.00*0.00", "SVC*99213*-100000000000.00*0.00", "CAS*CO*18*-100000000000.00")},
	{delims("|^\\"), api.Remit{Number: 999999999, Paid: 80, Claims: []api.Clp{first()}},
		"ISA|^\\GS|835|999999999\\ST|835|999999999\\BPR|0.80|0.00|1\\CLP|C1|1|1.00|0.80|0.00\\SVC|99213|1.00|0.80\\CAS|CO|45|0.20\\SE|6|999999999\\GE|1|999999999\\IEA|1|999999999\\"},
	{delims("+;!"), api.Remit{}, "ISA+;!GS+835+0!ST+835+0!BPR+0.00+0.00+0!SE+3+0!GE+1+0!IEA+1+0!"},
}

// Promises 22.1, 22.2 and 22.3: what is written, and read.
func TestWriteAndRead(t *testing.T) {
	for _, c := range written {
		expectWritten(t, c.d, c.r, c.s, api.OK)
		expectRead(t, c.s, c.d, c.r)
	}
}

// Promise 22.1: remit.Check's error, ahead of ErrMoney and of cover.Wrap's.
func TestWriteCheck(t *testing.T) {
	wrong := first()
	wrong.Svcs = []api.Svc{service("99213", 100, 80, cas("XX", 45, 20))}
	high := remittance(0, plainPaid("A", most), plainPaid("B", most))
	for _, c := range []struct {
		change func(*api.Remit)
		e      api.Errno
	}{
		{func(r *api.Remit) { r.Number = -1 }, api.ErrArg},
		{func(r *api.Remit) { r.Number = 1000000000 }, api.ErrArg},
		{func(r *api.Remit) { r.Number = math.MinInt }, api.ErrArg},
		{func(r *api.Remit) { r.Claims = make([]api.Clp, 1025) }, api.ErrArg},
		{func(r *api.Remit) { r.Claims = append(r.Claims, wrong) }, api.ErrCode},
		{func(r *api.Remit) { r.Claims = append(r.Claims, api.Clp{Id: "C", Status: 1}) }, api.ErrCount},
		{func(r *api.Remit) { r.Claims = append(r.Claims, told("C", 22, service("99213", 1, 1))) }, api.ErrMoney},
		{func(r *api.Remit) { r.Claims = append(r.Claims, told("C", 1, service("99213", 1, 0))) }, api.ErrBalance},
		{func(r *api.Remit) { r.Paid++ }, api.ErrBalance},
		{func(r *api.Remit) { r.Held++ }, api.ErrBalance},
		{func(r *api.Remit) { r.Paid, r.Held = -1, remit.Sum(*r)+1 }, api.ErrBalance},
		{func(r *api.Remit) { r.Held, r.Paid = 1<<60+1, remit.Sum(*r)-1<<60-1 }, api.ErrBalance},
		{func(r *api.Remit) { r.Held, r.Paid = -1<<60-1, remit.Sum(*r)+1<<60+1 }, api.ErrBalance},
		{func(r *api.Remit) { r.Held, r.Paid = math.MinInt64, math.MaxInt64 }, api.ErrBalance},
	} {
		for _, r := range []api.Remit{longer(), high} {
			c.change(&r)
			for _, d := range []api.Delims{usual, delims("**~"), {}} {
				expectWritten(t, d, r, "", c.e)
			}
		}
	}
}

// Promise 22.1: ErrMoney past the ends of Paid and of Held, ahead of cover.Wrap's error.
func TestWriteEnds(t *testing.T) {
	two := func(paid int64) []api.Clp { return []api.Clp{plainPaid("A", most), plainPaid("B", paid)} }
	for _, c := range []struct {
		r api.Remit
		e api.Errno
	}{
		{remittance(0, plainPaid("A", most)), api.OK},
		{remittance(0, two(0)...), api.OK},
		{remittance(0, two(1)...), api.ErrMoney},
		{remittance(0, two(most)...), api.ErrMoney},
		{remittance(1, two(1)...), api.OK},
		{remittance(-1, plainPaid("A", most)), api.ErrMoney},
		{remittance(-1, plainPaid("A", most-1)), api.OK},
		{remittance(-most), api.OK},
		{remittance(-most-1, told("A", 22, service("99213", -1, -1))), api.ErrMoney},
		{remittance(-most, told("A", 22, service("99213", -1, -1))), api.OK},
		{remittance(-most, told("A", 22, service("99213", -most, -most))), api.OK},
		{remittance(-most-1, told("A", 22, service("99213", -most, -most))), api.ErrMoney},
		{remittance(-2*most, told("A", 22, service("99213", -most, -most)), told("B", 22, service("99213", -most, -most))), api.ErrMoney},
		{remittance(most, plainPaid("A", most)), api.OK},
		{remittance(most, two(1)...), api.OK},
		{remittance(most, two(most)...), api.OK},
		{remittance(most+1, two(1)...), api.ErrMoney},
		{remittance(2*most, two(most)...), api.ErrMoney},
		{remittance(-1 << 60), api.ErrMoney},
	} {
		s, e := Write(usual, c.r)
		if e != c.e || (e == api.OK) != (s != "") {
			t.Errorf("Write(%+v): %q, %v; want %v", c.r, s, e, c.e)
		}
		want := c.e
		if e == api.OK {
			expectRead(t, s, usual, c.r)
			want = api.ErrArg
		}
		expectWritten(t, delims("**~"), c.r, "", want)
	}
}

// Promise 22.1: cover.Wrap's error of signs that may not be.
func TestWriteSigns(t *testing.T) {
	for _, d := range []api.Delims{{}, delims("**~"), delims("*~~"), delims("A:~"), delims("*.~"), delims("*:-"), delims("0:~"), delims("*: "), delims("*:\n"), delims("\xff:~")} {
		expectWritten(t, d, api.Remit{}, "", api.ErrArg)
		expectWritten(t, d, longer(), "", api.ErrArg)
	}
}

// many is a claim of services with so many adjustments each, all of a cent.
func many(id string, adjustments ...int) api.Clp {
	var l []api.Svc
	for _, n := range adjustments {
		l = append(l, service("99213", int64(n), 0, slices.Repeat([]api.Cas{cas("CO", 1, 1)}, n)...))
	}
	return told(id, 1, l...)
}

// Promises 22.1 and 22.2: as many segments as an envelope may have, and one more.
func TestSegsLimit(t *testing.T) {
	l := append(slices.Repeat([]int{5}, 681), 2)
	if inside := 2 + 681*6 + 1 + 2; inside != api.MaxSegs-5 {
		t.Fatalf("%d segments", inside)
	}
	full := remittance(0, many("A", l...))
	s, e := Write(usual, full)
	if e != api.OK {
		t.Fatal(e)
	}
	expectRead(t, s, usual, full)
	l[681]++
	expectWritten(t, usual, remittance(0, many("A", l...)), "", api.ErrArg)
	s = strings.Replace(s, "BPR*0.00", "NTE~BPR*0.00", 1)
	expectRefused(t, strings.Replace(s, "SE*4093", "SE*4094", 1), api.ErrLimit)
	// Refused as it stands, though it is too long a text, too.
	expectWritten(t, usual, remittance(0, full.Claims[0], full.Claims[0]), "", api.ErrArg)
	expectWritten(t, delims("**~"), remittance(0, full.Claims[0], full.Claims[0]), "", api.ErrArg)
}

// Promise 22.1: the greatest remittance that balances is refused without gigabytes being made of it.
func TestGreatest(t *testing.T) {
	x := many("A", slices.Repeat([]int{5}, 999)...)
	r := remittance(0, slices.Repeat([]api.Clp{x}, 1024)...)
	var before, after runtime.MemStats
	runtime.ReadMemStats(&before)
	expectWritten(t, usual, r, "", api.ErrArg)
	runtime.ReadMemStats(&after)
	if made := after.TotalAlloc - before.TotalAlloc; made > 1<<25 {
		t.Errorf("%d bytes", made)
	}
}

// Promises 22.1 and 22.2: a text of just MaxText bytes is written and read; one with a byte more is not.
func TestBytesLimit(t *testing.T) {
	r := remittance(0, many("A", slices.Repeat([]int{3}, 999)...))
	s, e := Write(usual, r)
	if e != api.OK {
		t.Fatal(e)
	}
	// Each nought behind a reason is a byte more.
	for i := range api.MaxText - len(s) {
		r.Claims[0].Svcs[i/6].Cas[i%3].Why *= 10
	}
	s, e = Write(usual, r)
	if len(s) != api.MaxText || e != api.OK {
		t.Fatalf("%d bytes, %v", len(s), e)
	}
	expectRead(t, s, usual, r)
	r.Claims[0].Id = "AB"
	expectWritten(t, usual, r, "", api.ErrLimit)
	expectRefused(t, strings.Replace(s, "CLP*A*", "CLP*AB*", 1), api.ErrLimit)
}

// Promise 22.2: cover.Open's error of the kind 835, ahead of what lies in the envelope.
func TestReadEnvelope(t *testing.T) {
	s := text(longerRows()...)
	expectRefused(t, "", api.ErrEnvelope)
	expectRefused(t, "no envelope", api.ErrEnvelope)
	expectRefused(t, "ISA*:~", api.ErrEnvelope)
	expectRefused(t, "BPR*0.00*0.00*0~", api.ErrEnvelope)
	expectRefused(t, strings.ReplaceAll(s, "835", "837"), api.ErrEnvelope)
	expectRefused(t, strings.Replace(s, "GS*835", "GS*837", 1), api.ErrEnvelope)
	expectRefused(t, strings.Replace(s, "SE*11", "SE*10", 1), api.ErrCount)
	expectRefused(t, strings.Replace(s, "SE*11", "SE*12", 1), api.ErrCount)
	expectRefused(t, strings.Replace(s, "GE*1", "GE*2", 1), api.ErrEnvelope)
	expectRefused(t, strings.Replace(s, "IEA*1*7", "IEA*1*8", 1), api.ErrEnvelope)
	expectRefused(t, strings.ReplaceAll(s, "*7~", "*07~"), api.ErrEnvelope)
	expectRefused(t, strings.ReplaceAll(s, "*7~", "*1000000000~"), api.ErrEnvelope)
	expectRefused(t, s[:len(s)-1], api.ErrSyntax)
	expectRefused(t, s[:len(s)-len("IEA*1*7~")], api.ErrEnvelope)
	expectRefused(t, s+"~", api.ErrSyntax)
	expectRefused(t, s+"\n", api.ErrSyntax)
	expectRefused(t, s+"NTE*1~", api.ErrEnvelope)
	// The envelope goes from the first head to the last end, so that its count is another one.
	expectRefused(t, s+s, api.ErrCount)
	expectRefused(t, strings.Replace(s, "99213", "99\x00213", 1), api.ErrSyntax)
	expectRefused(t, strings.Replace(s, "SVC*", "*", 1), api.ErrSyntax)
	expectRefused(t, s+strings.Repeat(" ", api.MaxText), api.ErrLimit)
	expectRefused(t, strings.Replace(text("XYZ"), "SE*3", "SE*4", 1), api.ErrCount)
	expectRefused(t, strings.Replace(text("BPR*x*0.00*0"), "GE*1*7", "GE*1*8", 1), api.ErrEnvelope)
	for i := range len(s) {
		if _, _, e := Read(s[:i]); e == api.OK {
			t.Errorf("cut behind %d: read", i)
		}
	}
}

// misshapen are a segment with an element too few, too many, or of two parts.
func misshapen(g string) []string {
	elements := strings.Split(g, "*")
	made := []string{elements[0], g + "*", g + "*1", strings.Join(elements[:len(elements)-1], "*")}
	for i := 1; i < len(elements); i++ {
		for _, element := range []string{elements[i] + ":", ":" + elements[i], elements[i] + ":1", ":"} {
			made = append(made, strings.Join(with(elements, i, element), "*"))
		}
	}
	return made
}

// Promise 22.2: ErrSyntax of a segment that has not the elements that it must have, ahead of what is in them and behind it.
func TestReadShapes(t *testing.T) {
	rows := longerRows()
	for i, g := range rows {
		for _, other := range misshapen(g) {
			expectRefused(t, text(with(rows, i, other)...), api.ErrSyntax)
			expectRefused(t, text(with(rows, i, other)[:i+1]...), api.ErrSyntax)
			// With amounts that are none.
			expectRefused(t, text(with(rows, i, strings.ReplaceAll(other, ".", ".x"))...), api.ErrSyntax)
		}
	}
}

// Promise 22.2: the first one must be BPR.
func TestReadFirst(t *testing.T) {
	expectRefused(t, text(), api.ErrSyntax)
	for _, g := range []string{"bpr*0.80*0.00*1", "BPX*0.80*0.00*1", "BPRX*0.80*0.00*1", "BP*0.80*0.00*1", "B*0.80*0.00*1", " BPR*0.80*0.00*1", "BPR *0.80*0.00*1", "CLP*0.80*0.00*1", "SVC*99213*1.00*0.80", "CAS*CO*45*0.20", "ST*835*7"} {
		expectRefused(t, text(with(example(), 0, g)...), api.ErrSyntax)
		expectRefused(t, text(g), api.ErrSyntax)
	}
	expectRefused(t, text(example()[1:]...), api.ErrSyntax)
	expectRefused(t, text(slices.Concat(example()[1:], example()[:1])...), api.ErrSyntax)
}

// Promise 22.2: what begins a claim must be CLP.
func TestReadClaimNames(t *testing.T) {
	for _, g := range []string{"CLX*C1*1*1.00*0.80*0.00", "clp*C1*1*1.00*0.80*0.00", "CLPX*C1*1*1.00*0.80*0.00", "CL*C1*1*1.00*0.80*0.00", "CLP *C1*1*1.00*0.80*0.00", "SVC*C1*1*1.00*0.80*0.00", "SVC*99213*1.00*0.80", "CAS*CO*45*0.20", "BPR*0.80*0.00*1", "SE*6*7", "XXX"} {
		expectRefused(t, text(with(example(), 1, g)...), api.ErrSyntax)
		expectRefused(t, text(append(example(), g+"*")...), api.ErrSyntax)
		if g[:3] != "SVC" && g[:3] != "CAS" {
			expectRefused(t, text(append(example(), g)...), api.ErrSyntax)
			expectRefused(t, text(append(example()[:3], g)...), api.ErrSyntax)
			expectRefused(t, text(append(example()[:2], g)...), api.ErrSyntax)
		}
	}
	// Services without a claim, adjustments without a service.
	expectRefused(t, text(slices.Delete(example(), 1, 2)...), api.ErrSyntax)
	expectRefused(t, text(slices.Delete(example(), 2, 3)...), api.ErrSyntax)
	expectRefused(t, text("BPR*0.00*0.00*0", "SVC*99213*1.00*0.80"), api.ErrSyntax)
	expectRefused(t, text("BPR*0.00*0.00*0", "CAS*CO*45*0.20"), api.ErrSyntax)
	// What is named a little otherwise is no service, and no adjustment.
	for _, name := range []string{"svc", "SV", "SVCX", "SVD"} {
		expectRefused(t, text(with(example(), 2, name+"*99213*1.00*0.80")...), api.ErrSyntax)
	}
	for _, name := range []string{"cas", "CA", "CASX", "CAT"} {
		expectRefused(t, text(with(example(), 3, name+"*CO*45*0.20")...), api.ErrSyntax)
	}
}

// place is an element of a segment.
type place struct{ row, element int }

// amountPlaces are those of amounts in longerRows.
var amountPlaces = []place{{0, 1}, {0, 2}, {1, 3}, {1, 4}, {1, 5}, {2, 2}, {2, 3}, {3, 3}, {4, 3}, {5, 2}, {5, 3}, {6, 3}, {6, 4}, {6, 5}, {7, 2}, {7, 3}, {8, 3}}

// put is rows with another element at a place.
func put(rows []string, p place, s string) []string {
	return with(rows, p.row, strings.Join(with(strings.Split(rows[p.row], "*"), p.element, s), "*"))
}

// Promise 22.2: ReadSigned's error of each amount.
func TestReadAmounts(t *testing.T) {
	for _, p := range amountPlaces {
		for _, s := range []string{"", "-", "x", "1.234", "1.", ".1", ".", "01", "-01", "--1", "+1", "1,00", " 1", "1 ", "-0", "-0.0", "-0.00", "100000000000.01", "-100000000000.01", "1000000000000", "1e2", "1.-1"} {
			expectRefused(t, text(put(longerRows(), p, s)...), api.ErrMoney)
			expectRefused(t, text(put(longerRows(), p, s)[:p.row+1]...), api.ErrMoney)
		}
		// An amount, but another one: for now all is well, at last it does not balance.
		for _, s := range []string{"9", "9.9", "-9.99", "100000000000", "-100000000000.00"} {
			if _, _, e := Read(text(put(longerRows(), p, s)...)); e != api.ErrBalance && e != api.ErrMoney {
				t.Errorf("%s: %v", s, e)
			}
		}
	}
	// In fewer signs.
	expectRead(t, text("BPR*0.8*0*1", "CLP*C1*1*1*0.8*0.0", "SVC*99213*1.0*0.8", "CAS*CO*45*0.2"), usual, remittance(0, first()))
	expectRead(t, text("BPR*0*-0.8*1", "CLP*C1*22*-1*-0.8*0", "SVC*99213*-1.0*-0.8", "CAS*CO*45*-0.2"), usual, remittance(-80, svc.Back(first())))
}

// Promise 22.2: ReadInt's error of how many claims, of Status, and of Why.
func TestReadNumbers(t *testing.T) {
	rows := longerRows()
	for _, s := range []string{"", "x", "01", "00", "-1", "+1", "1.0", " 1", "1 ", "0001"} {
		for _, p := range []place{{0, 3}, {1, 2}, {3, 2}, {4, 2}, {6, 2}, {8, 2}} {
			expectRefused(t, text(put(rows, p, s)...), api.ErrSyntax)
			expectRefused(t, text(put(rows, p, s)[:p.row+1]...), api.ErrSyntax)
		}
	}
	// As many digits as there may be, and one more.
	for _, c := range []struct {
		p place
		s string
		e api.Errno
	}{
		{place{0, 3}, "9999", api.ErrCount}, {place{0, 3}, "1000", api.ErrCount}, {place{0, 3}, "10000", api.ErrSyntax}, {place{0, 3}, "99999", api.ErrSyntax},
		{place{1, 2}, "99", api.ErrCode}, {place{1, 2}, "10", api.ErrCode}, {place{1, 2}, "0", api.ErrCode}, {place{1, 2}, "2", api.ErrCode}, {place{1, 2}, "21", api.ErrCode},
		{place{1, 2}, "100", api.ErrSyntax}, {place{1, 2}, "122", api.ErrSyntax},
		{place{1, 2}, "22", api.ErrMoney}, {place{6, 2}, "1", api.ErrMoney},
		{place{3, 2}, "0", api.ErrCode}, {place{3, 2}, "1000", api.ErrSyntax}, {place{8, 2}, "9999", api.ErrSyntax},
	} {
		expectRefused(t, text(put(rows, c.p, c.s)...), c.e)
	}
	r := longer()
	r.Claims[0].Svcs[0].Cas[0].Why = 999
	expectRead(t, text(put(rows, place{3, 2}, "999")...), usual, r)
}

// Promise 22.2: at last ErrCount, if there are not as many claims as BPR told.
func TestReadCount(t *testing.T) {
	for _, told := range []string{"0", "1", "3", "10", "22", "1024", "9999"} {
		expectRefused(t, text(put(longerRows(), place{0, 3}, told)...), api.ErrCount)
		// Ahead of what remit.Check says.
		expectRefused(t, text(put(put(longerRows(), place{0, 3}, told), place{1, 1}, "c1")...), api.ErrCount)
		expectRefused(t, text("BPR*0.01*0.00*"+strings.Replace(told, "0", "5", 1)), api.ErrCount)
	}
	expectRefused(t, text(longerRows()[:6]...), api.ErrCount)
	expectRefused(t, text(append(longerRows(), longerRows()[1:]...)...), api.ErrCount)
	// A claim without a service is one, too, for the count.
	expectRefused(t, text("BPR*0.00*0.00*2", "CLP*C1*1*0*0*0"), api.ErrCount)
	expectRefused(t, text("BPR*0.00*0.00*1", "CLP*C1*1*0*0*0", "CLP*C1*1*0*0*0"), api.ErrCount)
	expectRefused(t, text("BPR*0.00*0.00*1", "CLP*C1*1*0*0*0"), api.ErrCount)
}

// Promise 22.2: behind all that remit.Check's error.
func TestReadCheck(t *testing.T) {
	rows := longerRows()
	for _, c := range []struct {
		p place
		s string
		e api.Errno
	}{
		{place{1, 1}, "", api.ErrCode}, {place{1, 1}, "c1", api.ErrCode}, {place{1, 1}, "ABCDEFGHIJKLM", api.ErrCode}, {place{6, 1}, "C 2", api.ErrCode},
		{place{2, 1}, "", api.ErrCode}, {place{2, 1}, "9921", api.ErrCode}, {place{7, 1}, "j1100", api.ErrCode},
		{place{3, 1}, "", api.ErrCode}, {place{3, 1}, "co", api.ErrCode}, {place{8, 1}, "XX", api.ErrCode},
		{place{3, 3}, "0.00", api.ErrMoney}, {place{3, 3}, "-0.20", api.ErrMoney}, {place{8, 3}, "0.10", api.ErrMoney},
		{place{2, 2}, "-1.00", api.ErrMoney}, {place{2, 3}, "-0.50", api.ErrMoney}, {place{7, 2}, "2.00", api.ErrMoney}, {place{7, 3}, "1.90", api.ErrMoney},
		{place{3, 3}, "0.21", api.ErrBalance}, {place{2, 3}, "0.51", api.ErrBalance}, {place{2, 2}, "1.01", api.ErrBalance},
		{place{1, 3}, "1.71", api.ErrBalance}, {place{1, 4}, "1.21", api.ErrBalance}, {place{1, 5}, "0.31", api.ErrBalance}, {place{6, 5}, "0.10", api.ErrBalance},
		{place{0, 1}, "0.11", api.ErrBalance}, {place{0, 1}, "-0.10", api.ErrBalance}, {place{0, 2}, "-0.79", api.ErrBalance}, {place{0, 2}, "0.80", api.ErrBalance},
	} {
		expectRefused(t, text(put(rows, c.p, c.s)...), c.e)
	}
	// Paid below nothing, though it is all less what is held.
	expectRefused(t, text(put(put(rows, place{0, 1}, "-0.10"), place{0, 2}, "-0.60")...), api.ErrBalance)
	// Too many adjustments, no service.
	expectRefused(t, text("BPR*0*0*1", "CLP*C1*1*6*0*0", "SVC*99213*6*0", "CAS*CO*1*1", "CAS*CO*1*1", "CAS*CO*1*1", "CAS*CO*1*1", "CAS*CO*1*1", "CAS*CO*1*1"), api.ErrCount)
	expectRead(t, text("BPR*0*0*1", "CLP*C1*1*5*0*0", "SVC*99213*5*0", "CAS*CO*1*1", "CAS*CO*1*1", "CAS*CO*1*1", "CAS*CO*1*1", "CAS*CO*1*1"), usual,
		remittance(0, told("C1", 1, service("99213", 500, 0, slices.Repeat([]api.Cas{cas("CO", 1, 100)}, 5)...))))
	expectRefused(t, text("BPR*0*0*2", "CLP*C1*1*0*0*0", "CLP*C2*1*0*0*0", "SVC*99213*0*0"), api.ErrCount)
}

// Promise 22.2: the limits that remit.Check knows: services of a claim, claims of a remittance.
func TestReadLimits(t *testing.T) {
	claims := func(n, services int) []string {
		l := []string{"BPR*0*0*" + strconv.Itoa(n)}
		for range n {
			l = append(l, "CLP*A*1*0*0*0")
			l = append(l, slices.Repeat([]string{"SVC*99213*0*0"}, services)...)
		}
		return l
	}
	of := func(n, services int) api.Remit {
		return remittance(0, slices.Repeat([]api.Clp{told("A", 1, slices.Repeat([]api.Svc{service("99213", 0, 0)}, services)...)}, n)...)
	}
	expectRead(t, text(claims(1024, 1)...), usual, of(1024, 1))
	expectRefused(t, text(claims(1025, 1)...), api.ErrArg)
	expectRefused(t, text(claims(1025, 0)...), api.ErrArg)
	expectRead(t, text(claims(2, 999)...), usual, of(2, 999))
	expectRefused(t, text(claims(1, 1000)...), api.ErrCount)
	expectWritten(t, usual, of(1025, 1), "", api.ErrArg)
	s, e := Write(usual, of(1024, 1))
	if e != api.OK {
		t.Fatal(e)
	}
	expectRead(t, s, usual, of(1024, 1))
	// What is read in fewer signs may be too long to be written.
	expectRead(t, text(claims(4, 999)...), usual, of(4, 999))
	expectWritten(t, usual, of(4, 999), "", api.ErrLimit)
}

// mistake is an element put in at a place, and the error of that; one at no place is behind the last one.
type mistake struct {
	p place
	s string
	e api.Errno
}

// mistakes are in the order in which Read is to name them.
func mistakes() []mistake {
	var l []mistake
	for row, g := range longerRows() {
		l = append(l, mistake{place{row, -1}, "", api.ErrSyntax})
		l = append(l, mistake{place{row, strings.Count(g, "*")}, "1:2", api.ErrSyntax}, mistake{place{row, 0}, "XXX", api.ErrSyntax})
		for element := 1; element <= strings.Count(g, "*"); element++ {
			p := place{row, element}
			if slices.Contains(amountPlaces, p) {
				l = append(l, mistake{p, "x", api.ErrMoney})
			} else if p == (place{0, 3}) || g[:3] != "SVC" && element == 2 {
				l = append(l, mistake{p, "x", api.ErrSyntax})
			}
		}
	}
	return append(l, mistake{place{0, 3}, "3", api.ErrCount},
		mistake{place{1, 1}, "c1", api.ErrCode}, mistake{place{3, 3}, "0.00", api.ErrMoney}, mistake{place{5, 1}, "", api.ErrCode},
		mistake{place{7, 2}, "0.01", api.ErrMoney}, mistake{place{8, 1}, "", api.ErrCode}, mistake{place{0, 1}, "0.11", api.ErrBalance})
}

// mistaken is rows with a mistake.
func mistaken(rows []string, m mistake) []string {
	if m.p.element < 0 {
		return with(rows, m.p.row, rows[m.p.row]+"*")
	}
	return put(rows, m.p, m.s)
}

// Promise 22.2 and rule R6: of each two mistakes the first one is named.
func TestReadOrder(t *testing.T) {
	l := mistakes()
	told := 0
	for i, a := range l {
		expectRefused(t, text(mistaken(longerRows(), a)...), a.e)
		for _, b := range l[i+1:] {
			if a.p == b.p {
				continue
			}
			told++
			expectRefused(t, text(mistaken(mistaken(longerRows(), a), b)...), a.e)
			expectRefused(t, text(mistaken(mistaken(longerRows(), b), a)...), a.e)
		}
	}
	if told < 1000 {
		t.Errorf("%d pairs", told)
	}
}
