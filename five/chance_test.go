package five

import (
	"fmt"
	"math/rand"
	"regexp"
	"slices"
	"strconv"
	"strings"
	"testing"

	"leechbook/api"
	"leechbook/cover"
	"leechbook/remit"
	"leechbook/svc"
)

const signs = "!\"#$%&'()*+,/:;<=>?@[\\]^_`{|}~"

func pick[T any](r *rand.Rand, l ...T) T { return l[r.Intn(len(l))] }

func randomSigns(r *rand.Rand) api.Delims {
	p := r.Perm(len(signs))
	return api.Delims{Element: signs[p[0]], Part: signs[p[1]], Segment: signs[p[2]]}
}

func randomCode(r *rand.Rand, from, to int) string {
	s := ""
	for n := from + r.Intn(to-from+1); len(s) < n; {
		s += string("ABCSVP0189"[r.Intn(10)])
	}
	return s
}

// randomAmount is a small one, mostly.
func randomAmount(r *rand.Rand) int64 {
	return pick(r, 0, 1, r.Int63n(100), r.Int63n(100), r.Int63n(100000), r.Int63n(most/10000))
}

func randomClaim(r *rand.Rand) api.Clp {
	var l []api.Svc
	for range 1 + r.Intn(3) {
		s := api.Svc{Proc: randomCode(r, 5, 5), Paid: randomAmount(r)}
		s.Billed = s.Paid
		for range r.Intn(6) {
			a := cas(pick(r, "CO", "PR", "OA"), 1+r.Intn(pick(r, 9, 99, 999)), 1+randomAmount(r))
			s.Cas = append(s.Cas, a)
			s.Billed += a.Cents
		}
		l = append(l, s)
	}
	x := told(randomCode(r, 1, 12), 1, l...)
	if r.Intn(3) == 0 {
		return svc.Back(x)
	}
	return x
}

// randomRemit is one that may be, of at most so many claims.
func randomRemit(r *rand.Rand, claims int) api.Remit {
	var l []api.Clp
	for range r.Intn(claims + 1) {
		l = append(l, randomClaim(r))
	}
	sum := remit.Sum(api.Remit{Claims: l})
	x := remittance(min(sum, pick(r, 0, 0, randomAmount(r), -randomAmount(r))), l...)
	x.Number = r.Intn(1 + r.Intn(1000000000))
	return x
}

// rowsByWords is a remittance written by the chapter's words: rows of texts with * between, of signs that no amount and no code has.
func rowsByWords(x api.Remit) []string {
	rows := []string{fmt.Sprintf("BPR*%s*%s*%d", dotted(x.Paid), dotted(x.Held), len(x.Claims))}
	for _, c := range x.Claims {
		rows = append(rows, fmt.Sprintf("CLP*%s*%d*%s*%s*%s", c.Id, c.Status, dotted(c.Billed), dotted(c.Paid), dotted(c.Member)))
		for _, s := range c.Svcs {
			rows = append(rows, fmt.Sprintf("SVC*%s*%s*%s", s.Proc, dotted(s.Billed), dotted(s.Paid)))
			for _, a := range s.Cas {
				rows = append(rows, fmt.Sprintf("CAS*%s*%d*%s", a.Group, a.Why, dotted(a.Cents)))
			}
		}
	}
	return rows
}

// dotted is an amount with its dot put into its digits.
func dotted(a int64) string {
	s := fmt.Sprintf("%04d", a)
	if a >= 0 {
		s = fmt.Sprintf("%03d", a)
	}
	return s[:len(s)-2] + "." + s[len(s)-2:]
}

// Promises 22.1 and 22.3: what is written, with whatever signs, is what the words say, and is read as what it was.
func TestWriteByWords(t *testing.T) {
	r := rand.New(rand.NewSource(22))
	seen := map[api.Errno]int{}
	for range 5000 {
		d, x := randomSigns(r), randomRemit(r, 6)
		if r.Intn(4) == 0 {
			spoil(r, &d, &x)
		}
		want, wantErr := "", remit.Check(x)
		if wantErr == api.OK && (max(x.Paid, x.Held, -x.Held) > most) {
			wantErr = api.ErrMoney
		}
		if wantErr == api.OK {
			rows := rowsByWords(x)
			list := make([]api.Seg, len(rows))
			for i, row := range rows {
				for _, element := range strings.Split(row, "*") {
					list[i].Elements = append(list[i].Elements, []string{element})
				}
			}
			want, wantErr = cover.Wrap(d, "835", x.Number, list)
		}
		seen[wantErr]++
		expectWritten(t, d, x, want, wantErr)
		if wantErr == api.OK {
			expectRead(t, want, d, x)
		}
	}
	for _, e := range []api.Errno{api.OK, api.ErrArg, api.ErrCount, api.ErrMoney, api.ErrCode, api.ErrBalance} {
		if seen[e] < 20 {
			t.Errorf("%v: %d remittances", e, seen[e])
		}
	}
}

// spoil makes of signs and a remittance something that may not be, mostly.
func spoil(r *rand.Rand, d *api.Delims, x *api.Remit) {
	switch r.Intn(8) {
	case 0:
		d.Part = d.Segment
	case 1:
		x.Number = pick(r, -1, 1000000000)
	case 2:
		x.Held += 5 * most
		x.Claims = append(x.Claims, slices.Repeat([]api.Clp{plainPaid("A", most)}, 5)...)
	case 3:
		x.Held -= most
		x.Paid += most
	case 4:
		x.Paid++
	default:
		if len(x.Claims) == 0 {
			return
		}
		c := &x.Claims[r.Intn(len(x.Claims))]
		switch r.Intn(4) {
		case 0:
			c.Status = 23 - c.Status
		case 1:
			c.Id += "?"
		case 2:
			c.Svcs = nil
		case 3:
			c.Svcs[0].Billed = most + 1
		}
	}
}

// refusal is how the other way leaves a text.
type refusal api.Errno

// oracle reads a remittance by the chapter's words, as rows of texts with * and : between.
type oracle struct {
	rows []string
	at   int
}

func (o *oracle) row() string {
	if o.at < len(o.rows) {
		return o.rows[o.at]
	}
	return ""
}

var compiled = map[string]*regexp.Regexp{}

func pattern(s string) *regexp.Regexp {
	if compiled[s] == nil {
		compiled[s] = regexp.MustCompile("^(?:" + s + ")$")
	}
	return compiled[s]
}

// need is what stands behind the next row's name, which must be so many elements of one part.
func (o *oracle) need(name string, count int) []string {
	found := pattern(name + strings.Repeat(`\*([^*:]*)`, count)).FindStringSubmatch(o.row())
	if found == nil {
		panic(refusal(api.ErrSyntax))
	}
	o.at++
	return found[1:]
}

func amount(s string) int64 {
	if !pattern(`-?(0|[1-9][0-9]{0,11})(\.[0-9][0-9]?)?`).MatchString(s) {
		panic(refusal(api.ErrMoney))
	}
	whole, part, _ := strings.Cut(s, ".")
	n, _ := strconv.ParseInt(whole+(part + "00")[:2], 10, 64)
	if n > most || n < -most || n == 0 && s[0] == '-' {
		panic(refusal(api.ErrMoney))
	}
	return n
}

func number(s string, most int) int {
	if n, err := strconv.ParseUint(s, 10, 60); err == nil && strconv.FormatUint(n, 10) == s && len(s) <= most {
		return int(n)
	}
	panic(refusal(api.ErrSyntax))
}

func (o *oracle) next(name string) bool { return strings.Split(o.row(), "*")[0] == name }

func (o *oracle) claim() api.Clp {
	f := o.need("CLP", 5)
	x := api.Clp{Id: f[0], Status: number(f[1], 2), Billed: amount(f[2]), Paid: amount(f[3]), Member: amount(f[4])}
	for o.next("SVC") {
		f := o.need("SVC", 3)
		s := api.Svc{Proc: f[0], Billed: amount(f[1]), Paid: amount(f[2])}
		for o.next("CAS") {
			f := o.need("CAS", 3)
			s.Cas = append(s.Cas, api.Cas{Group: f[0], Why: number(f[1], 3), Cents: amount(f[2])})
		}
		x.Svcs = append(x.Svcs, s)
	}
	return x
}

// readByWords is what is read of an envelope's rows.
func readByWords(n int, rows []string) (x api.Remit, e api.Errno) {
	defer func() {
		if r, ok := recover().(refusal); ok {
			x, e = api.Remit{}, api.Errno(r)
		}
	}()
	o := &oracle{rows: rows}
	f := o.need("BPR", 3)
	x = api.Remit{Number: n, Paid: amount(f[0]), Held: amount(f[1])}
	count := number(f[2], 4)
	for o.at < len(o.rows) {
		x.Claims = append(x.Claims, o.claim())
	}
	if len(x.Claims) != count {
		return api.Remit{}, api.ErrCount
	}
	if e := remit.Check(x); e != api.OK {
		return api.Remit{}, e
	}
	return x, api.OK
}

// change does something small to rows.
func change(r *rand.Rand, rows []string) []string {
	at := r.Intn(len(rows))
	switch r.Intn(7) {
	case 0:
		return slices.Delete(rows, at, at+1)
	case 1:
		return slices.Insert(rows, at, rows[r.Intn(len(rows))])
	case 2:
		other := r.Intn(len(rows))
		rows[at], rows[other] = rows[other], rows[at]
	case 3:
		return slices.Insert(rows, at, pick(r, "CAS*CO*45*0.01", "CAS*CO*45*0", "CAS*CO*45", "SVC*99213*0*0", "SVC*99213*0.01*0.01", "CLP*A*1*0*0*0", "BPR*0*0*0", "XX"))
	case 4:
		elements := strings.Split(rows[at], "*")
		elements[r.Intn(len(elements))] = pick(r, "0", "1", "-1", "0.10", "0.1", "1.00", "-0", "22", "1:2", "", "999", "1000", "CO", "C1", "99213")
		rows[at] = strings.Join(elements, "*")
	default:
		s := []byte(rows[at])
		const bytes = "0123456789*:.-ACLPSV"
		switch i := r.Intn(len(s)); r.Intn(3) {
		case 0:
			s[i] = bytes[r.Intn(len(bytes))]
		case 1:
			s = slices.Insert(s, i, bytes[r.Intn(len(bytes))])
		case 2:
			s = slices.Delete(s, i, i+1)
		}
		rows[at] = string(s)
	}
	return rows
}

// smallRemit is one of few claims, under the number of text.
func smallRemit(r *rand.Rand) api.Remit {
	x := randomRemit(r, 3)
	x.Number = 7
	return x
}

// Promises 22.2 and 22.3: texts that are changed a little, held against another way; what is read balances, and is written as one that is read as the same.
func TestReadByWords(t *testing.T) {
	r := rand.New(rand.NewSource(222))
	seen := map[api.Errno]int{}
	for range 40000 {
		rows := rowsByWords(smallRemit(r))
		for range r.Intn(3) {
			if len(rows) > 0 {
				rows = change(r, rows)
			}
		}
		s := text(rows...)
		if _, _, _, e := cover.Open("835", s); e != api.OK {
			expectRefused(t, s, e)
			continue
		}
		want, e := readByWords(7, rows)
		seen[e]++
		if e != api.OK {
			expectRefused(t, s, e)
			continue
		}
		expectRead(t, s, usual, want)
		if e := remit.Check(want); e != api.OK || want.Paid != remit.Sum(want)-want.Held {
			t.Errorf("%s: %v", s, e)
		}
		again, e := Write(usual, want)
		if e != api.OK {
			t.Fatalf("Write(%v): %v", want, e)
		}
		expectRead(t, again, usual, want)
	}
	for _, e := range []api.Errno{api.OK, api.ErrSyntax, api.ErrCount, api.ErrMoney, api.ErrCode, api.ErrBalance} {
		if seen[e] < 200 {
			t.Errorf("%v: %d texts", e, seen[e])
		}
	}
}

// entry is one of a ledger, of one service of which so much is paid.
func entry(id string, state int, billed, paid int64) api.Entry {
	c := api.Claim{Id: id, Member: "M1", Family: "F1", Does: api.Original, Lines: []api.Line{{Proc: "99213", Date: 20240301, Units: 1, Billed: billed}}}
	return api.Entry{Claim: c, State: state, Outs: []api.Out{{Plan: paid, Coins: (billed - paid) / 2, Write: billed - paid - (billed-paid)/2}}}
}

// Promise 22.3 and P4: remittances, one behind the other, are each written and read as what they are.
func TestRemittances(t *testing.T) {
	r := rand.New(rand.NewSource(2222))
	back, heldBack := 0, 0
	for range 300 {
		var l []api.Entry
		var last []api.Clp
		held := int64(0)
		for n := range 6 {
			for i := range l {
				if r.Intn(3) == 0 {
					billed := r.Int63n(10000)
					l[i] = entry(l[i].Claim.Id, pick(r, api.Live, api.Live, api.Voided, api.Replaced), billed, r.Int63n(billed+1))
				}
			}
			for range r.Intn(3) {
				l = append(l, entry("C"+strconv.Itoa(len(l)), api.Live, 1000, r.Int63n(1001)))
			}
			x, now, left, e := remit.Make(n, last, l, held)
			if e != api.OK {
				t.Fatal(e)
			}
			last, held = now, left
			s, e := Write(usual, x)
			if e != api.OK {
				t.Fatalf("Write(%+v): %v", x, e)
			}
			expectRead(t, s, usual, x)
			if strings.Contains(s, "*22*-") {
				back++
			}
			if x.Held != 0 {
				heldBack++
			}
		}
	}
	if back < 100 || heldBack < 100 {
		t.Errorf("%d with claims that are taken back, %d with what is held", back, heldBack)
	}
}

// P0: whatever comes is refused or read, and no call panics.
func TestNoPanics(t *testing.T) {
	r := rand.New(rand.NewSource(22222))
	base := []byte(written[2].s)
	for range 20000 {
		s := slices.Clone(base[:r.Intn(len(base)+1)])
		for range r.Intn(4) {
			if len(s) > 0 {
				s[r.Intn(len(s))] = byte(r.Intn(256))
			}
		}
		if d, x, e := Read(string(s)); e != api.OK && (d != (api.Delims{}) || !nothing(x)) {
			t.Fatalf("Read(%q): %q, %v, %v", s, d, x, e)
		}
	}
	for range 5000 {
		d := api.Delims{Element: byte(r.Intn(256)), Part: byte(r.Intn(256)), Segment: byte(r.Intn(256))}
		x := randomRemit(r, 2)
		if r.Intn(2) == 0 {
			x.Number, x.Paid, x.Held = int(r.Uint64()), int64(r.Uint64()), int64(r.Uint64())
		}
		if len(x.Claims) > 0 && r.Intn(2) == 0 {
			c := &x.Claims[0]
			c.Status, c.Billed, c.Svcs[0].Billed = int(r.Uint64()), int64(r.Uint64()), int64(r.Uint64())
			c.Svcs = append(c.Svcs, make([]api.Svc, r.Intn(3))...)
		}
		if s, e := Write(d, x); e != api.OK && s != "" {
			t.Fatalf("Write(%q, %v): %q, %v", d, x, s, e)
		}
	}
}
