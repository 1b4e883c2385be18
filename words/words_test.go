package words

import (
	"fmt"
	"math/rand"
	"reflect"
	"regexp"
	"slices"
	"strings"
	"testing"

	"leechbook/api"
)

// innerBytes are all bytes that may stand beside others in one word, written out.
const innerBytes = "abcdefghijklmnopqrstuvwxyzABCDEFGHIJKLMNOPQRSTUVWXYZ0123456789."

var (
	noWord  = regexp.MustCompile(`[^ \n()a-zA-Z0-9.]`)
	oneWord = regexp.MustCompile(`[()]|[a-zA-Z0-9.]+`)
)

// expected is what the chapter's words ask of a text of bytes below 128.
func expected(s string) ([]api.Word, api.Fault) {
	if len(s) > 65536 {
		return nil, api.Fault{Err: api.ErrLimit}
	}
	if at := noWord.FindStringIndex(s); at != nil {
		return nil, api.Fault{Err: api.ErrSyntax, At: at[0]}
	}
	var l []api.Word
	for _, at := range oneWord.FindAllStringIndex(s, -1) {
		l = append(l, api.Word{Text: s[at[0]:at[1]], At: at[0]})
	}
	return l, api.Fault{}
}

func texts(l []api.Word) []string {
	var all []string
	for _, w := range l {
		all = append(all, w.Text)
	}
	return all
}

func hold(t *testing.T, s string, want []api.Word, fault api.Fault) {
	t.Helper()
	have, f := Split(s)
	if f != fault || !slices.Equal(have, want) {
		t.Errorf("Split(%.80q): %.200v, %v, want %.200v, %v", s, have, f, want, fault)
	}
	if f.Err != api.OK && len(have) != 0 {
		t.Errorf("Split(%.80q): words beside a fault", s)
	}
}

// Promise 9.1: ordinary texts, and gaps of both kinds in all places.
func TestSplit(t *testing.T) {
	for _, c := range []struct {
		s    string
		want []api.Word
	}{
		{"", nil},
		{" ", nil},
		{"\n", nil},
		{" \n \n", nil},
		{"a", []api.Word{{Text: "a"}}},
		{"rule 5 (all)", []api.Word{{Text: "rule"}, {Text: "5", At: 5}, {Text: "(", At: 7}, {Text: "all", At: 8}, {Text: ")", At: 11}}},
		{"plan embedded\nmember 500 2000.05", []api.Word{{Text: "plan"}, {Text: "embedded", At: 5}, {Text: "member", At: 14}, {Text: "500", At: 21}, {Text: "2000.05", At: 25}}},
		{"  a \n\n b\n", []api.Word{{Text: "a", At: 2}, {Text: "b", At: 7}}},
		{"a\nb c", []api.Word{{Text: "a"}, {Text: "b", At: 2}, {Text: "c", At: 4}}},
		{"(())", []api.Word{{Text: "("}, {Text: "(", At: 1}, {Text: ")", At: 2}, {Text: ")", At: 3}}},
		{"a(b)c", []api.Word{{Text: "a"}, {Text: "(", At: 1}, {Text: "b", At: 2}, {Text: ")", At: 3}, {Text: "c", At: 4}}},
		{")(", []api.Word{{Text: ")"}, {Text: "(", At: 1}}},
		{"... .5. 5.5.5", []api.Word{{Text: "..."}, {Text: ".5.", At: 4}, {Text: "5.5.5", At: 8}}},
		{"aZ09.zA90", []api.Word{{Text: "aZ09.zA90"}}},
	} {
		hold(t, c.s, c.want, api.Fault{})
	}
}

// Promise 9.1: each byte alone, ahead of a word, behind one and within one.
func TestSplitByte(t *testing.T) {
	for b := range 256 {
		sign := string([]byte{byte(b)})
		alone, ahead, behind, within := sign, sign+"a", "a"+sign, "a"+sign+"b"
		switch {
		case strings.Contains(innerBytes, sign):
			hold(t, alone, []api.Word{{Text: sign}}, api.Fault{})
			hold(t, ahead, []api.Word{{Text: ahead}}, api.Fault{})
			hold(t, behind, []api.Word{{Text: behind}}, api.Fault{})
			hold(t, within, []api.Word{{Text: within}}, api.Fault{})
		case sign == "(" || sign == ")":
			hold(t, alone, []api.Word{{Text: sign}}, api.Fault{})
			hold(t, ahead, []api.Word{{Text: sign}, {Text: "a", At: 1}}, api.Fault{})
			hold(t, behind, []api.Word{{Text: "a"}, {Text: sign, At: 1}}, api.Fault{})
			hold(t, within, []api.Word{{Text: "a"}, {Text: sign, At: 1}, {Text: "b", At: 2}}, api.Fault{})
		case sign == " " || sign == "\n":
			hold(t, alone, nil, api.Fault{})
			hold(t, ahead, []api.Word{{Text: "a", At: 1}}, api.Fault{})
			hold(t, behind, []api.Word{{Text: "a"}}, api.Fault{})
			hold(t, within, []api.Word{{Text: "a"}, {Text: "b", At: 2}}, api.Fault{})
		default:
			hold(t, alone, nil, api.Fault{Err: api.ErrSyntax})
			hold(t, ahead, nil, api.Fault{Err: api.ErrSyntax})
			hold(t, behind, nil, api.Fault{Err: api.ErrSyntax, At: 1})
			hold(t, within, nil, api.Fault{Err: api.ErrSyntax, At: 1})
		}
	}
}

// Promise 9.1: the first of several wrong bytes is told, and none of the words ahead of it.
func TestSplitFault(t *testing.T) {
	for s, at := range map[string]int{
		"a,b": 1, ",": 0, "a b ( c ) -1": 10, "ok\tno\r": 2, "a\r\nb": 1, "\x00": 0, "a,b;c": 1, "é": 0, "ok é,": 3,
		"rule 5 (all)_": 12, "\xff": 0, "a\u00a0b": 1, "12,50": 2, "-1": 0, "((a)) [": 6, "\n\n \v": 3,
	} {
		hold(t, s, nil, api.Fault{Err: api.ErrSyntax, At: at})
	}
}

// Promise 9.1: the limit of bytes, ahead of any other fault.
func TestSplitLimit(t *testing.T) {
	if api.MaxText != 65536 {
		t.Fatal(api.MaxText)
	}
	for _, sign := range []string{"a", " ", "(", "\n", ".", ","} {
		full := strings.Repeat(sign, 65536)
		want, fault := expected(full)
		hold(t, full, want, fault)
		for _, more := range []string{"a", " ", ",", full, strings.Repeat(full, 20)} {
			hold(t, full+more, nil, api.Fault{Err: api.ErrLimit})
		}
	}
	last := strings.Repeat("a", 65535)
	hold(t, last+",", nil, api.Fault{Err: api.ErrSyntax, At: 65535})
	hold(t, last+")", []api.Word{{Text: last}, {Text: ")", At: 65535}}, api.Fault{})
	hold(t, ","+last+",", nil, api.Fault{Err: api.ErrLimit})
}

// Promise 9.1: texts by chance, against the chapter's words as expressions.
func TestSplitChance(t *testing.T) {
	chance := rand.New(rand.NewSource(9))
	const few = "aZ09.() \n"
	for range 30000 {
		b := make([]byte, chance.Intn(24))
		for i := range b {
			b[i] = few[chance.Intn(len(few))]
			if chance.Intn(60) == 0 {
				b[i] = byte(chance.Intn(128))
			}
		}
		want, fault := expected(string(b))
		hold(t, string(b), want, fault)
	}
}

// Promise 9.2: texts with one blank between, whatever they are.
func TestJoin(t *testing.T) {
	for _, c := range []struct {
		l    []string
		want string
	}{
		{nil, ""},
		{[]string{}, ""},
		{[]string{"a"}, "a"},
		{[]string{"a", "b"}, "a b"},
		{[]string{"rule", "5", "(", "all", ")"}, "rule 5 ( all )"},
		{[]string{""}, ""},
		{[]string{"", ""}, " "},
		{[]string{"", "a", "", "b", ""}, " a  b "},
		{[]string{" ", "a b", "\n,"}, "  a b \n,"},
		{[]string{"\xff\x00", "é"}, "\xff\x00 é"},
	} {
		if have := Join(c.l); have != c.want {
			t.Errorf("Join(%q): %q, want %q", c.l, have, c.want)
		}
	}
	many := make([]string, 70000)
	for i := range many {
		many[i] = fmt.Sprint(i)
	}
	var want strings.Builder
	for i, s := range many {
		if i > 0 {
			want.WriteByte(32)
		}
		want.WriteString(s)
	}
	if Join(many) != want.String() {
		t.Error("Join of many")
	}
}

// Promise 9.3: words of a text, joined, are split into the same words, each behind one blank.
func TestJoinSplit(t *testing.T) {
	chance := rand.New(rand.NewSource(93))
	const few = "ab.5AZ()() \n"
	for range 20000 {
		b := make([]byte, chance.Intn(30))
		for i := range b {
			b[i] = few[chance.Intn(len(few))]
		}
		l, f := Split(string(b))
		if f != (api.Fault{}) {
			t.Fatalf("Split(%q): %v", b, f)
		}
		joined := Join(texts(l))
		again, f := Split(joined)
		if f != (api.Fault{}) || !slices.Equal(texts(again), texts(l)) {
			t.Fatalf("Split(%q): %v, %v, want %v", joined, again, f, l)
		}
		at := 0
		for _, w := range again {
			if w.At != at {
				t.Fatalf("Split(%q): %v at %d", joined, w, at)
			}
			at += len(w.Text) + 1
		}
	}
}

// Rule R3: what is handed in stays, and memory behind its length, too; each answer is its own.
func TestMemory(t *testing.T) {
	whole := []string{"a", "b", "c"}
	if have := Join(whole[:2]); have != "a b" || !reflect.DeepEqual(whole, []string{"a", "b", "c"}) {
		t.Errorf("Join: %q, %q", have, whole)
	}
	one, _ := Split("a b (c)")
	two, _ := Split("a b (c)")
	for i := range one {
		one[i] = api.Word{Text: "x", At: -1}
	}
	_ = append(one, api.Word{Text: "y"})
	hold(t, "a b (c)", two, api.Fault{})
	if two[0] != (api.Word{Text: "a"}) || len(two) != 5 {
		t.Errorf("Split: %v", two)
	}
}
