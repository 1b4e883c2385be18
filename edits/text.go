package edits

import (
	"leechbook/api"
	"leechbook/digits"
	"leechbook/words"
)

// unitDigits is how many digits a number of units has at most.
const unitDigits = 4

// The words of a row that are no codes and no numbers.
const (
	bundleWord = "bundle"
	eitherWord = "either"
	unitsWord  = "units"
	yesWord    = "yes"
	noWord     = "no"
)

// Print is a table as a text.
func Print(l []api.Edit) (string, api.Errno) {
	if e := Check(l); e != api.OK {
		return "", e
	}
	var list []string
	for _, r := range l {
		list = append(list, printRow(r)...)
	}
	return words.Join(list), api.OK
}

// printRow is the words of a row that may be.
func printRow(r api.Edit) []string {
	switch r.Kind {
	case api.EBundle:
		return []string{bundleWord, r.A, r.B, printAnswer(r.Bypass)}
	case api.EEither:
		return []string{eitherWord, r.A, r.B}
	}
	return []string{unitsWord, r.A, digits.Int(int64(r.N))}
}

func printAnswer(b bool) string {
	if b {
		return yesWord
	}
	return noWord
}

// reader takes word by word, from the left, and keeps the first fault that it meets: what is read behind that one is worth nothing.
type reader struct {
	left  []api.Word
	end   int // where the text ends
	fault api.Fault
}

// Parse is the table that a text is.
func Parse(s string) ([]api.Edit, api.Fault) {
	list, f := words.Split(s)
	if f.Err != api.OK {
		return nil, f
	}
	r := reader{left: list, end: len(s)}
	l := r.rows()
	if r.fault.Err != api.OK {
		return nil, r.fault
	}
	return l, api.Fault{}
}

// rows are all that stand there, up to the text's end or the first fault.
func (r *reader) rows() []api.Edit {
	var l []api.Edit
rows:
	for len(r.left) > 0 && r.fault.Err == api.OK {
		first := r.take()
		if len(l) == api.MaxEdits {
			r.fail(api.ErrLimit, first.At)
			break rows
		}
		switch first.Text {
		case bundleWord:
			l = append(l, r.bundle())
			continue rows
		case eitherWord:
			l = append(l, r.pair(api.EEither))
			continue rows
		case unitsWord:
			l = append(l, r.units())
			continue rows
		}
		r.fail(api.ErrSyntax, first.At)
	}
	return l
}

func (r *reader) bundle() api.Edit {
	made := r.pair(api.EBundle)
	made.Bypass = r.answer()
	return made
}

// pair is a row of this kind with the two codes that stand there.
func (r *reader) pair(kind int) api.Edit {
	a := r.code("")
	b := r.code(a)
	return api.Edit{Kind: kind, A: a, B: b}
}

func (r *reader) units() api.Edit {
	a := r.code("")
	n := r.number()
	return api.Edit{Kind: api.EUnits, A: a, N: n}
}

// fail keeps a fault, if none was met ahead of it.
func (r *reader) fail(e api.Errno, at int) {
	if r.fault.Err == api.OK {
		r.fault = api.Fault{Err: e, At: at}
	}
}

// take is the next word; that there is none any more is a fault where the text ends.
func (r *reader) take() api.Word {
	if len(r.left) == 0 {
		r.fail(api.ErrSyntax, r.end)
		return api.Word{At: r.end}
	}
	w := r.left[0]
	r.left = r.left[1:]
	return w
}

// code is the next word, which must be a code of five, and another one than this.
func (r *reader) code(other string) string {
	w := r.take()
	if !proc(w.Text) || w.Text == other {
		r.fail(api.ErrCode, w.At)
	}
	return w.Text
}

func (r *reader) number() int {
	w := r.take()
	n, e := digits.ReadInt(w.Text, unitDigits)
	if e != api.OK || n == 0 {
		r.fail(api.ErrSyntax, w.At)
	}
	return int(n)
}

func (r *reader) answer() bool {
	w := r.take()
	if w.Text != yesWord && w.Text != noWord {
		r.fail(api.ErrSyntax, w.At)
	}
	return w.Text == yesWord
}
