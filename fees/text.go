package fees

import (
	"slices"

	"leechbook/api"
	"leechbook/date"
	"leechbook/digits"
	"leechbook/words"
)

const (
	rowWords  = 6
	dayDigits = 8
)

// The words of a row that are no codes and no numbers.
const (
	feeWord  = "fee"
	noneWord = "none"
	inWord   = "in"
	outWord  = "out"
)

// Print is a table as a text.
func Print(l []api.Fee) (string, api.Errno) {
	if e := Check(l); e != api.OK {
		return "", e
	}
	var list []string
	for _, f := range l {
		list = append(list, feeWord, f.Proc, printMod(f.Mod), printNet(f.Net), digits.Int(int64(f.From)), digits.Money(f.Cents))
	}
	return words.Join(list), api.OK
}

func printMod(mod string) string {
	if mod == noMod {
		return noneWord
	}
	return mod
}

func printNet(net int) string {
	if net == inside {
		return inWord
	}
	return outWord
}

// Parse is the table that a text is, its rows in order.
func Parse(s string) ([]api.Fee, api.Fault) {
	left, f := words.Split(s)
	if f.Err != api.OK {
		return nil, f
	}
	l, f := readRows(left, len(s))
	if f.Err != api.OK {
		return nil, f
	}
	slices.SortStableFunc(l, func(a, b api.Fee) int { return order(placeOf(a), placeOf(b)) })
	if e := Check(l); e != api.OK {
		return nil, api.Fault{Err: e}
	}
	return l, api.Fault{}
}

// readRows are the rows that the words of a text are, which ends there.
func readRows(left []api.Word, end int) ([]api.Fee, api.Fault) {
	var l []api.Fee
	for len(left) > 0 {
		switch {
		case len(l) == api.MaxFees:
			return nil, api.Fault{Err: api.ErrLimit, At: left[0].At}
		case len(left) < rowWords:
			return nil, api.Fault{Err: api.ErrSyntax, At: end}
		}
		made, f := readRow(left[:rowWords])
		if f.Err != api.OK {
			return nil, f
		}
		l = append(l, made)
		left = left[rowWords:]
	}
	return l, api.Fault{}
}

// readRow is the row that six words are.
func readRow(w []api.Word) (api.Fee, api.Fault) {
	mod, isMod := readMod(w[2].Text)
	net, isNet := readNet(w[3].Text)
	day, isDay := readDay(w[4].Text)
	amount, e := digits.ReadMoney(w[5].Text)
	switch {
	case w[0].Text != feeWord:
		return fault(api.ErrSyntax, w[0])
	case !proc(w[1].Text):
		return fault(api.ErrCode, w[1])
	case !isMod:
		return fault(api.ErrCode, w[2])
	case !isNet:
		return fault(api.ErrSyntax, w[3])
	case !isDay:
		return fault(api.ErrDate, w[4])
	case e != api.OK:
		return fault(e, w[5])
	}
	return api.Fee{Proc: w[1].Text, Mod: mod, Net: net, From: day, Cents: amount}, api.Fault{}
}

func fault(e api.Errno, w api.Word) (api.Fee, api.Fault) {
	return api.Fee{}, api.Fault{Err: e, At: w.At}
}

func readMod(s string) (string, bool) {
	if s == noneWord {
		return noMod, true
	}
	return s, mod(s)
}

func readNet(s string) (int, bool) {
	switch s {
	case inWord:
		return inside, true
	case outWord:
		return outside, true
	}
	return 0, false
}

func readDay(s string) (int, bool) {
	n, e := digits.ReadInt(s, dayDigits)
	if e != api.OK || !date.Good(int(n)) {
		return 0, false
	}
	return int(n), true
}
