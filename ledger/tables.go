package ledger

import (
	"slices"

	"leechbook/api"
)

// copyTables is tables in new memory; as they may be, none of their conditions goes on forever.
func copyTables(t api.Tables) api.Tables {
	t.Plan.Rules = copies(t.Plan.Rules, copyRule)
	t.Fees = slices.Clone(t.Fees)
	t.Edits = slices.Clone(t.Edits)
	return t
}

func copyRule(r api.Rule) api.Rule {
	r.If = copyCond(r.If)
	r.Unless = copies(r.Unless, copyCond)
	r.Sets = slices.Clone(r.Sets)
	return r
}

func copyCond(c api.Cond) api.Cond {
	c.Kids = copies(c.Kids, copyCond)
	return c
}

// copies is a list of copies, in new memory.
func copies[T any](l []T, one func(T) T) []T {
	made := make([]T, len(l))
	for i, x := range l {
		made[i] = one(x)
	}
	return made
}
