package ledger

import (
	"leechbook/api"
	"leechbook/judge"
)

// hearing is the entries of a book that are gone through in order, between two of them.
type hearing struct {
	tables []api.Tables
	left   [][]api.Acc           // of each entry that was judged: the rows behind it
	billed map[string][]api.Line // of each member: the services so far that were not denied
}

// recall takes an entry as what it was judged to be.
func (h *hearing) recall(x *api.Entry) api.Errno {
	member := x.Claim.Member
	for i, o := range x.Outs {
		// What was denied may be billed again.
		if o.Deny == api.DNone {
			h.billed[member] = append(h.billed[member], x.Claim.Lines[i])
		}
	}
	return api.OK
}

// judge judges an entry, if it stands, behind those ahead of it.
func (h *hearing) judge(x *api.Entry) api.Errno {
	rows := last(h.left)
	if x.State == api.Live {
		outs, after, e := judge.Judge(h.tables[x.Tables], x.Claim, rows, h.billed[x.Claim.Member])
		if e != api.OK {
			return e
		}
		x.Outs, rows = outs, after
	}
	h.left = append(h.left, rows)
	return h.recall(x)
}
