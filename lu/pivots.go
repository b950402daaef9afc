package lu

import (
	"cmp"
	"slices"

	"tripwire/api"
	"tripwire/ratio"
	"tripwire/sparse"
)

// place is one of a matrix.
type place struct {
	row, col int
}

// step is what one pivot did.
type step struct {
	at    place
	pivot api.Rat
	right api.Vec // what else stood in its row, by columns, each that of a later pivot
	below api.Vec // how often its row was added to others, by rows, each that of a later pivot
}

// sheet is what stands at the open places of a matrix: rows, each by columns. A row that is open no more has nothing.
type sheet []api.Vec

// rowsOf tells the sheet on which all is open, in memory of its own.
func rowsOf(cols []api.Vec) sheet {
	rows := make(sheet, len(cols))
	for k, col := range cols { // by rising k: so each row gets its terms in order
		for _, term := range sparse.Norm(col) {
			rows[term.At] = append(rows[term.At], api.Term{At: k, X: term.X})
		}
	}
	return rows
}

// next tells where the next pivot is, and whether there is one.
func (s sheet) next() (place, bool) {
	inCol := s.inEachCol()
	fills := func(p place) int { return (len(s[p.row]) - 1) * (inCol[p.col] - 1) }
	better := func(p, q place) bool {
		return cmp.Or(cmp.Compare(fills(p), fills(q)), cmp.Compare(p.col, q.col), cmp.Compare(p.row, q.row)) < 0
	}
	best, some := place{}, false
	for row, terms := range s {
		for _, term := range terms {
			if p := (place{row: row, col: term.At}); !some || better(p, best) {
				best, some = p, true
			}
		}
	}
	return best, some
}

// inEachCol tells of each column at how many open places something stands.
func (s sheet) inEachCol() []int {
	out := make([]int, len(s))
	for _, terms := range s {
		for _, term := range terms {
			out[term.At]++
		}
	}
	return out
}

// take takes the pivot's row off the others, then its row and its column off the sheet.
func (s sheet) take(at place) step {
	pivot, right, _ := apart(s[at.row], at.col)
	s[at.row] = nil
	out := step{at: at, pivot: pivot, right: right}
	for row, terms := range s {
		v, rest, some := apart(terms, at.col)
		if !some {
			continue
		}
		times := ratio.Quo(ratio.Neg(v), pivot)
		if len(right) > 0 { // else each number would be brought to lowest terms again, for nothing
			rest = sparse.Axpy(rest, times, right)
		}
		s[row] = rest
		out.below = append(out.below, api.Term{At: row, X: times})
	}
	return out
}

// apart tells what row has in that column, the row without it, and whether it has anything there. It writes into row.
func apart(row api.Vec, col int) (api.Rat, api.Vec, bool) {
	i, some := slices.BinarySearchFunc(row, col, func(term api.Term, at int) int { return cmp.Compare(term.At, at) })
	if !some {
		return api.Rat{}, nil, false
	}
	v := row[i].X // ahead of Delete, which moves the terms behind it here
	return v, slices.Delete(row, i, i+1), true
}
