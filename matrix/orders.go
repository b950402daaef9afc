package matrix

import (
	"tripwire/api"
	"tripwire/sparse"
)

// Perm tells whether p has each number from 0 to its length - 1 once.
func Perm(p []int) bool {
	_, order := whereSeen(p)
	return order
}

// Inverse tells the order that has at p[i] i.
func Inverse(p []int) ([]int, api.Errno) {
	seen, order := whereSeen(p)
	if !order {
		return nil, api.ErrArg
	}
	out := make([]int, len(p))
	for at := range out {
		out[at] = seen[at]
	}
	return out, api.OK
}

// Move tells x with what is at i at p[i].
func Move(p []int, x api.Vec) (api.Vec, api.Errno) {
	if !Perm(p) {
		return nil, api.ErrArg
	}
	moved := sparse.Norm(x) // first: terms that come to 0 may stand at any place
	for i, term := range moved {
		if !within(term.At, len(p)) {
			return nil, api.ErrArg
		}
		moved[i].At = p[term.At]
	}
	return sparse.Norm(moved), api.OK
}

// whereSeen tells for each number of p where it was seen there; false, unless p is an order.
func whereSeen(p []int) (map[int]int, bool) {
	seen := make(map[int]int, len(p))
	for i, at := range p {
		if _, twice := seen[at]; twice || !within(at, len(p)) {
			return nil, false
		}
		seen[at] = i
	}
	return seen, true
}
