package ballot_test

import (
	"math"
	"math/big"
	"math/rand"
	"slices"
	"testing"

	"winnow/api"
	"winnow/ballot"
)

// end is the greatest number there is.
const end uint64 = math.MaxUint64

// of is the ballot with that N, of that node.
func of(n, node uint64) api.Ballot { return api.Ballot{N: n, Node: node} }

// edges has numbers at which something may turn, rising.
func edges() []uint64 {
	return []uint64{0, 1, 2, 3, 1<<31 - 1, 1 << 31, 1<<32 - 1, 1 << 32, 1<<63 - 1, 1 << 63, 1<<63 + 1, end - 2, end - 1, end}
}

// risings has ballots, each above all those ahead of it.
func risings() []api.Ballot {
	var l []api.Ballot
	for _, n := range edges() {
		for _, node := range edges() {
			l = append(l, of(n, node))
		}
	}
	return l
}

// whole is the ballot as one whole number, which rises as ballots do.
func whole(b api.Ballot) *big.Int {
	n := new(big.Int).SetUint64(b.N)
	n.Lsh(n, 64)
	return n.Add(n, new(big.Int).SetUint64(b.Node))
}

// some is a number, as often a small one as a great one, or one at the end.
func some(r *rand.Rand) uint64 {
	switch r.Intn(4) {
	case 0:
		return uint64(r.Intn(5))
	case 1:
		return end - uint64(r.Intn(5))
	}
	return r.Uint64() >> r.Intn(64)
}

// someOf is a ballot of such numbers.
func someOf(r *rand.Rand) api.Ballot { return of(some(r), some(r)) }

// lessIs holds Less to that answer.
func lessIs(t *testing.T, a, b api.Ballot, want bool) {
	t.Helper()
	if got := ballot.Less(a, b); got != want {
		t.Errorf("Less of %x, %x: %v", a, b, got)
	}
}

// maxIs holds Max to that ballot.
func maxIs(t *testing.T, l []api.Ballot, want api.Ballot) {
	t.Helper()
	if got := ballot.Max(l); got != want {
		t.Errorf("Max of %x, %d in all: %x, not %x", l[:min(len(l), 20)], len(l), got, want)
	}
}

// nextIs holds Next to that ballot, and OK.
func nextIs(t *testing.T, seen api.Ballot, version, node uint64, want api.Ballot) {
	t.Helper()
	if b, k := ballot.Next(seen, version, node); b != want || k != api.OK {
		t.Errorf("Next of %x, %x, %x: %x %d, not %x", seen, version, node, b, k, want)
	}
}

// nextFails holds Next to that kind, and to nothing beside it.
func nextFails(t *testing.T, seen api.Ballot, version, node uint64, want api.Kind) {
	t.Helper()
	if b, k := ballot.Next(seen, version, node); b != (api.Ballot{}) || k != want {
		t.Errorf("Next of %x, %x, %x: %x %d, not %d", seen, version, node, b, k, want)
	}
}

func TestP1101Less(t *testing.T) {
	lessIs(t, of(1, 1), of(2, 1), true)
	lessIs(t, of(2, 1), of(1, 1), false)
	lessIs(t, of(1, 1), of(1, 2), true)
	lessIs(t, of(1, 2), of(1, 1), false)
	lessIs(t, of(1, 1), of(1, 1), false)
	lessIs(t, of(0, 0), of(0, 0), false)
	lessIs(t, of(0, 0), of(0, 1), true)
	lessIs(t, of(0, end), of(1, 0), true)
	lessIs(t, of(1, 0), of(0, end), false)
	lessIs(t, of(end, 0), of(0, end), false)
	lessIs(t, of(end, end-1), of(end, end), true)
	lessIs(t, of(end, end), of(end, end), false)
	// As numbers with a sign these would stand the other way round.
	lessIs(t, of(1, 0), of(1<<63, 0), true)
	lessIs(t, of(1, 1), of(1, 1<<63), true)
}

func TestP1101LessAtAllEdges(t *testing.T) {
	l := risings()
	for i, a := range l {
		for j, b := range l {
			lessIs(t, a, b, i < j)
		}
	}
}

func TestP1101LessOfMany(t *testing.T) {
	r := rand.New(rand.NewSource(1101))
	for range 50000 {
		a, b := someOf(r), someOf(r)
		if r.Intn(3) == 0 {
			b.N = a.N
		}
		lessIs(t, a, b, whole(a).Cmp(whole(b)) < 0)
		lessIs(t, b, a, whole(b).Cmp(whole(a)) < 0)
	}
}

func TestP1101Max(t *testing.T) {
	maxIs(t, nil, of(0, 0))
	maxIs(t, []api.Ballot{}, of(0, 0))
	maxIs(t, []api.Ballot{{}}, of(0, 0))
	maxIs(t, []api.Ballot{{}, {}, {}}, of(0, 0))
	maxIs(t, []api.Ballot{of(0, 1)}, of(0, 1))
	maxIs(t, []api.Ballot{of(1, 0)}, of(1, 0))
	maxIs(t, []api.Ballot{of(end, end)}, of(end, end))
	maxIs(t, []api.Ballot{of(1, 9), of(2, 1)}, of(2, 1))
	maxIs(t, []api.Ballot{of(2, 1), of(1, 9)}, of(2, 1))
	maxIs(t, []api.Ballot{of(2, 1), of(2, 3), of(2, 2)}, of(2, 3))
	maxIs(t, []api.Ballot{of(2, 3), of(2, 3)}, of(2, 3))
	maxIs(t, []api.Ballot{of(0, end), of(1, 0), of(0, end)}, of(1, 0))
	maxIs(t, []api.Ballot{of(1, 7), of(1<<63, 2), of(3, end)}, of(1<<63, 2))
	// Never a piece of one, and a piece of another.
	maxIs(t, []api.Ballot{of(5, 1), of(4, 9), of(3, end)}, of(5, 1))
}

func TestP1101MaxInAnyPlace(t *testing.T) {
	for _, n := range []int{1, 2, 3, api.MaxReplicas, 100} {
		for place := range n {
			for _, most := range []api.Ballot{of(8, 1), of(7, 10), of(7, end), of(end, 0)} {
				l := slices.Repeat([]api.Ballot{of(7, 9)}, n)
				l[place] = most
				maxIs(t, l, most)
			}
		}
	}
	long := make([]api.Ballot, 1<<18)
	long[len(long)-1] = of(0, 1)
	maxIs(t, long, of(0, 1))
}

func TestP1101MaxOfMany(t *testing.T) {
	r := rand.New(rand.NewSource(1102))
	for range 5000 {
		var l []api.Ballot
		for range 1 + r.Intn(12) {
			l = append(l, someOf(r))
		}
		want := slices.MaxFunc(l, func(a, b api.Ballot) int { return whole(a).Cmp(whole(b)) })
		for range 3 {
			r.Shuffle(len(l), func(i, j int) { l[i], l[j] = l[j], l[i] })
			maxIs(t, l, want)
		}
	}
}

func TestP1101MaxLeavesItsListAsItWas(t *testing.T) {
	l := []api.Ballot{of(2, 1), of(3, 1), of(1, 1), of(9, 9), of(8, 8)}
	want := slices.Clone(l)
	maxIs(t, l[:3], of(3, 1)) // what is in the spare room is not told either
	maxIs(t, l[:0], of(0, 0))
	if !slices.Equal(l, want) {
		t.Errorf("the list is %x, not %x", l, want)
	}
	l[1] = of(0, 0)
	maxIs(t, l[:3], of(2, 1))
}

func TestP1102Next(t *testing.T) {
	nextIs(t, of(5, 9), 3, 2, of(6, 2)) // the chapter's example
	nextIs(t, of(0, 0), 0, 1, of(1, 1))
	nextIs(t, of(0, 0), 1, 1, of(1, 1))
	nextIs(t, of(0, 0), 2, 1, of(2, 1))
	nextIs(t, of(0, 7), 0, 1, of(1, 1))
	nextIs(t, of(5, 2), 0, 2, of(6, 2))
	nextIs(t, of(5, 2), 5, 9, of(6, 9))
	nextIs(t, of(5, 9), 6, 2, of(6, 2))
	nextIs(t, of(5, 9), 7, 2, of(7, 2))
	nextIs(t, of(5, 9), 100, end, of(100, end))
	nextIs(t, of(5, end), 3, 2, of(6, 2)) // seen's Node may be any
	// As numbers with a sign these would stand the other way round.
	nextIs(t, of(1<<63, 1), 1, 4, of(1<<63+1, 4))
	nextIs(t, of(1, 1), 1<<63, 4, of(1<<63, 4))
}

func TestP1102NextAtTheEnd(t *testing.T) {
	nextIs(t, of(end-1, 1), 0, 2, of(end, 2))
	nextIs(t, of(end-1, 1), end-1, 2, of(end, 2))
	nextIs(t, of(end-2, 1), end-1, 2, of(end-1, 2))
	nextIs(t, of(end-2, end), 0, end, of(end-1, end))
	nextIs(t, of(0, 0), end-1, 1, of(end-1, 1))
	nextFails(t, of(end, 0), 0, 2, api.Stopped)
	nextFails(t, of(end, 1), 0, 2, api.Stopped)
	nextFails(t, of(end, 1), end-1, 2, api.Stopped)
	nextFails(t, of(0, 0), end, 2, api.Stopped)
	nextFails(t, of(end-1, 1), end, 2, api.Stopped) // 1 more than seen's would be there
	nextFails(t, of(end, end), end, end, api.Stopped)
}

func TestP1102NextOfNoNode(t *testing.T) {
	for _, seen := range risings() {
		for _, version := range edges() {
			nextFails(t, seen, version, 0, api.BadArg) // ahead of Stopped
		}
	}
}

func TestP1102NextAtAllEdges(t *testing.T) {
	for _, seen := range risings() {
		for _, version := range edges() {
			for _, node := range edges()[1:] {
				switch {
				case seen.N == end || version == end:
					nextFails(t, seen, version, node, api.Stopped)
				case version > seen.N:
					nextIs(t, seen, version, node, of(version, node))
				default:
					nextIs(t, seen, version, node, of(seen.N+1, node))
				}
			}
		}
	}
}

// follows holds what comes next, if it does, to the laws.
func follows(t *testing.T, seen api.Ballot, version, node uint64) {
	t.Helper()
	b, k := ballot.Next(seen, version, node)
	if k == api.OK && (!ballot.Less(seen, b) || ballot.Less(b, seen) || b.N < version || b.Node != node) {
		t.Errorf("Next of %x, %x, %x: %x", seen, version, node, b)
	}
	if k != api.OK && node != 0 && seen.N < end && version < end {
		t.Errorf("Next of %x, %x, %x: %d", seen, version, node, k)
	}
}

func TestP1103WhatComesNextIsAbove(t *testing.T) {
	for _, seen := range risings() {
		for _, version := range edges() {
			for _, node := range edges() {
				follows(t, seen, version, node)
			}
		}
	}
	r := rand.New(rand.NewSource(1103))
	for range 50000 {
		follows(t, someOf(r), some(r), some(r))
	}
}

// TestP1103AboveAllThatWereSeen has nodes that see some of one another's ballots:
// each one's are above all it has seen, its own among them, and no two are the
// same.
func TestP1103AboveAllThatWereSeen(t *testing.T) {
	r := rand.New(rand.NewSource(1104))
	for range 50 {
		seen := make([][]api.Ballot, 5)
		made := map[api.Ballot]bool{}
		var version uint64
		for range 200 {
			i := r.Intn(len(seen))
			version += uint64(r.Intn(3))
			b, k := ballot.Next(ballot.Max(seen[i]), version, uint64(i+1))
			if k != api.OK || made[b] || b.N < version {
				t.Fatalf("Next of %x, %d: %x %d", seen[i], version, b, k)
			}
			for _, s := range seen[i] {
				lessIs(t, s, b, true)
			}
			made[b] = true
			seen[i] = append(seen[i], b)
			other := r.Intn(len(seen))
			seen[other] = append(seen[other], b)
		}
	}
}

func TestP1103OfTwoNodesNeverTheSame(t *testing.T) {
	type call struct {
		seen    api.Ballot
		version uint64
	}
	var calls []call
	for _, n := range edges() {
		for _, version := range edges() {
			calls = append(calls, call{of(n, 1), version}, call{of(n, 2), version})
		}
	}
	for _, one := range calls {
		for _, other := range calls {
			a, k := ballot.Next(one.seen, one.version, 1)
			b, l := ballot.Next(other.seen, other.version, 2)
			if k == api.OK && l == api.OK && (a == b || ballot.Less(a, b) == ballot.Less(b, a)) {
				t.Fatalf("Next of %x, of node 1, and of %x, of node 2: %x", one, other, a)
			}
		}
	}
}

// TestP1103ToTheEnd goes from ballot to ballot, till none is left.
func TestP1103ToTheEnd(t *testing.T) {
	b := of(end-10, 3)
	for range 10 {
		next, k := ballot.Next(b, end-20, 1+b.N%2)
		if k != api.OK || !ballot.Less(b, next) {
			t.Fatalf("Next of %x: %x %d", b, next, k)
		}
		b = next
	}
	nextFails(t, b, end-20, 1, api.Stopped)
	nextFails(t, b, 0, end, api.Stopped)
}
