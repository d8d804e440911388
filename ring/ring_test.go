package ring_test

import (
	"math"
	"math/rand"
	"slices"
	"testing"

	"winnow/api"
	"winnow/policy"
	"winnow/ring"
)

// end is the greatest number on a ring.
const end uint64 = math.MaxUint64

// unmixed is the number whose Mix is n: Mix gone through from behind.
func unmixed(n uint64) uint64 {
	n ^= n>>31 ^ n>>62
	n *= 0x319642b2d24d8ec3 // with 94d049bb133111eb it makes 1
	n ^= n>>27 ^ n>>54
	n *= 0x96de1b173f119089 // with bf58476d1ce4e5b9 it makes 1
	n ^= n>>30 ^ n>>60
	return n - 0x9e3779b97f4a7c15
}

// behind is the id whose points stand so many numbers behind those of id: its
// point i is at the place of id's point i + n.
func behind(id, n uint64) uint64 { return unmixed(policy.Mix(id) + n) }

// pair is two ids, rising, of which the second one has its first point where the
// first one has its second point.
func pair(t *testing.T) (low, high uint64) {
	t.Helper()
	for id := uint64(1); id < 1000; id++ {
		if b := behind(id, 1); b > id {
			return id, b
		}
	}
	t.Fatal("no pair")
	return 0, 0
}

// swapped is two ids, rising, of which the first one has its first point where
// the second one has its second point.
func swapped(t *testing.T) (low, high uint64) {
	t.Helper()
	for id := end; id > end-1000; id-- {
		if b := behind(id, 1); b > 0 && b < id {
			return b, id
		}
	}
	t.Fatal("no pair")
	return 0, 0
}

// made is the ring of those members.
func made(t *testing.T, points int, ids ...uint64) []ring.Point {
	t.Helper()
	r, k := ring.Make(ids, points)
	if k != api.OK {
		t.Fatalf("Make of %x, %d: %d", ids, points, k)
	}
	return r
}

// makeFails holds Make to that kind, and nothing beside it.
func makeFails(t *testing.T, ids []uint64, points int, want api.Kind) {
	t.Helper()
	if r, k := ring.Make(ids, points); len(r) != 0 || k != want {
		t.Errorf("Make of %x, %d: %d points %d, not none and %d", ids, points, len(r), k, want)
	}
}

// firstIds is the numbers from 1 to n.
func firstIds(n int) []uint64 {
	var ids []uint64
	for i := range n {
		ids = append(ids, uint64(i)+1)
	}
	return ids
}

// someIds is n ids from all over their range, rising.
func someIds(r *rand.Rand, n int) []uint64 {
	var ids []uint64
	for len(ids) < n {
		id := r.Uint64() >> r.Intn(64)
		if id > 0 && !slices.Contains(ids, id) {
			ids = append(ids, id)
		}
	}
	slices.Sort(ids)
	return ids
}

// plainRing is the ring of those members, at each place the least of the points
// that are still to come.
func plainRing(ids []uint64, points int) []ring.Point {
	var l []ring.Point
	for _, id := range ids {
		for i := range points {
			l = append(l, ring.Point{At: policy.Mix(policy.Mix(id) + uint64(i)), Id: id})
		}
	}
	for i := range l {
		for j := i + 1; j < len(l); j++ {
			if l[j].At < l[i].At || l[j].At == l[i].At && l[j].Id < l[i].Id {
				l[i], l[j] = l[j], l[i]
			}
		}
	}
	return l
}

// plainOwner is a number's owner, point by point.
func plainOwner(r []ring.Point, n uint64) uint64 {
	for _, p := range r {
		if p.At >= n {
			return p.Id
		}
	}
	if len(r) > 0 {
		return r[0].Id
	}
	return 0
}

// edges is the numbers about the points of the rings, and about both ends.
func edges(rings ...[]ring.Point) []uint64 {
	l := []uint64{0, 1, end / 2, end - 1, end}
	for _, r := range rings {
		for _, p := range r {
			l = append(l, p.At-1, p.At, p.At+1) // round at the ends, where they stand anyway
		}
	}
	slices.Sort(l)
	return slices.Compact(l)
}

// arcOf is the arc that has n.
func arcOf(arcs []ring.Arc, n uint64) (ring.Arc, bool) {
	i := slices.IndexFunc(arcs, func(a ring.Arc) bool { return a.From <= n && n <= a.To })
	if i < 0 {
		return ring.Arc{}, false
	}
	return arcs[i], true
}

// movedIs holds Moved to these arcs, and, with Old and New the other way round,
// Moved of the rings the other way round.
func movedIs(t *testing.T, a, b []ring.Point, want ...ring.Arc) {
	t.Helper()
	if got := ring.Moved(a, b); !slices.Equal(got, want) {
		t.Errorf("Moved of %x, %x: %x, not %x", a, b, got, want)
	}
	var back []ring.Arc
	for _, w := range want {
		back = append(back, ring.Arc{From: w.From, To: w.To, Old: w.New, New: w.Old})
	}
	if got := ring.Moved(b, a); !slices.Equal(got, back) {
		t.Errorf("Moved of %x, %x: %x, not %x", b, a, got, back)
	}
}

// movedTells holds Moved to the owners, number by number, and to the arcs' order.
func movedTells(t *testing.T, a, b []ring.Point) []ring.Arc {
	t.Helper()
	arcs := ring.Moved(a, b)
	for i, arc := range arcs {
		if arc.From > arc.To || arc.Old == arc.New {
			t.Fatalf("Moved of %x, %x: the arc %x", a, b, arc)
		}
		if i == 0 {
			continue
		}
		last := arcs[i-1]
		if last.To >= arc.From {
			t.Fatalf("Moved of %x, %x: %x ahead of %x", a, b, last, arc)
		}
		if last.To+1 == arc.From && last.Old == arc.Old && last.New == arc.New {
			t.Fatalf("Moved of %x, %x: %x and %x are not one", a, b, last, arc)
		}
	}
	for _, n := range edges(a, b) {
		was, is := plainOwner(a, n), plainOwner(b, n)
		arc, has := arcOf(arcs, n)
		if has != (was != is) || has && (arc.Old != was || arc.New != is) {
			t.Fatalf("Moved of %x, %x: at %x, from %x to %x, the arc %x %v", a, b, n, was, is, arc, has)
		}
	}
	return arcs
}

// owns holds a number's owner, asked by the trace that has it as its Mix.
func owns(t *testing.T, r []ring.Point, n, want uint64) {
	t.Helper()
	if got := ring.Owner(r, unmixed(n)); got != want {
		t.Errorf("the owner of %x on %x: %x, not %x", n, r, got, want)
	}
}

func TestUnmixedIsMixFromBehind(t *testing.T) {
	for _, n := range []uint64{0, 1, 2, 1 << 31, 1 << 63, end - 1, end, 0x5e41ab087439611e} {
		if policy.Mix(unmixed(n)) != n || unmixed(policy.Mix(n)) != n {
			t.Errorf("unmixed of %x: %x", n, unmixed(n))
		}
	}
}

func TestP801At(t *testing.T) {
	for _, c := range []struct {
		id   uint64
		i    int
		want uint64
	}{
		{0, 0, 0xa706dd2f4d197e6f},
		{1, 0, 0x5e41ab087439611e},
		{1, 1, 0x86d6fd953217ae03},
		{1, 63, 0xd3349f40d980a950},
		{2, 0, 0x64684c4f0fd784b4},
		{2, 1, 0xe06dd043328bd285},
		{907, 5, 0x52b9130b769c254f},
		{end, 0, 0x5dc20aa7b2a27137},
		{end, 63, 0x8d9ebceeb6c16f5a},
		{1, -1, 0xe9fd6049d65af21e},
		{1, math.MaxInt, 0xa83ff9a6e6f70f81},
		{1, math.MinInt, 0xb7d9d44da50c8456},
	} {
		if got := ring.At(c.id, c.i); got != c.want {
			t.Errorf("At of %x, %d: %x, not %x", c.id, c.i, got, c.want)
		}
	}
}

func TestP801AtGoesRoundAtTheEnd(t *testing.T) {
	id := unmixed(end) // its Mix is the greatest number
	if got, want := ring.At(id, 1), policy.Mix(0); got != want {
		t.Errorf("At of %x, 1: %x, not %x", id, got, want)
	}
	if got, want := ring.At(id, 3), policy.Mix(2); got != want {
		t.Errorf("At of %x, 3: %x, not %x", id, got, want)
	}
	if got, want := ring.At(unmixed(0), -1), policy.Mix(end); got != want {
		t.Errorf("At of %x, -1: %x, not %x", unmixed(0), got, want)
	}
}

func TestP801MakeOfKnownIds(t *testing.T) {
	want := []ring.Point{
		{At: 0x5e41ab087439611e, Id: 1},
		{At: 0x64684c4f0fd784b4, Id: 2},
		{At: 0x86d6fd953217ae03, Id: 1},
		{At: 0xbca402f674ddd08d, Id: 3},
		{At: 0xbccdfd9c96a18897, Id: 3},
		{At: 0xe06dd043328bd285, Id: 2},
	}
	if got := made(t, 2, 1, 2, 3); !slices.Equal(got, want) {
		t.Errorf("Make of 1 to 3, 2: %x, not %x", got, want)
	}
}

func TestP801MakeOfManyIds(t *testing.T) {
	r := rand.New(rand.NewSource(801))
	for n := range api.MaxMembers + 1 {
		for _, points := range []int{1, 2, 3, 17, api.MaxPoints - 1, api.MaxPoints} {
			for _, ids := range [][]uint64{firstIds(n), someIds(r, n)} {
				got, want := made(t, points, ids...), plainRing(ids, points)
				if !slices.Equal(got, want) {
					t.Errorf("Make of %x, %d: %x, not %x", ids, points, got, want)
				}
			}
		}
	}
}

func TestP801MakeOfTheGreatestIds(t *testing.T) {
	ids := []uint64{1, end - 1, end}
	if got, want := made(t, 3, ids...), plainRing(ids, 3); !slices.Equal(got, want) {
		t.Errorf("Make of %x, 3: %x, not %x", ids, got, want)
	}
}

func TestP801MakeOfNoIds(t *testing.T) {
	for _, ids := range [][]uint64{nil, {}} {
		for _, points := range []int{1, 5, api.MaxPoints} {
			if r, k := ring.Make(ids, points); len(r) != 0 || k != api.OK {
				t.Errorf("Make of no ids, %d: %x %d, not none and 0", points, r, k)
			}
		}
	}
}

func TestP801PointsOfOnePlaceRiseByTheirIds(t *testing.T) {
	low, high := pair(t)
	other, far := swapped(t)
	for _, ids := range [][]uint64{{low, high}, {other, far}} {
		for _, points := range []int{2, 3, api.MaxPoints} {
			got, want := made(t, points, ids...), plainRing(ids, points)
			if !slices.Equal(got, want) {
				t.Errorf("Make of %x, %d: %x, not %x", ids, points, got, want)
			}
			shared := 0
			for i := range len(got) - 1 {
				if got[i].At != got[i+1].At {
					continue
				}
				shared++
				if got[i].Id != ids[0] || got[i+1].Id != ids[1] {
					t.Errorf("Make of %x, %d: %x ahead of %x", ids, points, got[i], got[i+1])
				}
			}
			if shared != points-1 {
				t.Errorf("Make of %x, %d: %d places with two points", ids, points, shared)
			}
		}
	}
}

func TestP801MakeOfIdsThatDoNotRise(t *testing.T) {
	for _, ids := range [][]uint64{
		{0}, {0, 1}, {0, 0}, {1, 0}, {1, 1}, {2, 1}, {end, 1}, {end, end}, {end, 0},
		{1, 2, 2}, {1, 3, 2}, {2, 1, 3}, {1, 2, 0}, {1, 2, 3, 1}, {1, 1, 2},
	} {
		for _, points := range []int{1, 2, api.MaxPoints} {
			makeFails(t, ids, points, api.BadArg)
		}
	}
	for i := range api.MaxMembers {
		ids := firstIds(api.MaxMembers)
		ids[i] = 0
		makeFails(t, ids, 1, api.BadArg)
		ids[i] = uint64(i) // as the one ahead, or 0
		makeFails(t, ids, 1, api.BadArg)
	}
}

func TestP801MakeOfNoSuchPoints(t *testing.T) {
	for _, points := range []int{0, -1, api.MaxPoints + 1, api.MaxPoints * 2, math.MinInt, math.MaxInt} {
		for _, ids := range [][]uint64{nil, {}, {1}, {1, 2, 3}, firstIds(api.MaxMembers)} {
			makeFails(t, ids, points, api.BadArg)
		}
	}
}

func TestP801MakeOfTooManyIds(t *testing.T) {
	for _, n := range []int{api.MaxMembers + 1, api.MaxMembers + 2, 1000} {
		for _, points := range []int{1, api.MaxPoints} {
			makeFails(t, firstIds(n), points, api.TooLarge)
		}
	}
}

func TestP801BadArgComesAheadOfTooLarge(t *testing.T) {
	for _, points := range []int{0, -1, api.MaxPoints + 1} {
		makeFails(t, firstIds(api.MaxMembers+1), points, api.BadArg)
	}
	ids := firstIds(api.MaxMembers + 1)
	ids[api.MaxMembers] = api.MaxMembers // the one beyond the limit doesn't rise
	makeFails(t, ids, 1, api.BadArg)
	makeFails(t, make([]uint64, 1000), 1, api.BadArg)
	ids = firstIds(1000)
	ids[999] = 1
	makeFails(t, ids, 1, api.BadArg)
}

func TestP801MakeLeavesTheIds(t *testing.T) {
	room := []uint64{1, 2, 3, 77, 78}
	for _, n := range []int{0, 1, 3} {
		made(t, 4, room[:n]...)
	}
	ring.Make(room[:3], 4)
	ring.Make(room[:3:4], 0)
	if want := []uint64{1, 2, 3, 77, 78}; !slices.Equal(room, want) {
		t.Errorf("the ids are %x, not %x", room, want)
	}
}

func TestP801MakeAnswersNewMemory(t *testing.T) {
	ids := []uint64{1, 2, 3}
	first, _ := ring.Make(ids, 2)
	want := plainRing(ids, 2)
	for i := range cap(first) {
		first[:cap(first)][i] = ring.Point{At: 9, Id: 9}
	}
	if second, _ := ring.Make(ids, 2); !slices.Equal(second, want) {
		t.Errorf("behind what was written Make is %x, not %x", second, want)
	}
}

func TestP801MakeKeepsNoIds(t *testing.T) {
	ids := []uint64{1, 2, 3}
	r, _ := ring.Make(ids, 2)
	ids[0], ids[1], ids[2] = 7, 8, 9
	if want := plainRing([]uint64{1, 2, 3}, 2); !slices.Equal(r, want) {
		t.Errorf("behind what was written into the ids the ring is %x, not %x", r, want)
	}
}

func TestP802OwnerOnKnownPoints(t *testing.T) {
	r := made(t, 2, 1, 2, 3)
	for trace, want := range []uint64{1, 3, 3, 1, 1, 2, 2, 2, 3, 3, 1, 1} {
		if got := ring.Owner(r, uint64(trace)); got != want {
			t.Errorf("Owner of %d: %d, not %d", trace, got, want)
		}
	}
}

func TestP802OwnerAboutPoints(t *testing.T) {
	r := []ring.Point{{At: 10, Id: 4}, {At: 20, Id: 2}, {At: 21, Id: 9}, {At: 1 << 63, Id: 4}, {At: end - 5, Id: 7}}
	for _, c := range []struct{ n, want uint64 }{
		{0, 4}, {1, 4}, {9, 4}, {10, 4}, {11, 2}, {19, 2}, {20, 2}, {21, 9}, {22, 4},
		{1<<63 - 1, 4}, {1 << 63, 4}, {1<<63 + 1, 7}, {end - 6, 7}, {end - 5, 7}, {end - 4, 4}, {end, 4},
	} {
		owns(t, r, c.n, c.want)
	}
}

func TestP802OwnerAtTheEnds(t *testing.T) {
	r := []ring.Point{{At: 0, Id: 3}, {At: 5, Id: 2}, {At: end, Id: 8}}
	for _, c := range []struct{ n, want uint64 }{{0, 3}, {1, 2}, {5, 2}, {6, 8}, {end - 1, 8}, {end, 8}} {
		owns(t, r, c.n, c.want)
	}
	r = []ring.Point{{At: 0, Id: 3}, {At: 5, Id: 2}}
	for _, c := range []struct{ n, want uint64 }{{0, 3}, {1, 2}, {5, 2}, {6, 3}, {end, 3}} {
		owns(t, r, c.n, c.want)
	}
}

func TestP802OwnerWhereTwoHaveAPlace(t *testing.T) {
	r := []ring.Point{{At: 10, Id: 4}, {At: 10, Id: 6}, {At: 20, Id: 2}, {At: 20, Id: 3}, {At: 20, Id: 9}}
	for _, c := range []struct{ n, want uint64 }{{0, 4}, {10, 4}, {11, 2}, {20, 2}, {21, 4}, {end, 4}} {
		owns(t, r, c.n, c.want)
	}
}

func TestP802OwnerOnAnEmptyRing(t *testing.T) {
	for _, r := range [][]ring.Point{nil, {}, made(t, 4)} {
		for _, trace := range []uint64{0, 1, unmixed(0), unmixed(end), end} {
			if got := ring.Owner(r, trace); got != 0 {
				t.Errorf("Owner of %x on an empty ring: %x", trace, got)
			}
		}
	}
}

func TestExample1OneMemberOwnsAll(t *testing.T) {
	for _, id := range []uint64{1, 907, end} {
		for _, points := range []int{1, 2, api.MaxPoints} {
			r := made(t, points, id)
			for _, n := range edges(r) {
				owns(t, r, n, id)
			}
		}
	}
}

func TestP802OwnerOnManyRings(t *testing.T) {
	r := rand.New(rand.NewSource(802))
	for n := range api.MaxMembers + 1 {
		for _, points := range []int{1, 2, 7, api.MaxPoints} {
			l := made(t, points, someIds(r, n)...)
			for _, at := range edges(l) {
				owns(t, l, at, plainOwner(l, at))
			}
			for range 100 {
				trace := r.Uint64()
				if got, want := ring.Owner(l, trace), plainOwner(l, policy.Mix(trace)); got != want {
					t.Errorf("Owner of %x on %x: %x, not %x", trace, l, got, want)
				}
			}
		}
	}
}

func TestP802OwnerByThePairOfOnePlace(t *testing.T) {
	low, high := pair(t)
	r := made(t, 2, low, high)
	place := ring.At(high, 0)
	if ring.At(low, 1) != place {
		t.Fatalf("%x and %x have no place together", low, high)
	}
	owns(t, r, place, low)
}

func TestP803MovedOfKnownIds(t *testing.T) {
	movedIs(t, made(t, 2, 1, 3), made(t, 2, 1, 2, 3),
		ring.Arc{From: 0x5e41ab087439611f, To: 0x64684c4f0fd784b4, Old: 1, New: 2},
		ring.Arc{From: 0xbccdfd9c96a18898, To: 0xe06dd043328bd285, Old: 1, New: 2})
}

func TestP803MovedOfNothing(t *testing.T) {
	one := []ring.Point{{At: 10, Id: 4}, {At: 20, Id: 2}}
	movedIs(t, nil, nil)
	movedIs(t, nil, []ring.Point{})
	movedIs(t, one, one)
	movedIs(t, made(t, api.MaxPoints, firstIds(api.MaxMembers)...), made(t, api.MaxPoints, firstIds(api.MaxMembers)...))
	// Other points, but the same owners everywhere.
	movedIs(t, one, []ring.Point{{At: 5, Id: 4}, {At: 10, Id: 4}, {At: 15, Id: 2}, {At: 20, Id: 2}, {At: 30, Id: 4}})
	movedIs(t, one, []ring.Point{{At: 10, Id: 4}, {At: 10, Id: 7}, {At: 20, Id: 2}})
	movedIs(t, []ring.Point{{At: 1, Id: 4}}, []ring.Point{{At: 1 << 40, Id: 4}})
}

func TestP803MovedFromAnEmptyRing(t *testing.T) {
	all := ring.Arc{From: 0, To: end, Old: 0, New: 4}
	for _, at := range []uint64{0, 1, 10, 1 << 63, end - 1, end} {
		movedIs(t, nil, []ring.Point{{At: at, Id: 4}}, all)
		movedIs(t, []ring.Point{}, []ring.Point{{At: at, Id: 4}}, all)
	}
	movedIs(t, nil, made(t, api.MaxPoints, 4), all)
	movedIs(t, nil, []ring.Point{{At: 10, Id: 4}, {At: 20, Id: 2}},
		ring.Arc{From: 0, To: 10, Old: 0, New: 4},
		ring.Arc{From: 11, To: 20, Old: 0, New: 2},
		ring.Arc{From: 21, To: end, Old: 0, New: 4})
}

func TestP803MovedToAnotherMember(t *testing.T) {
	movedIs(t, made(t, 3, 1), made(t, 3, 2), ring.Arc{From: 0, To: end, Old: 1, New: 2})
	movedIs(t, []ring.Point{{At: 0, Id: 1}}, []ring.Point{{At: end, Id: 2}}, ring.Arc{From: 0, To: end, Old: 1, New: 2})
}

func TestP803ArcsThatTouchAreOne(t *testing.T) {
	// Of two points of the one that owned, and of two of the one that owns now.
	movedIs(t, []ring.Point{{At: 10, Id: 1}, {At: 20, Id: 2}, {At: 30, Id: 2}, {At: 40, Id: 1}},
		[]ring.Point{{At: 10, Id: 1}, {At: 15, Id: 3}, {At: 25, Id: 3}, {At: 30, Id: 3}, {At: 40, Id: 1}},
		ring.Arc{From: 11, To: 30, Old: 2, New: 3})
	// One number apart they do not touch.
	movedIs(t, []ring.Point{{At: 10, Id: 1}, {At: 20, Id: 2}, {At: 21, Id: 1}, {At: 30, Id: 2}},
		[]ring.Point{{At: 10, Id: 1}, {At: 20, Id: 3}, {At: 21, Id: 1}, {At: 30, Id: 3}},
		ring.Arc{From: 11, To: 20, Old: 2, New: 3},
		ring.Arc{From: 22, To: 30, Old: 2, New: 3})
}

func TestP803ArcsOfOthersStayApart(t *testing.T) {
	// The same New, another Old.
	movedIs(t, []ring.Point{{At: 10, Id: 1}, {At: 20, Id: 2}, {At: 30, Id: 4}},
		[]ring.Point{{At: 10, Id: 1}, {At: 30, Id: 3}, {At: 40, Id: 1}},
		ring.Arc{From: 11, To: 20, Old: 2, New: 3},
		ring.Arc{From: 21, To: 30, Old: 4, New: 3})
	// The same Old, another New.
	movedIs(t, []ring.Point{{At: 10, Id: 1}, {At: 30, Id: 2}},
		[]ring.Point{{At: 10, Id: 1}, {At: 20, Id: 3}, {At: 30, Id: 4}, {At: 31, Id: 1}},
		ring.Arc{From: 11, To: 20, Old: 2, New: 3},
		ring.Arc{From: 21, To: 30, Old: 2, New: 4})
}

func TestP803MovedAtTheEnds(t *testing.T) {
	// The last arc and the first one do not touch: none goes over the end.
	movedIs(t, []ring.Point{{At: 10, Id: 1}, {At: 20, Id: 2}}, []ring.Point{{At: 10, Id: 3}, {At: 20, Id: 2}},
		ring.Arc{From: 0, To: 10, Old: 1, New: 3},
		ring.Arc{From: 21, To: end, Old: 1, New: 3})
	// Arcs of one number at both ends.
	movedIs(t, []ring.Point{{At: 0, Id: 1}, {At: end - 1, Id: 2}, {At: end, Id: 1}}, []ring.Point{{At: 0, Id: 3}, {At: end - 1, Id: 2}, {At: end, Id: 3}},
		ring.Arc{From: 0, To: 0, Old: 1, New: 3},
		ring.Arc{From: end, To: end, Old: 1, New: 3})
	movedIs(t, []ring.Point{{At: 0, Id: 1}, {At: end - 1, Id: 2}}, []ring.Point{{At: 0, Id: 1}, {At: end, Id: 2}},
		ring.Arc{From: end, To: end, Old: 1, New: 2})
	movedIs(t, []ring.Point{{At: 0, Id: 1}, {At: end, Id: 2}}, []ring.Point{{At: 1, Id: 1}, {At: end, Id: 2}},
		ring.Arc{From: 1, To: 1, Old: 2, New: 1})
}

// smallRings is all rings with, at each of the places, no point, one of two
// members, both, or a third one.
func smallRings(places []uint64) [][]ring.Point {
	if len(places) == 0 {
		return [][]ring.Point{nil}
	}
	first := len(places) - 1
	var all [][]ring.Point
	for _, ahead := range smallRings(places[:first]) {
		for _, ids := range [][]uint64{nil, {1}, {2}, {1, 2}, {3}} {
			r := slices.Clone(ahead)
			for _, id := range ids {
				r = append(r, ring.Point{At: places[first], Id: id})
			}
			all = append(all, r)
		}
	}
	return all
}

func TestP802P803AllSmallRings(t *testing.T) {
	for _, places := range [][]uint64{{0, 1, end}, {7, 8, 1 << 63}, {0, end - 1, end}} {
		all := smallRings(places)
		for _, a := range all {
			for _, n := range edges(a) {
				owns(t, a, n, plainOwner(a, n))
			}
			for _, b := range all {
				movedTells(t, a, b)
			}
		}
	}
}

func TestP803MovedOfManyRings(t *testing.T) {
	r := rand.New(rand.NewSource(803))
	for range 60 {
		ids := someIds(r, api.MaxMembers)
		part := func() []uint64 {
			return slices.DeleteFunc(slices.Clone(ids), func(uint64) bool { return r.Intn(2) == 0 })
		}
		a := made(t, 1+r.Intn(8), part()...)
		b := made(t, 1+r.Intn(8), part()...)
		arcs := movedTells(t, a, b)
		for range 200 {
			trace := r.Uint64()
			was, is := ring.Owner(a, trace), ring.Owner(b, trace)
			if _, has := arcOf(arcs, policy.Mix(trace)); has != (was != is) {
				t.Fatalf("Moved of %x, %x: of %x, from %x to %x: %v", a, b, trace, was, is, has)
			}
		}
	}
	movedTells(t, made(t, api.MaxPoints, firstIds(api.MaxMembers)...), made(t, api.MaxPoints, someIds(r, api.MaxMembers)...))
}

func TestP802P803WhatComesInStaysAsItWas(t *testing.T) {
	a := []ring.Point{{At: 10, Id: 4}, {At: 20, Id: 2}, {At: 5, Id: 77}, {At: 1, Id: 78}}
	b := []ring.Point{{At: 7, Id: 1}, {At: 20, Id: 3}, {At: 2, Id: 79}, {At: 3, Id: 80}}
	wantA, wantB := slices.Clone(a), slices.Clone(b)
	ring.Owner(a[:2], 1)
	ring.Moved(a[:2], b[:2])
	ring.Moved(b[:2], a[:2])
	ring.Moved(a[:2], a[:2])
	if !slices.Equal(a, wantA) || !slices.Equal(b, wantB) {
		t.Errorf("the rings are %x, %x, not %x, %x", a, b, wantA, wantB)
	}
}

func TestP803MovedAnswersNewMemory(t *testing.T) {
	a := []ring.Point{{At: 10, Id: 1}, {At: 20, Id: 2}}
	b := []ring.Point{{At: 10, Id: 3}, {At: 20, Id: 2}}
	first := ring.Moved(a, b)
	want := slices.Clone(first)
	for i := range cap(first) {
		first[:cap(first)][i] = ring.Arc{From: 9, To: 9, Old: 9, New: 9}
	}
	if second := ring.Moved(a, b); !slices.Equal(second, want) {
		t.Errorf("behind what was written Moved is %x, not %x", second, want)
	}
}

// TestP802P803ListsThatAreNoRings has nothing to hold the answers to, but that
// they come.
func TestP802P803ListsThatAreNoRings(t *testing.T) {
	lists := [][]ring.Point{
		{{At: 20, Id: 1}, {At: 10, Id: 2}},
		{{At: end, Id: 1}, {At: 0, Id: 2}, {At: end, Id: 3}},
		{{At: 5, Id: 2}, {At: 5, Id: 1}},
		{{At: 5, Id: 1}, {At: 5, Id: 1}},
		{{}, {}, {}},
		{{At: end}, {At: end}},
		{{At: 3, Id: 0}},
	}
	for _, a := range lists {
		for _, n := range []uint64{0, 5, 10, 15, end} {
			ring.Owner(a, unmixed(n))
		}
		for _, b := range lists {
			ring.Moved(a, b)
		}
	}
}

// without is the ids, but that one.
func without(ids []uint64, id uint64) []uint64 {
	return slices.DeleteFunc(slices.Clone(ids), func(i uint64) bool { return i == id })
}

// comes holds a member that comes to what it may take, and, that it goes, to
// what it may give.
func comes(t *testing.T, ids []uint64, id uint64, points int) {
	t.Helper()
	others := without(ids, id)
	a, b := made(t, points, others...), made(t, points, ids...)
	for _, arc := range movedTells(t, a, b) {
		if arc.New != id || !slices.Contains(others, arc.Old) && (len(others) > 0 || arc.Old != 0) {
			t.Errorf("%x comes to %x, %d: %x", id, others, points, arc)
		}
	}
	for _, arc := range movedTells(t, b, a) {
		if arc.Old != id || !slices.Contains(others, arc.New) && (len(others) > 0 || arc.New != 0) {
			t.Errorf("%x goes from %x, %d: %x", id, ids, points, arc)
		}
	}
}

func TestP804AMemberThatComesOrGoes(t *testing.T) {
	r := rand.New(rand.NewSource(804))
	for n := range api.MaxMembers {
		for _, points := range []int{1, 2, 9} {
			for _, ids := range [][]uint64{firstIds(n + 1), someIds(r, n+1)} {
				for _, id := range ids {
					comes(t, ids, id, points)
				}
			}
		}
	}
	ids := firstIds(api.MaxMembers)
	comes(t, ids, 5, api.MaxPoints)
}

func TestP804AMemberThatComesToPlacesOfAnother(t *testing.T) {
	low, high := pair(t)
	other, far := swapped(t)
	for _, ids := range [][]uint64{{low, high}, {other, far}} {
		for _, id := range ids {
			for _, points := range []int{1, 2, 3, api.MaxPoints} {
				comes(t, ids, id, points)
			}
		}
	}
}

func TestP804AMemberTakesSome(t *testing.T) {
	ids := firstIds(4)
	for _, id := range ids {
		if len(ring.Moved(made(t, 8, without(ids, id)...), made(t, 8, ids...))) == 0 {
			t.Errorf("%d comes to %x, and takes nothing", id, ids)
		}
	}
}

// orders is all orders of the ids.
func orders(ids []uint64) [][]uint64 {
	if len(ids) == 0 {
		return [][]uint64{nil}
	}
	var all [][]uint64
	for _, id := range ids {
		for _, rest := range orders(without(ids, id)) {
			all = append(all, append([]uint64{id}, rest...))
		}
	}
	return all
}

// reached is the owners of the numbers, moved by the arcs of each member that
// comes, in that order.
func reached(t *testing.T, order []uint64, points int, numbers []uint64) []uint64 {
	t.Helper()
	owners := make([]uint64, len(numbers))
	var there []uint64
	for _, id := range order {
		a := made(t, points, there...)
		there = append(there, id)
		slices.Sort(there)
		arcs := ring.Moved(a, made(t, points, there...))
		for i, n := range numbers {
			arc, has := arcOf(arcs, n)
			if !has {
				continue
			}
			if owners[i] != arc.Old {
				t.Fatalf("%x come: %x is %x's, not %x's", order, n, owners[i], arc.Old)
			}
			owners[i] = arc.New
		}
	}
	return owners
}

func TestP804TheOrderOfComingChangesNothing(t *testing.T) {
	low, high := pair(t)
	rising := func(ids ...uint64) []uint64 { slices.Sort(ids); return ids }
	for _, ids := range [][]uint64{{1, 2, 3, 4}, {3, 907, end - 1, end}, rising(low, high, end, 77777)} {
		for _, points := range []int{1, 2, 5} {
			whole := made(t, points, ids...)
			numbers := edges(whole)
			for _, order := range orders(ids) {
				owners := reached(t, order, points, numbers)
				for i, n := range numbers {
					owns(t, whole, n, owners[i])
				}
			}
		}
	}
}
