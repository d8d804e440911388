package view_test

import (
	"math"
	"math/big"
	"math/rand"
	"slices"
	"testing"

	"winnow/api"
	"winnow/view"
)

// end is the greatest number there is.
const end uint64 = math.MaxUint64

// members is what a view is made of.
type members = []api.Member

// firsts is n members with the Ids from the first one on, in all states.
func firsts(first uint64, n int) members {
	var v members
	for i := range n {
		v = append(v, api.Member{Id: first + uint64(i), Inc: 1 + uint64(n-i), State: i % 3})
	}
	return v
}

// rights has views, at the edges of what is one.
func rights() []members {
	return []members{
		nil,
		{},
		{{Id: 1, Inc: 1, State: api.Alive}},
		{{Id: 1, Inc: 1, State: api.Suspect}},
		{{Id: 1, Inc: 1, State: api.Gone}},
		{{Id: end, Inc: end, State: api.Gone}},
		{{Id: 1, Inc: end, State: api.Alive}, {Id: 2, Inc: 1, State: api.Gone}, {Id: end, Inc: 7, State: api.Suspect}},
		{{Id: end - 1, Inc: 3}, {Id: end, Inc: 3}},
		firsts(1, api.MaxMembers-1),
		firsts(1, api.MaxMembers),
		firsts(end-api.MaxMembers+1, api.MaxMembers),
	}
}

// wrongs has lists that are no views.
func wrongs() []members {
	l := []members{
		{{}},
		{{Id: 0, Inc: 1}},
		{{Id: 0, Inc: 1}, {Id: 1, Inc: 1}},
		{{Id: 1, Inc: 0}},
		{{Id: 1, Inc: 0, State: api.Gone}},
		{{Id: 1, Inc: 1, State: -1}},
		{{Id: 1, Inc: 1, State: 3}},
		{{Id: 1, Inc: 1, State: math.MaxInt}},
		{{Id: 1, Inc: 1, State: math.MinInt}},
		{{Id: 1, Inc: 1, State: 256}},
		{{Id: 1, Inc: 1}, {Id: 1, Inc: 1}},
		{{Id: 1, Inc: 1}, {Id: 1, Inc: 2}},
		{{Id: 2, Inc: 1}, {Id: 1, Inc: 1}},
		{{Id: end, Inc: 1}, {Id: 0, Inc: 1}},
		{{Id: end, Inc: 1}, {Id: end, Inc: 1}},
		{{Id: 1, Inc: 1}, {Id: 3, Inc: 1}, {Id: 2, Inc: 1}},
		firsts(1, api.MaxMembers+1),
		firsts(1, 1000),
		make(members, 1<<16),
	}
	for i := range api.MaxMembers {
		for _, change := range []func(m *api.Member){
			func(m *api.Member) { m.Id = 0 },
			func(m *api.Member) { m.Inc = 0 },
			func(m *api.Member) { m.State = -1 },
			func(m *api.Member) { m.State = 3 },
		} {
			v := firsts(1, api.MaxMembers)
			change(&v[i])
			l = append(l, v)
		}
		if i > 0 {
			v := firsts(1, api.MaxMembers)
			v[i].Id = v[i-1].Id
			l = append(l, v)
		}
	}
	return l
}

// smalls is all views of those Ids, each with one of the Incs, or not there.
func smalls(ids, incs []uint64) []members {
	if len(ids) == 0 {
		return []members{nil}
	}
	last := len(ids) - 1
	var all []members
	for _, ahead := range smalls(ids[:last], incs) {
		all = append(all, ahead)
		for _, inc := range incs {
			for state := api.Alive; state <= api.Gone; state++ {
				all = append(all, append(slices.Clone(ahead), api.Member{Id: ids[last], Inc: inc, State: state}))
			}
		}
	}
	return all
}

// some is a view of up to n Ids, as many of them far from one another as near.
func some(r *rand.Rand, n int) members {
	var ids []uint64
	for range r.Intn(n + 1) {
		ids = append(ids, 1+r.Uint64()>>(r.Intn(2)*59+1))
	}
	slices.Sort(ids)
	var v members
	for _, id := range slices.Compact(ids) {
		v = append(v, api.Member{Id: id, Inc: 1 + r.Uint64()>>(1+r.Intn(63)), State: r.Intn(3)})
	}
	return v
}

// merged is Merge of two views that have room together.
func merged(t *testing.T, a, b members) members {
	t.Helper()
	v, k := view.Merge(a, b)
	if k != api.OK {
		t.Fatalf("Merge of %x, %x: %d", a, b, k)
	}
	return v
}

// mergeIs holds Merge to that view, in both orders.
func mergeIs(t *testing.T, a, b, want members) {
	t.Helper()
	if got := merged(t, a, b); !slices.Equal(got, want) {
		t.Errorf("Merge of %x, %x: %x, not %x", a, b, got, want)
	}
	if got := merged(t, b, a); !slices.Equal(got, want) {
		t.Errorf("Merge of %x, %x: %x, not %x", b, a, got, want)
	}
}

// mergeFails holds Merge to that kind, in both orders, and to nothing beside it.
func mergeFails(t *testing.T, a, b members, want api.Kind) {
	t.Helper()
	if v, k := view.Merge(a, b); len(v) != 0 || k != want {
		t.Errorf("Merge of %x, %x: %x %d, not none and %d", a, b, v, k, want)
	}
	if v, k := view.Merge(b, a); len(v) != 0 || k != want {
		t.Errorf("Merge of %x, %x: %x %d, not none and %d", b, a, v, k, want)
	}
}

// older tells whether a stands behind b, by the words of the chapter.
func older(a, b api.Member) bool {
	if a.Inc == b.Inc {
		return a.State < b.State
	}
	return a.Inc < b.Inc
}

// plainMerge is Merge, member by member, of two views that rise.
func plainMerge(a, b members) members {
	switch {
	case len(a) == 0:
		return b
	case len(b) == 0:
		return a
	case a[0].Id < b[0].Id:
		return append(members{a[0]}, plainMerge(a[1:], b)...)
	case a[0].Id > b[0].Id:
		return append(members{b[0]}, plainMerge(a, b[1:])...)
	case older(a[0], b[0]):
		return append(members{b[0]}, plainMerge(a[1:], b[1:])...)
	}
	return append(members{a[0]}, plainMerge(a[1:], b[1:])...)
}

// below tells whether each member of a is in b, and is not older there.
func below(a, b members) bool {
	for _, m := range a {
		i := slices.IndexFunc(b, func(o api.Member) bool { return o.Id == m.Id })
		if i < 0 || older(b[i], m) {
			return false
		}
	}
	return true
}

// plainVersion is Version as a whole number, however great.
func plainVersion(v members) *big.Int {
	sum := new(big.Int)
	for _, m := range v {
		step := new(big.Int).SetUint64(m.Inc)
		step.Mul(step, big.NewInt(3))
		step.Sub(step, big.NewInt(3))
		step.Add(step, big.NewInt(int64(m.State)))
		step.Add(step, big.NewInt(1))
		sum.Add(sum, step)
	}
	return sum
}

// versionTells holds Version of a view to the whole number.
func versionTells(t *testing.T, v members) {
	t.Helper()
	want, kind := uint64(0), api.Stopped
	if whole := plainVersion(v); whole.IsUint64() {
		want, kind = whole.Uint64(), api.OK
	}
	versionIs(t, v, want, kind)
}

// versionIs holds Version to that answer.
func versionIs(t *testing.T, v members, want uint64, kind api.Kind) {
	t.Helper()
	if n, k := view.Version(v); n != want || k != kind {
		t.Errorf("Version of %x: %d %d, not %d %d", v, n, k, want, kind)
	}
}

func TestP901RightOfViews(t *testing.T) {
	for _, v := range rights() {
		if k := view.Right(v); k != api.OK {
			t.Errorf("Right of %x: %d", v, k)
		}
	}
}

func TestP901RightOfNoViews(t *testing.T) {
	for _, v := range wrongs() {
		if k := view.Right(v); k != api.BadForm {
			t.Errorf("Right of %d members, %x: %d", len(v), v[:min(len(v), 20)], k)
		}
	}
}

func TestExample1AGreaterIncIsNewer(t *testing.T) {
	gone, alive := api.Member{Id: 1, Inc: 1, State: api.Gone}, api.Member{Id: 1, Inc: 2, State: api.Alive}
	if !view.Newer(alive, gone) || view.Newer(gone, alive) {
		t.Errorf("Inc 1, Gone and Inc 2, Alive: the second one isn't newer")
	}
	mergeIs(t, members{gone}, members{alive}, members{alive})
}

func TestP901Newer(t *testing.T) {
	// From the oldest one on, those on one line with one another.
	rising := []members{
		{{Inc: 0, State: math.MinInt}},
		{{Inc: 0, State: -1}},
		{{Id: 1}, {Id: end}, {}},
		{{Inc: 0, State: 1}},
		{{Inc: 0, State: math.MaxInt}},
		{{Id: 5, Inc: 1, State: math.MinInt}},
		{{Id: 5, Inc: 1, State: api.Alive}, {Id: 1, Inc: 1, State: api.Alive}},
		{{Id: 1, Inc: 1, State: api.Suspect}, {Id: end, Inc: 1, State: api.Suspect}},
		{{Id: 9, Inc: 1, State: api.Gone}, {Id: 8, Inc: 1, State: api.Gone}},
		{{Id: 1, Inc: 1, State: 3}},
		{{Id: 1, Inc: 2, State: api.Alive}, {Id: 2, Inc: 2, State: api.Alive}},
		{{Id: 1, Inc: 2, State: api.Suspect}},
		{{Id: 1, Inc: 1 << 32, State: -5}},
		{{Id: 1, Inc: 1<<63 - 1, State: api.Gone}},
		{{Id: 1, Inc: 1 << 63, State: api.Alive}},
		{{Id: 1, Inc: end - 1, State: api.Gone}},
		{{Id: 1, Inc: end, State: api.Alive}, {Id: end, Inc: end, State: api.Alive}},
		{{Id: 0, Inc: end, State: math.MaxInt}},
	}
	for i, one := range rising {
		for j, other := range rising {
			for _, a := range one {
				for _, b := range other {
					if got := view.Newer(a, b); got != (i > j) {
						t.Errorf("Newer of %x, %x: %v", a, b, got)
					}
				}
			}
		}
	}
}

func TestP901Find(t *testing.T) {
	for _, v := range rights() {
		for _, m := range v {
			if got, has := view.Find(v, m.Id); got != m || !has {
				t.Errorf("Find of %x in %x: %x %v", m.Id, v, got, has)
			}
		}
		for _, id := range []uint64{0, 77, 1 << 40} {
			if got, has := view.Find(v, id); got != (api.Member{}) || has {
				t.Errorf("Find of %x in %x: %x %v", id, v, got, has)
			}
		}
	}
}

func TestP901FindInNoView(t *testing.T) {
	v := members{{Id: 5, Inc: 1}, {Id: 2, Inc: 3, State: 9}, {Id: 5, Inc: 2}, {Id: 0}, {Id: 2, Inc: 9}, {Id: 1}, {Id: 0, Inc: 7}}
	for id, want := range map[uint64]api.Member{5: v[0], 2: v[1], 0: v[3], 1: v[5]} {
		if got, has := view.Find(v, id); got != want || !has {
			t.Errorf("Find of %x in %x: %x %v, not %x", id, v, got, has, want)
		}
	}
	if got, has := view.Find(v, 3); got != (api.Member{}) || has {
		t.Errorf("Find of 3 in %x: %x %v", v, got, has)
	}
	long := append(make(members, 1<<16), api.Member{Id: 4, Inc: 4})
	if got, has := view.Find(long, 4); got != (api.Member{Id: 4, Inc: 4}) || !has {
		t.Errorf("Find of 4 behind many: %x %v", got, has)
	}
}

func TestP901Same(t *testing.T) {
	lists := slices.Concat(rights(), wrongs(), []members{
		{{Id: 1, Inc: 1}},
		{{Id: 1, Inc: 2}},
		{{Id: 2, Inc: 1}},
		{{Id: 1, Inc: 1}, {Id: 2, Inc: 1}},
		{{Id: 1, Inc: 1, State: api.Suspect}, {Id: 2, Inc: 1}},
		{{Id: 2, Inc: 1}, {Id: 1, Inc: 1}},
	})
	for _, a := range lists {
		for _, b := range lists {
			want := len(a) == len(b)
			for i := 0; want && i < len(a); i++ {
				want = a[i].Id == b[i].Id && a[i].Inc == b[i].Inc && a[i].State == b[i].State
			}
			if got := view.Same(a, slices.Clone(b)); got != want {
				t.Errorf("Same of %x, %x: %v", a[:min(len(a), 20)], b[:min(len(b), 20)], got)
			}
		}
	}
	if !view.Same(nil, members{}) || !view.Same(members{}, nil) {
		t.Errorf("nil and an empty list are not alike")
	}
}

func TestP902Merge(t *testing.T) {
	one := members{{Id: 1, Inc: 1}}
	mergeIs(t, nil, nil, nil)
	mergeIs(t, members{}, nil, nil)
	mergeIs(t, one, nil, one)
	mergeIs(t, one, members{}, one)
	mergeIs(t, one, members{{Id: 1, Inc: 1, State: api.Suspect}}, members{{Id: 1, Inc: 1, State: api.Suspect}})
	mergeIs(t, members{{Id: 1, Inc: 1, State: api.Gone}}, members{{Id: 1, Inc: 1, State: api.Suspect}}, members{{Id: 1, Inc: 1, State: api.Gone}})
	mergeIs(t, members{{Id: 1, Inc: end - 1, State: api.Gone}}, members{{Id: 1, Inc: end}}, members{{Id: 1, Inc: end}})
	mergeIs(t, members{{Id: 1, Inc: 1 << 63}}, members{{Id: 1, Inc: 1, State: api.Gone}}, members{{Id: 1, Inc: 1 << 63}})
	mergeIs(t, members{{Id: 1, Inc: 9}, {Id: 5, Inc: 1}, {Id: end, Inc: 1}}, members{{Id: 2, Inc: 3}, {Id: 5, Inc: 2}, {Id: 6, Inc: 1}},
		members{{Id: 1, Inc: 9}, {Id: 2, Inc: 3}, {Id: 5, Inc: 2}, {Id: 6, Inc: 1}, {Id: end, Inc: 1}})
	// Each has what is newer, of another member.
	mergeIs(t, members{{Id: 1, Inc: 2}, {Id: 2, Inc: 1}}, members{{Id: 1, Inc: 1}, {Id: 2, Inc: 2}}, members{{Id: 1, Inc: 2}, {Id: 2, Inc: 2}})
}

func TestP902MergeAtTheLimit(t *testing.T) {
	full := firsts(1, api.MaxMembers)
	mergeIs(t, full, nil, full)
	mergeIs(t, full, full, full)
	mergeIs(t, full[:api.MaxMembers-1], full[api.MaxMembers-1:], full)
	mergeIs(t, full[:8], full[8:], full)
	mergeIs(t, full[:9], full[7:], full)
	mergeFails(t, full, members{{Id: api.MaxMembers + 1, Inc: 1}}, api.TooLarge)
	mergeFails(t, full, members{{Id: end, Inc: 1}}, api.TooLarge)
	mergeFails(t, full, firsts(2, api.MaxMembers), api.TooLarge)
	mergeFails(t, full, firsts(100, api.MaxMembers), api.TooLarge)
	mergeFails(t, full[:8], firsts(9, 9), api.TooLarge)
	// Those that are Gone count, too.
	gone := slices.Clone(full)
	for i := range gone {
		gone[i].State = api.Gone
	}
	mergeFails(t, gone, members{{Id: 99, Inc: 1, State: api.Gone}}, api.TooLarge)
}

func TestP902MergeOfNoViews(t *testing.T) {
	for _, wrong := range wrongs() {
		mergeFails(t, wrong, nil, api.BadForm)
		mergeFails(t, wrong, wrong, api.BadForm)
		// BadForm ahead of TooLarge.
		for _, v := range []members{{{Id: 1, Inc: 1}}, firsts(1, api.MaxMembers), firsts(100, api.MaxMembers)} {
			mergeFails(t, wrong, v, api.BadForm)
		}
	}
}

func TestP902MergeOfManyViews(t *testing.T) {
	r := rand.New(rand.NewSource(902))
	for range 5000 {
		a, b := some(r, api.MaxMembers), some(r, api.MaxMembers)
		if want := plainMerge(a, b); len(want) > api.MaxMembers {
			mergeFails(t, a, b, api.TooLarge)
		} else {
			mergeIs(t, a, b, want)
		}
	}
}

func TestWhatComesInStaysAsItWas(t *testing.T) {
	a := members{{Id: 1, Inc: 2}, {Id: 4, Inc: 1}, {Id: 77, Inc: 77}, {Id: 78, Inc: 78}}
	b := members{{Id: 2, Inc: 2}, {Id: 4, Inc: 3}, {Id: 79, Inc: 79}, {Id: 80, Inc: 80}}
	wantA, wantB := slices.Clone(a), slices.Clone(b)
	view.Merge(a[:2], b[:2])
	view.Merge(b[:2], a[:2])
	view.Merge(a[:2], a[:2])
	view.Merge(a[:2], nil)
	view.Right(a[:2])
	view.Find(a[:2], 77)
	view.Live(a[:2])
	view.Version(a[:2])
	view.Same(a[:2], b[:2])
	if !slices.Equal(a, wantA) || !slices.Equal(b, wantB) {
		t.Errorf("the views are %x, %x, not %x, %x", a, b, wantA, wantB)
	}
}

func TestP902MergeAnswersNewMemory(t *testing.T) {
	full := firsts(1, api.MaxMembers)
	for _, c := range [][2]members{{full, nil}, {nil, full}, {full, full}, {full[:3], full[3:5]}, {full[:3:3], nil}} {
		a, b := slices.Clone(c[0]), slices.Clone(c[1])
		first := merged(t, a, b)
		want := slices.Clone(first)
		for i := range cap(first) {
			first[:cap(first)][i] = api.Member{Id: 9, Inc: 9, State: 9}
		}
		if !slices.Equal(a, c[0]) || !slices.Equal(b, c[1]) {
			t.Errorf("what was written stands in %x, %x", a, b)
		}
		if second := merged(t, a, b); !slices.Equal(second, want) {
			t.Errorf("behind what was written Merge is %x, not %x", second, want)
		}
	}
}

func TestP903Live(t *testing.T) {
	for _, c := range []struct {
		v    members
		want []uint64
	}{
		{nil, nil},
		{members{}, nil},
		{members{{Id: 1, Inc: 1}}, []uint64{1}},
		{members{{Id: 1, Inc: 1, State: api.Suspect}}, []uint64{1}},
		{members{{Id: 1, Inc: 1, State: api.Gone}}, nil},
		{members{{Id: 1, Inc: 1, State: api.Gone}, {Id: 2, Inc: 9, State: api.Suspect}, {Id: 3, Inc: 1}, {Id: end, Inc: end, State: api.Gone}}, []uint64{2, 3}},
		{firsts(1, api.MaxMembers), []uint64{1, 2, 4, 5, 7, 8, 10, 11, 13, 14, 16}},
	} {
		if got := view.Live(c.v); !slices.Equal(got, c.want) {
			t.Errorf("Live of %x: %x, not %x", c.v, got, c.want)
		}
	}
}

func TestP903LiveAnswersNewMemory(t *testing.T) {
	v := firsts(1, 4)
	first := view.Live(v)
	want := slices.Clone(first)
	for i := range cap(first) {
		first[:cap(first)][i] = 99
	}
	if second := view.Live(v); !slices.Equal(second, want) {
		t.Errorf("behind what was written Live is %x, not %x", second, want)
	}
}

func TestP903OfNoViews(t *testing.T) {
	for _, v := range wrongs() {
		if ids := view.Live(v); len(ids) != 0 {
			t.Errorf("Live of no view: %x", ids)
		}
		if n, k := view.Version(v); n != 0 || k != api.BadForm {
			t.Errorf("Version of no view: %d %d", n, k)
		}
	}
}

func TestP903Version(t *testing.T) {
	versionIs(t, nil, 0, api.OK)
	versionIs(t, members{}, 0, api.OK)
	versionIs(t, members{{Id: 1, Inc: 1}}, 1, api.OK)
	versionIs(t, members{{Id: end, Inc: 1}}, 1, api.OK)
	versionIs(t, members{{Id: 1, Inc: 1, State: api.Suspect}}, 2, api.OK)
	versionIs(t, members{{Id: 1, Inc: 1, State: api.Gone}}, 3, api.OK)
	versionIs(t, members{{Id: 1, Inc: 2}}, 4, api.OK)
	versionIs(t, members{{Id: 1, Inc: 100, State: api.Suspect}}, 299, api.OK)
	versionIs(t, members{{Id: 1, Inc: 1}, {Id: 2, Inc: 1}, {Id: 9, Inc: 3, State: api.Gone}}, 11, api.OK)
	for _, v := range rights() {
		versionTells(t, v)
	}
}

func TestP903VersionAtTheEnd(t *testing.T) {
	const third = end / 3 // 3 times this is the greatest number
	versionIs(t, members{{Id: 1, Inc: third, State: api.Suspect}}, end-1, api.OK)
	versionIs(t, members{{Id: 1, Inc: third, State: api.Gone}}, end, api.OK)
	versionIs(t, members{{Id: 1, Inc: third + 1}}, 0, api.Stopped)
	versionIs(t, members{{Id: 1, Inc: third + 1, State: api.Gone}}, 0, api.Stopped)
	versionIs(t, members{{Id: 1, Inc: third, State: api.Suspect}, {Id: 2, Inc: 1}}, end, api.OK)
	versionIs(t, members{{Id: 1, Inc: 1}, {Id: 2, Inc: third, State: api.Suspect}}, end, api.OK)
	versionIs(t, members{{Id: 1, Inc: third, State: api.Gone}, {Id: 2, Inc: 1}}, 0, api.Stopped)
	versionIs(t, members{{Id: 1, Inc: 1}, {Id: 2, Inc: third, State: api.Gone}}, 0, api.Stopped)
	// 3 times the Inc alone would be too much, not what is summed.
	versionIs(t, members{{Id: 1, Inc: third}, {Id: 2, Inc: 1}, {Id: 3, Inc: 1}}, end, api.OK)
	// Sums that go round once, twice, and to just 0.
	versionIs(t, members{{Id: 1, Inc: end}}, 0, api.Stopped)
	versionIs(t, members{{Id: 1, Inc: 2*third + 1, State: api.Suspect}}, 0, api.Stopped)
	versionIs(t, members{{Id: 1, Inc: 1 << 63}, {Id: 2, Inc: 1 << 63}}, 0, api.Stopped)
	full := firsts(1, api.MaxMembers)
	for i := range full {
		full[i].Inc, full[i].State = end, api.Gone
	}
	versionIs(t, full, 0, api.Stopped)
	for i := range full {
		full[i].Inc = end / 3 / api.MaxMembers
	}
	versionTells(t, full)
	// One member after another brings the sum about the end.
	for i := range full {
		for _, inc := range []uint64{third - 100, third - 50, third - 20, third - 17, third - 16, third - 15, third - 14, third, third + 1, end} {
			for state := api.Alive; state <= api.Gone; state++ {
				v := firsts(1, api.MaxMembers)
				for j := range v {
					v[j].Inc = 1
				}
				v[i].Inc, v[i].State = inc, state
				versionTells(t, v)
			}
		}
	}
}

func TestP903VersionOfManyViews(t *testing.T) {
	r := rand.New(rand.NewSource(903))
	for range 5000 {
		versionTells(t, some(r, api.MaxMembers))
	}
}

func TestP904MergeHangsOnNoOrder(t *testing.T) {
	all := smalls([]uint64{1, 2}, []uint64{1, 2})
	for _, a := range all {
		mergeIs(t, a, a, a)
		mergeIs(t, a, nil, a)
		for _, b := range all {
			ab := merged(t, a, b)
			mergeIs(t, a, b, ab)
			for _, c := range all {
				if one, other := merged(t, ab, c), merged(t, a, merged(t, b, c)); !view.Same(one, other) {
					t.Fatalf("of %x, %x, %x: %x, and %x", a, b, c, one, other)
				}
			}
		}
	}
}

func TestP904ManyViewsInAnyOrder(t *testing.T) {
	r := rand.New(rand.NewSource(904))
	for range 500 {
		var views []members
		for range 6 {
			var v members
			for id := range uint64(api.MaxMembers) {
				if r.Intn(3) > 0 {
					v = append(v, api.Member{Id: id + 1, Inc: 1 + uint64(r.Intn(3)), State: r.Intn(3)})
				}
			}
			views = append(views, v)
		}
		var want members
		for _, v := range views {
			want = merged(t, want, v)
		}
		for range 4 {
			r.Shuffle(len(views), func(i, j int) { views[i], views[j] = views[j], views[i] })
			var got members
			for _, v := range views {
				got = merged(t, merged(t, got, v), views[r.Intn(len(views))])
			}
			if !view.Same(got, want) {
				t.Fatalf("in another order %x, not %x", got, want)
			}
		}
	}
}

func TestP904WhatIsMergedIsBelow(t *testing.T) {
	all := smalls([]uint64{1, 5, end}, []uint64{1, 2})
	for _, a := range all {
		for _, b := range all {
			v := merged(t, a, b)
			if view.Right(v) != api.OK || !below(a, v) || !below(b, v) {
				t.Fatalf("Merge of %x, %x: %x", a, b, v)
			}
			// And there is nothing beside it: where one is below the other, that is all.
			if below(a, b) != slices.Equal(v, b) {
				t.Fatalf("Merge of %x, %x: %x", a, b, v)
			}
		}
	}
}

func TestP904VersionsDoNotFall(t *testing.T) {
	all := smalls([]uint64{1, 2, 3}, []uint64{1, 2})
	for _, a := range all {
		low, _ := view.Version(a)
		for _, b := range all {
			if !below(a, b) {
				continue
			}
			high, k := view.Version(b)
			if k != api.OK || high < low || (high == low) != view.Same(a, b) {
				t.Fatalf("the Versions of %x, %x: %d, %d %d", a, b, low, high, k)
			}
		}
	}
}

func TestP904AVersionThatStoppedStays(t *testing.T) {
	const third = end / 3
	all := smalls([]uint64{1, 2}, []uint64{1, third, third + 1, end})
	for _, a := range all {
		low, was := view.Version(a)
		for _, b := range all {
			if !below(a, b) {
				continue
			}
			high, is := view.Version(b)
			if was == api.Stopped && is != api.Stopped {
				t.Fatalf("the Version of %x had stopped, and that of %x is %d %d", a, b, high, is)
			}
			if is == api.OK && (high < low || (high == low) != view.Same(a, b)) {
				t.Fatalf("the Versions of %x, %x: %d, %d", a, b, low, high)
			}
		}
	}
}
