package timers_test

import (
	"math"
	"math/rand"
	"slices"
	"testing"

	"winnow/timers"
)

// end is the greatest number there is.
const end uint64 = math.MaxUint64

// due is a key, and when it is due.
type due struct{ key, at uint64 }

// list is what should be due, in order, told apart from the program: a plain
// list, gone through from its beginning each time.
type list []due

// find is the key's place, and whether it has one.
func (l list) find(key uint64) (int, bool) {
	for i, d := range l {
		if d.key == key {
			return i, true
		}
	}
	return 0, false
}

// without is the list without the key.
func (l list) without(key uint64) list {
	var rest list
	for _, d := range l {
		if d.key != key {
			rest = append(rest, d)
		}
	}
	return rest
}

// with is the list with the key due at at.
func (l list) with(key, at uint64) list {
	l = l.without(key)
	i := 0
	for i < len(l) && (l[i].at < at || l[i].at == at && l[i].key < key) {
		i++
	}
	return slices.Insert(l, i, due{key, at})
}

// pop is the keys due at now or before, and the list without them.
func (l list) pop(now uint64) ([]uint64, list) {
	var keys []uint64
	for len(l) > 0 && l[0].at <= now {
		keys = append(keys, l[0].key)
		l = l[1:]
	}
	return keys, l
}

// tells holds all that the heap can be asked against the list; asked are keys
// to ask for, whether they are due or not.
func tells(t *testing.T, h *timers.Heap, want list, asked []uint64) {
	t.Helper()
	if n := h.Len(); n != len(want) {
		t.Fatalf("Len: %v, not %v", n, len(want))
	}
	for _, key := range asked {
		at, is := h.At(key)
		i, has := want.find(key)
		if is != has || has && at != want[i].at || !has && at != 0 {
			t.Fatalf("At(%v): %v, %v of %v", key, at, is, want)
		}
	}
	key, at, is := h.Next()
	if len(want) == 0 {
		if key != 0 || at != 0 || is {
			t.Fatalf("Next of nothing: %v, %v, %v", key, at, is)
		}
		return
	}
	if key != want[0].key || at != want[0].at || !is {
		t.Fatalf("Next: %v, %v, %v of %v", key, at, is, want)
	}
}

// pops has the heap pop at now, and holds it against the keys.
func pops(t *testing.T, h *timers.Heap, now uint64, want ...uint64) {
	t.Helper()
	if got := h.Pop(now); !slices.Equal(got, want) {
		t.Fatalf("Pop(%v): %v, not %v", now, got, want)
	}
}

// drains has the heap tell its keys one by one, then pop them all at once.
func drains(t *testing.T, h *timers.Heap, want list) {
	t.Helper()
	keys, _ := want.pop(end)
	pops(t, h, end, keys...)
	tells(t, h, nil, keys)
}

// made is a heap of these.
func made(l ...due) *timers.Heap {
	h := &timers.Heap{}
	for _, d := range l {
		h.Set(d.key, d.at)
	}
	return h
}

// edges are numbers of which any may be a key, or a time.
func edges() []uint64 {
	return []uint64{0, 1, 2, math.MaxInt64, math.MaxInt64 + 1, end - 1, end}
}

func TestExample1(t *testing.T) {
	var h timers.Heap
	h.Set(5, 3)
	h.Set(4, 3)
	pops(t, &h, 3, 4, 5)
}

func TestP1501SetSaysWhenAKeyIsDue(t *testing.T) {
	for _, key := range edges() {
		for _, at := range edges() {
			h := made(due{key, at})
			tells(t, h, list{{key, at}}, edges())
		}
	}
}

func TestP1501SetIsInsteadOfWhenItWas(t *testing.T) {
	for _, was := range edges() {
		for _, at := range edges() {
			for _, other := range edges() {
				h := made(due{7, was}, due{8, other}, due{7, at})
				want := list{}.with(8, other).with(7, at)
				tells(t, h, want, []uint64{7, 8})
				drains(t, h, want)
			}
		}
	}
}

func TestP1501DelTellsWhetherItWas(t *testing.T) {
	h := made(due{0, 3}, due{5, 0}, due{end, end})
	for _, absent := range []uint64{1, 3, 4, end - 1} {
		if h.Del(absent) {
			t.Fatalf("Del(%v) of what is not there", absent)
		}
	}
	tells(t, h, list{{5, 0}, {0, 3}, {end, end}}, edges())
	for _, key := range []uint64{0, end, 5} {
		if !h.Del(key) || h.Del(key) {
			t.Fatalf("Del(%v), twice", key)
		}
		if at, is := h.At(key); at != 0 || is {
			t.Fatalf("At(%v) behind a Del: %v, %v", key, at, is)
		}
	}
	tells(t, h, nil, edges())
}

func TestP1501DelTakesOneAlone(t *testing.T) {
	const n = 40
	for gone := range uint64(n) {
		h, want := &timers.Heap{}, list{}
		for key := range uint64(n) {
			at := key * 17 % 23 // so that some are due at one time
			h.Set(key, at)
			want = want.with(key, at)
		}
		if !h.Del(gone) {
			t.Fatalf("Del(%v)", gone)
		}
		want = want.without(gone)
		tells(t, h, want, []uint64{gone, 0, n - 1, n})
		drains(t, h, want)
	}
}

func TestP1501ADeletedKeyComesAgain(t *testing.T) {
	h := made(due{1, 5}, due{2, 6})
	h.Del(1)
	h.Set(1, 9)
	tells(t, h, list{{2, 6}, {1, 9}}, []uint64{1, 2})
	pops(t, h, 8, 2)
	h.Set(2, 10)
	tells(t, h, list{{1, 9}, {2, 10}}, []uint64{1, 2})
	drains(t, h, list{{1, 9}, {2, 10}})
}

func TestP1501LenCountsKeys(t *testing.T) {
	h := &timers.Heap{}
	for i := range uint64(1000) {
		h.Set(i%100, i) // each key ten times
	}
	if n := h.Len(); n != 100 {
		t.Fatalf("Len: %v", n)
	}
	h.Del(0)
	h.Del(100)
	if n := h.Len(); n != 99 {
		t.Fatalf("Len behind a Del: %v", n)
	}
	h.Pop(949) // keys 1 to 49, that were set last at 901 to 949
	if n := h.Len(); n != 50 {
		t.Fatalf("Len behind a Pop: %v", n)
	}
}

func TestP1502NextIsTheFirstOfThoseAtOneTimeTheLeast(t *testing.T) {
	for _, keys := range [][]uint64{{1, 2, 3}, {1, 3, 2}, {2, 1, 3}, {2, 3, 1}, {3, 1, 2}, {3, 2, 1}, {end, 0, 1 << 63}} {
		h, want := &timers.Heap{}, list{}
		for _, key := range keys {
			h.Set(key, 4)
			want = want.with(key, 4)
			tells(t, h, want, keys)
		}
		h.Set(9, 3) // a greater key, but due ahead of them
		want = want.with(9, 3)
		tells(t, h, want, keys)
		drains(t, h, want)
	}
}

func TestP1502PopsAtNowAndBefore(t *testing.T) {
	h := made(due{1, 0}, due{2, 4}, due{3, 5}, due{4, 6}, due{5, end})
	pops(t, h, 0, 1)
	pops(t, h, 0)
	pops(t, h, 3)
	pops(t, h, 5, 2, 3)
	pops(t, h, 4)
	tells(t, h, list{{4, 6}, {5, end}}, []uint64{1, 2, 3, 4, 5})
	pops(t, h, end-1, 4)
	pops(t, h, end, 5)
	pops(t, h, end)
	tells(t, h, nil, []uint64{1, 2, 3, 4, 5})
}

func TestP1502TimesMayGoBack(t *testing.T) {
	h := made(due{1, 10}, due{2, 20})
	pops(t, h, 15, 1)
	h.Set(3, 1)
	pops(t, h, 0)
	pops(t, h, 1, 3)
	pops(t, h, 20, 2)
}

func TestP1502NextTakesNothing(t *testing.T) {
	h := made(due{3, 3}, due{1, 3})
	for range 3 {
		tells(t, h, list{{1, 3}, {3, 3}}, []uint64{1, 2, 3})
	}
	drains(t, h, list{{1, 3}, {3, 3}})
}

func TestOfNilAndOfTheZeroHeap(t *testing.T) {
	var none *timers.Heap
	none.Set(1, 2)
	for _, h := range []*timers.Heap{none, {}} {
		tells(t, h, nil, edges())
		for _, n := range edges() {
			if h.Del(n) {
				t.Fatalf("Del(%v) of nothing", n)
			}
			pops(t, h, n)
		}
		tells(t, h, nil, edges())
	}
}

func TestWhatIsHandedOutIsNew(t *testing.T) {
	h := made(due{1, 1}, due{2, 2}, due{3, 3}, due{4, 4}, due{5, 5})
	l := h.Pop(3)
	for i := range l[:cap(l)] {
		l[:cap(l)][i] = 9
	}
	m := h.Pop(4)
	for i := range m[:cap(m)] {
		m[:cap(m)][i] = 8
	}
	if !slices.Equal(l, []uint64{9, 9, 9}) {
		t.Fatalf("a second list writes into the first: %v", l)
	}
	tells(t, h, list{{5, 5}}, []uint64{1, 2, 3, 4, 5, 8, 9})
	drains(t, h, list{{5, 5}})
}

func TestHeapsShareNothing(t *testing.T) {
	a, b := made(due{1, 1}), made(due{1, 2}, due{2, 1})
	a.Set(3, 0)
	b.Del(1)
	tells(t, a, list{{3, 0}, {1, 1}}, []uint64{1, 2, 3})
	tells(t, b, list{{2, 1}}, []uint64{1, 2, 3})
	drains(t, a, list{{3, 0}, {1, 1}})
	tells(t, b, list{{2, 1}}, []uint64{1, 2, 3})
}

// step is one of the calls that change a heap.
type step struct {
	what    byte // 's'et, 'd'el, 'p'op
	key, at uint64
}

// take has the heap, and the list, take the step, and holds what they answer
// against one another.
func take(t *testing.T, h *timers.Heap, want list, s step) list {
	t.Helper()
	switch s.what {
	case 's':
		h.Set(s.key, s.at)
		return want.with(s.key, s.at)
	case 'd':
		if _, has := want.find(s.key); h.Del(s.key) != has {
			t.Fatalf("Del(%v) of %v", s.key, want)
		}
		return want.without(s.key)
	default:
		keys, rest := want.pop(s.at)
		pops(t, h, s.at, keys...)
		return rest
	}
}

func TestP1503AllShortRuns(t *testing.T) {
	var steps []step
	asked := []uint64{0, 1, 2}
	for _, key := range asked {
		steps = append(steps, step{'s', key, 0}, step{'s', key, 1}, step{'d', key, 0})
	}
	steps = append(steps, step{'p', 0, 0}, step{'p', 0, 1})
	const length = 5
	runs := 1
	for range length {
		runs *= len(steps)
	}
	for run := range runs {
		h, want := &timers.Heap{}, list(nil)
		for range length {
			want = take(t, h, want, steps[run%len(steps)])
			tells(t, h, want, asked)
			run /= len(steps)
		}
		drains(t, h, want)
	}
}

// some is a number from the first few, or one of the edges.
func some(r *rand.Rand, few int) uint64 {
	if r.Intn(8) == 0 {
		return edges()[r.Intn(len(edges()))]
	}
	return uint64(r.Intn(few))
}

func TestP1503LongRuns(t *testing.T) {
	r := rand.New(rand.NewSource(1503))
	for range 300 {
		h, want := &timers.Heap{}, list(nil)
		few := 1 + r.Intn(60)
		asked := append(edges(), 3, 5, uint64(few))
		for range 200 {
			s := step{what: "ssssssdddp"[r.Intn(10)], key: some(r, few), at: some(r, few)}
			if s.what == 'p' {
				s.at /= 4 // most of them stay
			}
			want = take(t, h, want, s)
			tells(t, h, want, asked)
		}
		drains(t, h, want)
	}
}

func TestP1503EachOnceInOrder(t *testing.T) {
	r := rand.New(rand.NewSource(15))
	for range 100 {
		h, last := &timers.Heap{}, map[uint64]uint64{}
		for range 500 {
			key, at := uint64(r.Intn(200)), uint64(r.Intn(50))
			h.Set(key, at)
			last[key] = at
			if gone := uint64(r.Intn(200)); r.Intn(3) == 0 {
				h.Del(gone)
				delete(last, gone)
			}
		}
		var before due
		for now := uint64(0); now < 50; now += 1 + uint64(r.Intn(9)) {
			for _, key := range h.Pop(now) {
				at, is := last[key]
				if !is || at > now || at < before.at || at == before.at && key <= before.key && before != (due{}) {
					t.Fatalf("Pop(%v): %v, due at %v (%v), behind %v", now, key, at, is, before)
				}
				before = due{key, at}
				delete(last, key)
			}
			for key, at := range last {
				if at <= now {
					t.Fatalf("Pop(%v) left %v, due at %v", now, key, at)
				}
			}
		}
	}
}
