package buffer_test

import (
	"cmp"
	"math"
	"math/rand"
	"reflect"
	"slices"
	"strings"
	"testing"

	"winnow/api"
	"winnow/buffer"
	"winnow/span"
)

// end is the greatest number there is.
const end uint64 = math.MaxUint64

// sp is a right span of that trace and Id.
func sp(trace, id uint64) api.Span {
	return api.Span{Trace: trace, Id: id, Service: "shop", Name: "buy"}
}

// sps is right spans of that trace, of these Ids.
func sps(trace uint64, ids ...uint64) []api.Span {
	var l []api.Span
	for _, id := range ids {
		l = append(l, sp(trace, id))
	}
	return l
}

// made is a new buffer.
func made(t *testing.T, traces, spans int, wait uint64) *buffer.Buffer {
	t.Helper()
	b, k := buffer.New(traces, spans, wait)
	if k != api.OK || b == nil {
		t.Fatalf("New(%v, %v, %v): %v, %v", traces, spans, wait, b, k)
	}
	return b
}

// puts has the buffer take the spans at now, and holds each answer against k.
func puts(t *testing.T, b *buffer.Buffer, now uint64, k api.Kind, l ...api.Span) {
	t.Helper()
	for _, s := range l {
		if got := b.Put(s, now); got != k {
			t.Fatalf("Put(%v, %v): %v, not %v", s, now, got, k)
		}
	}
}

// dues holds what is due at now against the traces.
func dues(t *testing.T, b *buffer.Buffer, now uint64, want ...uint64) {
	t.Helper()
	if got := b.Due(now); !slices.Equal(got, want) {
		t.Fatalf("Due(%v): %v, not %v", now, got, want)
	}
}

// has holds a trace that is there against the spans, and whether it is over.
func has(t *testing.T, b *buffer.Buffer, trace uint64, over bool, want ...api.Span) {
	t.Helper()
	if l, o, is := b.Get(trace); !slices.Equal(l, want) || o != over || !is {
		t.Fatalf("Get(%v): %v, %v, %v, not %v, %v", trace, l, o, is, want, over)
	}
}

// hasNot asks for a trace that is not there.
func hasNot(t *testing.T, b *buffer.Buffer, trace uint64) {
	t.Helper()
	if l, over, is := b.Get(trace); len(l) > 0 || over || is {
		t.Fatalf("Get(%v): %v, %v, %v, not nothing", trace, l, over, is)
	}
}

// traces holds all that are there against these.
func traces(t *testing.T, b *buffer.Buffer, want ...uint64) {
	t.Helper()
	if got := b.Traces(); !slices.Equal(got, want) {
		t.Fatalf("Traces: %v, not %v", got, want)
	}
}

// nothing asks a buffer, or nil, in which no trace is, in all ways.
func nothing(t *testing.T, b *buffer.Buffer) {
	t.Helper()
	for _, n := range edges() {
		hasNot(t, b, n)
		dues(t, b, n)
		if b.Delay(n, n) || len(b.Take(n)) > 0 {
			t.Fatalf("trace %v is there", n)
		}
	}
	traces(t, b)
}

// entry is what should be there of a trace.
type entry struct {
	trace, at uint64
	over      bool
	spans     []api.Span
}

// model is what a buffer should be, told apart from the program: a plain list
// of traces, by when they are due, then by themselves.
type model struct {
	most, each int
	wait       uint64
	l          []entry
}

// find is the trace's place; below 0, if it is not there.
func (m *model) find(trace uint64) int {
	return slices.IndexFunc(m.l, func(e entry) bool { return e.trace == trace })
}

// settle lays the list in order.
func (m *model) settle() {
	slices.SortFunc(m.l, func(a, b entry) int {
		return cmp.Or(cmp.Compare(a.at, b.at), cmp.Compare(a.trace, b.trace))
	})
}

// put is what Put should answer of a right span.
func (m *model) put(s api.Span, now uint64) api.Kind {
	i := m.find(s.Trace)
	if i < 0 {
		if len(m.l) == m.most {
			return api.Busy
		}
		at := now + m.wait
		if at < now { // round the end
			at = end
		}
		m.l = append(m.l, entry{trace: s.Trace, at: at, spans: []api.Span{s}})
		m.settle()
		return api.OK
	}
	for _, other := range m.l[i].spans {
		if other.Id == s.Id {
			return api.OK
		}
	}
	if len(m.l[i].spans) == m.each {
		m.l[i].over = true
		return api.Full
	}
	m.l[i].spans = append(m.l[i].spans, s)
	return api.OK
}

// delay is what Delay should answer.
func (m *model) delay(trace, until uint64) bool {
	i := m.find(trace)
	if i < 0 {
		return false
	}
	m.l[i].at = until
	m.settle()
	return true
}

// take is what Take should answer.
func (m *model) take(trace uint64) []api.Span {
	i := m.find(trace)
	if i < 0 {
		return nil
	}
	l := m.l[i].spans
	m.l = slices.Delete(m.l, i, i+1)
	return l
}

// tells holds all that the buffer can be asked against the model; asked are
// traces to ask for, whether they are there or not, and times.
func (m *model) tells(t *testing.T, b *buffer.Buffer, asked []uint64) {
	t.Helper()
	var all []uint64
	for _, e := range m.l {
		all = append(all, e.trace)
		has(t, b, e.trace, e.over, e.spans...)
	}
	for _, now := range asked {
		n := 0
		for n < len(m.l) && m.l[n].at <= now {
			n++
		}
		dues(t, b, now, all[:n]...)
		if m.find(now) < 0 {
			hasNot(t, b, now)
		}
	}
	dues(t, b, end, all...)
	slices.Sort(all)
	traces(t, b, all...)
}

// drains has the buffer give all up, and holds it against the model.
func (m *model) drains(t *testing.T, b *buffer.Buffer, asked []uint64) {
	t.Helper()
	for len(m.l) > 0 {
		trace := m.l[len(m.l)/2].trace
		want := m.take(trace)
		if l := b.Take(trace); !slices.Equal(l, want) {
			t.Fatalf("Take(%v): %v, not %v", trace, l, want)
		}
		m.tells(t, b, asked)
	}
}

// edges are numbers of which any may be a time.
func edges() []uint64 {
	return []uint64{0, 1, 2, api.MaxTime - 1, api.MaxTime, api.MaxTime + 1, math.MaxInt64, math.MaxInt64 + 1, end - 1, end}
}

func TestExample1(t *testing.T) {
	b := made(t, 1, 1, 5)
	puts(t, b, 0, api.OK, sp(1, 1))
	puts(t, b, 0, api.Busy, sp(2, 1))
	puts(t, b, 0, api.Full, sp(1, 2))
	has(t, b, 1, true, sp(1, 1))
	traces(t, b, 1)
}

func TestP1601BadArg(t *testing.T) {
	for _, traces := range []int{math.MinInt, -1, 0, 1, api.MaxTraces, api.MaxTraces + 1, math.MaxInt} {
		for _, spans := range []int{math.MinInt, -1, 0, 1, api.MaxSpans, api.MaxSpans + 1, math.MaxInt} {
			for _, wait := range edges() {
				right := traces >= 1 && traces <= 64 && spans >= 1 && spans <= 16 && wait <= 1<<40
				b, k := buffer.New(traces, spans, wait)
				if right && (b == nil || k != api.OK) || !right && (b != nil || k != api.BadArg) {
					t.Fatalf("New(%v, %v, %v): %v, %v", traces, spans, wait, b, k)
				}
			}
		}
	}
}

func TestP1601ANewOneIsEmpty(t *testing.T) {
	for _, wait := range []uint64{0, 7, api.MaxTime} {
		nothing(t, made(t, 3, 2, wait))
	}
}

func TestP1601AsManyAsItIsTold(t *testing.T) {
	for _, most := range []int{1, 2, 15, api.MaxTraces - 1, api.MaxTraces} {
		for _, each := range []int{1, 2, 7, api.MaxSpans - 1, api.MaxSpans} {
			b, m := made(t, most, each, 9), &model{most: most, each: each, wait: 9}
			for trace := uint64(1); trace <= uint64(most); trace++ {
				for id := uint64(1); id <= uint64(each); id++ {
					puts(t, b, trace, api.OK, sp(trace, id))
					m.put(sp(trace, id), trace)
				}
			}
			puts(t, b, 0, api.Busy, sp(uint64(most)+1, 1))
			m.tells(t, b, []uint64{0, 9, 10, uint64(most), uint64(most) + 1, uint64(most) + 9})
			puts(t, b, 0, api.Full, sp(1, uint64(each)+1))
			m.put(sp(1, uint64(each)+1), 0)
			m.tells(t, b, []uint64{0, 9, 10, uint64(most) + 1})
		}
	}
}

// wrongs has spans that are not right, with their kinds.
func wrongs() map[api.Span]api.Kind {
	wrong := map[api.Span]api.Kind{{}: api.BadArg}
	with := func(k api.Kind, change func(s *api.Span)) {
		s := sp(1, 2)
		change(&s)
		wrong[s] = k
	}
	with(api.BadArg, func(s *api.Span) { s.Trace = 0 })
	with(api.BadArg, func(s *api.Span) { s.Id = 0 })
	with(api.BadArg, func(s *api.Span) { s.Start = api.MaxTime + 1 })
	with(api.BadArg, func(s *api.Span) { s.Length = end })
	with(api.BadArg, func(s *api.Span) { s.Id, s.Name = 0, "" })
	with(api.BadName, func(s *api.Span) { s.Service = "" })
	with(api.BadName, func(s *api.Span) { s.Name = "\xff" })
	with(api.BadName, func(s *api.Span) { s.Name = "a\n" })
	with(api.BadName, func(s *api.Span) { s.Service = strings.Repeat("a", api.MaxName+1) })
	return wrong
}

func TestP1602RightsKind(t *testing.T) {
	empty, other, same := made(t, 1, 1, 5), made(t, 1, 1, 5), made(t, 1, 1, 5)
	puts(t, other, 0, api.OK, sp(9, 1))
	puts(t, same, 0, api.OK, sp(1, 2)) // of the Trace and the Id of most of the wrong ones
	for s, k := range wrongs() {
		for _, b := range []*buffer.Buffer{empty, other, same} {
			if span.Right(s) != k {
				t.Fatalf("Right(%v): %v", s, span.Right(s))
			}
			puts(t, b, 0, k, s)
		}
	}
	traces(t, empty)
	dues(t, empty, end)
	has(t, other, 9, false, sp(9, 1))
	has(t, same, 1, false, sp(1, 2))
	traces(t, other, 9)
	traces(t, same, 1)
}

func TestP1602OfThatIdIsThere(t *testing.T) {
	b := made(t, 1, 2, 5)
	first := api.Span{Trace: 1, Id: 7, Parent: 3, Start: 4, Length: 5, Service: "a", Name: "b", Fail: true}
	puts(t, b, 10, api.OK, first, first, sp(1, 7))
	has(t, b, 1, false, first)
	puts(t, b, 20, api.OK, sp(1, 8), sp(1, 7), first, sp(1, 8)) // no room is left, and none needed
	has(t, b, 1, false, first, sp(1, 8))
	dues(t, b, 14)
	dues(t, b, 15, 1)
	puts(t, b, 20, api.Full, sp(1, 9))
	puts(t, b, 20, api.OK, sp(1, 7), sp(1, 8))
	has(t, b, 1, true, first, sp(1, 8))
}

func TestP1602IdsAreATracesOwn(t *testing.T) {
	b := made(t, 2, 2, 5)
	puts(t, b, 0, api.OK, sp(1, 7), sp(2, 7), sp(2, 8), sp(1, 8))
	has(t, b, 1, false, sps(1, 7, 8)...)
	has(t, b, 2, false, sps(2, 7, 8)...)
}

func TestP1602Busy(t *testing.T) {
	b := made(t, 2, 2, 5)
	puts(t, b, 0, api.OK, sp(5, 1))
	puts(t, b, 1, api.OK, sp(3, 1))
	puts(t, b, 2, api.Busy, sp(4, 1), sp(4, 1), sp(end, 1))
	for _, absent := range []uint64{4, end} {
		hasNot(t, b, absent)
	}
	dues(t, b, end, 5, 3)
	traces(t, b, 3, 5)
	puts(t, b, 2, api.OK, sp(3, 2), sp(5, 2)) // of those that are there
	b.Take(5)
	puts(t, b, 3, api.OK, sp(4, 1))
	puts(t, b, 4, api.Busy, sp(5, 1))
	dues(t, b, end, 3, 4)
}

func TestP1602FullIsOverFromNowOn(t *testing.T) {
	b := made(t, 2, 2, 5)
	puts(t, b, 0, api.OK, sp(1, 1), sp(2, 1), sp(1, 2))
	has(t, b, 1, false, sps(1, 1, 2)...) // so many, but none was refused
	puts(t, b, 9, api.Full, sp(1, 3))
	has(t, b, 1, true, sps(1, 1, 2)...)
	has(t, b, 2, false, sp(2, 1))
	puts(t, b, 9, api.Full, sp(1, 3), sp(1, 4))
	has(t, b, 1, true, sps(1, 1, 2)...)
	dues(t, b, 4)
	dues(t, b, 5, 1, 2)
	b.Delay(1, 50)
	has(t, b, 1, true, sps(1, 1, 2)...)
	b.Take(1)
	puts(t, b, 9, api.OK, sp(1, 3)) // a trace that was not there is not over
	has(t, b, 1, false, sp(1, 3))
}

func TestP1602ARefusedTraceIsNotOver(t *testing.T) {
	b := made(t, 1, 1, 5)
	puts(t, b, 0, api.OK, sp(1, 1))
	puts(t, b, 0, api.Busy, sp(2, 1))
	b.Take(1)
	puts(t, b, 0, api.OK, sp(2, 1))
	has(t, b, 2, false, sp(2, 1))
}

func TestP1602DueByItsFirstSpan(t *testing.T) {
	for _, wait := range []uint64{0, 1, 7, api.MaxTime} {
		for _, now := range append(edges(), end-7, end-6, end-8, end-api.MaxTime, end-api.MaxTime+1, end-api.MaxTime-1) {
			b, m := made(t, 1, 3, wait), &model{most: 1, each: 3, wait: wait}
			for i, at := range []uint64{now, 0, end} { // the others change nothing of it
				s := sp(1, uint64(i)+1)
				s.Start = uint64(i) * 100 // nor when a span says that it began
				puts(t, b, at, api.OK, s)
				m.put(s, at)
				m.tells(t, b, append(edges(), now, now+wait, now+wait-1, now+wait+1))
			}
		}
	}
}

func TestP1602AtTheEndIfItWouldBeBeyond(t *testing.T) {
	b := made(t, 4, 1, 10)
	for trace, now := range []uint64{end - 11, end - 10, end - 9, end} {
		puts(t, b, now, api.OK, sp(uint64(trace)+1, 1))
	}
	dues(t, b, 9)
	dues(t, b, end-2)
	dues(t, b, end-1, 1)
	dues(t, b, end, 1, 2, 3, 4)
}

func TestP1603GetInTheOrderInWhichTheyCame(t *testing.T) {
	for _, ids := range [][]uint64{{1, 2, 3}, {1, 3, 2}, {2, 1, 3}, {2, 3, 1}, {3, 1, 2}, {3, 2, 1}, {end, 1, 1 << 63}} {
		b := made(t, 2, 3, 5)
		var want []api.Span
		for i, id := range ids {
			s := sp(1, id)
			s.Start = uint64(10 - i)
			puts(t, b, uint64(i), api.OK, s, sp(2, uint64(9-i)))
			want = append(want, s)
			has(t, b, 1, false, want...)
		}
		has(t, b, 2, false, sps(2, 9, 8, 7)...)
		if l := b.Take(1); !slices.Equal(l, want) {
			t.Fatalf("Take: %v, not %v", l, want)
		}
	}
}

func TestP1603DueByWhenThenByTheTrace(t *testing.T) {
	b := made(t, 5, 1, 5)
	for _, trace := range []uint64{8, 3, end, 5} {
		puts(t, b, 4, api.OK, sp(trace, 1))
	}
	puts(t, b, 3, api.OK, sp(6, 1)) // it came last, but is due first
	dues(t, b, 7)
	for range 3 { // they stay
		dues(t, b, 8, 6)
		dues(t, b, 9, 6, 3, 5, 8, end)
		dues(t, b, 0)
		dues(t, b, end, 6, 3, 5, 8, end)
		traces(t, b, 3, 5, 6, 8, end)
	}
	for _, trace := range []uint64{8, 3, end, 5, 6} {
		has(t, b, trace, false, sp(trace, 1))
	}
}

func TestP1603Delay(t *testing.T) {
	for _, until := range edges() {
		b, m := made(t, 3, 1, 5), &model{most: 3, each: 1, wait: 5}
		for trace := uint64(1); trace <= 3; trace++ {
			puts(t, b, trace, api.OK, sp(trace, 1))
			m.put(sp(trace, 1), trace)
		}
		for _, trace := range []uint64{2, 1, 2} {
			if !b.Delay(trace, until) {
				t.Fatalf("Delay(%v, %v)", trace, until)
			}
			m.delay(trace, until)
			m.tells(t, b, append(edges(), 6, 7, 8))
		}
		for _, absent := range []uint64{0, 4, end} {
			if b.Delay(absent, until) {
				t.Fatalf("Delay(%v, %v) of what is not there", absent, until)
			}
			m.tells(t, b, append(edges(), 6, 7, 8, absent))
		}
	}
}

func TestP1603DelayIsInsteadAlsoAhead(t *testing.T) {
	b := made(t, 2, 2, 5)
	puts(t, b, 10, api.OK, sp(1, 1), sp(2, 1))
	b.Delay(2, 3)
	dues(t, b, 3, 2)
	dues(t, b, 15, 2, 1)
	b.Delay(2, 20)
	dues(t, b, 19, 1)
	dues(t, b, 20, 1, 2)
	puts(t, b, 12, api.OK, sp(2, 2)) // a later span changes nothing of it
	dues(t, b, 19, 1)
	dues(t, b, 20, 1, 2)
}

func TestP1603TakeGoes(t *testing.T) {
	b := made(t, 3, 2, 5)
	puts(t, b, 0, api.OK, sp(1, 2), sp(2, 1), sp(1, 1), sp(3, 1))
	if l := b.Take(1); !slices.Equal(l, sps(1, 2, 1)) {
		t.Fatalf("Take: %v", l)
	}
	hasNot(t, b, 1)
	traces(t, b, 2, 3)
	dues(t, b, end, 2, 3)
	if l := b.Take(1); len(l) > 0 || b.Delay(1, 0) {
		t.Fatalf("Take of what went: %v", l)
	}
	for _, absent := range []uint64{0, 1, 4, end} {
		if l := b.Take(absent); len(l) > 0 {
			t.Fatalf("Take(%v) of what is not there: %v", absent, l)
		}
	}
	traces(t, b, 2, 3)
	puts(t, b, 90, api.OK, sp(1, 1)) // its first span, from now on
	has(t, b, 1, false, sp(1, 1))
	dues(t, b, 94, 2, 3)
	dues(t, b, 95, 2, 3, 1)
}

func TestP1603TracesRise(t *testing.T) {
	b := made(t, api.MaxTraces, 1, 5)
	r := rand.New(rand.NewSource(1603))
	var want []uint64
	for range api.MaxTraces {
		trace := r.Uint64()
		puts(t, b, r.Uint64(), api.OK, sp(trace, 1))
		want = append(want, trace)
		slices.Sort(want)
		for range 5 { // however its traces lie
			traces(t, b, want...)
		}
	}
}

func TestOfNil(t *testing.T) {
	var b *buffer.Buffer
	puts(t, b, 0, api.Nil, sp(1, 1), api.Span{})
	nothing(t, b)
}

func TestOfOneThatNewDidNotMake(t *testing.T) {
	b := &buffer.Buffer{}
	puts(t, b, 0, api.Busy, sp(1, 1))
	puts(t, b, 0, api.BadArg, api.Span{})
	nothing(t, b)
}

// spoil writes into all of a list, its spare room too.
func spoil[T any](l []T, x T) {
	l = l[:cap(l)]
	for i := range l {
		l[i] = x
	}
}

func TestWhatIsHandedOutIsNew(t *testing.T) {
	b, m := made(t, 4, 8, 5), &model{most: 4, each: 8, wait: 5}
	for id := uint64(1); id <= 5; id++ { // so that lists have spare room
		for trace := uint64(1); trace <= 4; trace++ {
			puts(t, b, trace, api.OK, sp(trace, id))
			m.put(sp(trace, id), trace)
		}
	}
	for range 3 {
		for trace := uint64(1); trace <= 4; trace++ {
			l, _, _ := b.Get(trace)
			spoil(l, sp(9, 9))
			m.tells(t, b, edges())
		}
		spoil(b.Due(7), 9)
		spoil(b.Due(end), 9)
		spoil(b.Traces(), 9)
		m.tells(t, b, edges())
	}
	l, _, _ := b.Get(1)
	puts(t, b, 9, api.OK, sp(1, 6))
	if !slices.Equal(l, sps(1, 1, 2, 3, 4, 5)) {
		t.Fatalf("a list that was handed out changes: %v", l)
	}
	l = b.Take(1)
	puts(t, b, 9, api.OK, sp(1, 7), sp(1, 8))
	if !slices.Equal(l, sps(1, 1, 2, 3, 4, 5, 6)) {
		t.Fatalf("what was taken changes: %v", l)
	}
	spoil(l, sp(9, 9))
	has(t, b, 1, false, sps(1, 7, 8)...)
}

func TestBuffersShareNothing(t *testing.T) {
	a, b := made(t, 2, 2, 5), made(t, 2, 2, 5)
	puts(t, a, 0, api.OK, sp(1, 1), sp(2, 1))
	puts(t, b, 0, api.OK, sp(1, 2), sp(3, 1))
	a.Delay(1, 50)
	b.Take(3)
	has(t, a, 1, false, sp(1, 1))
	has(t, b, 1, false, sp(1, 2))
	traces(t, a, 1, 2)
	traces(t, b, 1)
	dues(t, a, 5, 2)
	dues(t, b, 5, 1)
}

func TestP1604ItsCallsAreTheChaptersAlone(t *testing.T) {
	var names []string
	of := reflect.TypeFor[*buffer.Buffer]()
	for i := range of.NumMethod() {
		names = append(names, of.Method(i).Name)
	}
	// Another one, such as a heap's, could have a trace due that was not put.
	if want := []string{"Delay", "Due", "Get", "Put", "Take", "Traces"}; !slices.Equal(names, want) {
		t.Fatalf("a buffer has %v, not %v", names, want)
	}
}

// step is one of the calls that change a buffer.
type step struct {
	what  byte // 'p'ut, 'd'elay, 't'ake
	trace uint64
	id    uint64
	at    uint64
}

// do has the buffer, and the model, do the step, and holds what they answer
// against one another.
func do(t *testing.T, b *buffer.Buffer, m *model, s step) {
	t.Helper()
	switch s.what {
	case 'p':
		one := sp(s.trace, s.id)
		one.Length = s.at % api.MaxTime // so that those of one Id are not alike
		puts(t, b, s.at, m.put(one, s.at), one)
	case 'd':
		want := m.delay(s.trace, s.at)
		if is := b.Delay(s.trace, s.at); is != want {
			t.Fatalf("Delay(%v, %v): %v, not %v", s.trace, s.at, is, want)
		}
	default:
		want := m.take(s.trace)
		if l := b.Take(s.trace); !slices.Equal(l, want) {
			t.Fatalf("Take(%v): %v, not %v", s.trace, l, want)
		}
	}
}

func TestP1604AllShortRuns(t *testing.T) {
	var steps []step
	asked := []uint64{1, 2, 3}
	for _, trace := range asked {
		steps = append(steps, step{'p', trace, 1, 0}, step{'p', trace, 2, 1}, step{'t', trace, 0, 0})
	}
	steps = append(steps, step{'p', 1, 3, 2}, step{'d', 1, 0, 3}, step{'d', 2, 0, 1})
	const length = 4
	runs := 1
	for range length {
		runs *= len(steps)
	}
	for _, m := range []model{{1, 1, 2, nil}, {1, 2, 1, nil}, {2, 1, 0, nil}, {2, 2, 1, nil}} {
		for run := range runs {
			m, b := m, made(t, m.most, m.each, m.wait)
			for range length {
				do(t, b, &m, steps[run%len(steps)])
				m.tells(t, b, asked)
				run /= len(steps)
			}
		}
	}
}

func TestP1604LongRuns(t *testing.T) {
	r := rand.New(rand.NewSource(1604))
	for range 200 {
		m := &model{most: 1 + r.Intn(api.MaxTraces), each: 1 + r.Intn(api.MaxSpans), wait: uint64(r.Intn(30))}
		if r.Intn(4) == 0 {
			m.wait = api.MaxTime
		}
		b := made(t, m.most, m.each, m.wait)
		few := 1 + r.Intn(2*m.most)
		for range 300 {
			s := step{"pppppppddt"[r.Intn(10)], 1 + uint64(r.Intn(few)), 1 + uint64(r.Intn(2*m.each)), uint64(r.Intn(50))}
			if r.Intn(8) == 0 {
				s.at = edges()[r.Intn(len(edges()))]
			}
			do(t, b, m, s)
			m.tells(t, b, []uint64{0, s.trace, s.at, s.at + m.wait, uint64(few), api.MaxTime})
		}
		m.drains(t, b, []uint64{0, 1, 30, api.MaxTime})
	}
}

func TestP1604WhatIsThereWasPut(t *testing.T) {
	r := rand.New(rand.NewSource(16))
	for range 100 {
		const most, each = 5, 3
		b := made(t, most, each, uint64(r.Intn(5)))
		put := map[api.Span]int{} // taken by the buffer, and not taken out since
		for now := range uint64(300) {
			s := sp(1+uint64(r.Intn(8)), 1+uint64(r.Intn(6)))
			s.Fail = r.Intn(2) == 0
			before, _, _ := b.Get(s.Trace)
			if b.Put(s, now) == api.OK && !slices.ContainsFunc(before, func(o api.Span) bool { return o.Id == s.Id }) {
				put[s]++
			}
			for _, trace := range b.Due(now) {
				if r.Intn(3) > 0 {
					b.Delay(trace, now+uint64(r.Intn(9)))
					continue
				}
				for _, out := range b.Take(trace) {
					put[out]--
				}
			}
			holds(t, b, put, most, each)
		}
	}
}

// holds looks whether the buffer has what was put, each once, and no more than
// may be.
func holds(t *testing.T, b *buffer.Buffer, put map[api.Span]int, most, each int) {
	t.Helper()
	all, n := b.Traces(), 0
	if len(all) > most {
		t.Fatalf("%v traces", len(all))
	}
	for _, trace := range all {
		l, _, is := b.Get(trace)
		if !is || len(l) == 0 || len(l) > each {
			t.Fatalf("trace %v has %v", trace, l)
		}
		for i, s := range l {
			twice := slices.ContainsFunc(l[:i], func(o api.Span) bool { return o.Id == s.Id })
			if s.Trace != trace || put[s] != 1 || twice {
				t.Fatalf("trace %v has %v, which was put %v times", trace, s, put[s])
			}
		}
		n += len(l)
	}
	for _, times := range put {
		n -= times
	}
	if n != 0 {
		t.Fatalf("%v more spans than were put", n)
	}
}
