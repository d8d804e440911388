package proposer_test

import (
	"math"
	"math/rand"
	"reflect"
	"slices"
	"testing"

	"winnow/api"
	"winnow/message"
	"winnow/proposer"
	"winnow/register"
)

// end is the greatest number there is.
const end uint64 = math.MaxUint64

// of is the ballot with that N, of that node.
func of(n, node uint64) api.Ballot { return api.Ballot{N: n, Node: node} }

// below tells whether a is below b.
func below(a, b api.Ballot) bool { return a.N < b.N || a.N == b.N && a.Node < b.Node }

// told has the verdicts that can be proposed.
func told() []api.Verdict { return []api.Verdict{api.Keep, api.Drop, api.Over} }

// first has the replicas from 1 to n.
func first(n int) []uint64 {
	var l []uint64
	for i := range n {
		l = append(l, uint64(i+1))
	}
	return l
}

// promise is a replica's that has taken nothing.
func promise(trace uint64, b api.Ballot) api.Packet {
	return api.Packet{Kind: api.Promise, Trace: trace, B: b, Ok: true}
}

// promised is one of a replica that has taken v under seen.
func promised(trace uint64, b, seen api.Ballot, v api.Verdict) api.Packet {
	return api.Packet{Kind: api.Promise, Trace: trace, B: b, Ok: true, Seen: seen, V: v}
}

// accepted is the Accepted of a replica that has taken what was proposed.
func accepted(trace uint64, b api.Ballot) api.Packet {
	return api.Packet{Kind: api.Accepted, Trace: trace, B: b, Ok: true}
}

// refused is p's answer of a replica that has promised seen.
func refused(p api.Packet, seen api.Ballot) api.Packet {
	return api.Packet{Kind: p.Kind, Trace: p.Trace, B: p.B, Seen: seen}
}

// reply is an answer, and whose.
type reply struct {
	from uint64
	p    api.Packet
}

// proposal is a run, beside all that it should have heard, told apart from the
// program.
type proposal struct {
	run      *proposer.Run
	trace    uint64
	b        api.Ballot
	want     api.Verdict
	replicas []uint64
	promises []reply
	accepts  []reply
	against  []reply // at most one
}

// started is a proposal that must start.
func started(t *testing.T, trace uint64, b api.Ballot, want api.Verdict, replicas []uint64) *proposal {
	t.Helper()
	run, k := proposer.Start(trace, b, want, replicas)
	if run == nil || k != api.OK {
		t.Fatalf("Start of %d, %v, %d, %v: %v %d", trace, b, want, replicas, run, k)
	}
	return &proposal{run: run, trace: trace, b: b, want: want, replicas: slices.Clone(replicas)}
}

// most tells whether so many replies are of more than half.
func (p *proposal) most(l []reply) bool { return 2*len(l) > len(p.replicas) }

// over tells whether nothing is asked any more.
func (p *proposal) over() bool { return len(p.against) > 0 || p.most(p.accepts) }

// v is what should be proposed.
func (p *proposal) v() api.Verdict {
	v, seen := p.want, api.Ballot{}
	for _, l := range p.promises {
		if l.p.V != api.None && below(seen, l.p.Seen) {
			v, seen = l.p.V, l.p.Seen
		}
	}
	return v
}

// ask is what should be asked.
func (p *proposal) ask() api.Packet {
	switch {
	case p.over():
		return api.Packet{}
	case p.most(p.promises):
		return api.Packet{Kind: api.Accept, Trace: p.trace, B: p.b, V: p.v()}
	}
	return api.Packet{Kind: api.Prepare, Trace: p.trace, B: p.b}
}

// open is who should not have answered that yet.
func (p *proposal) open() []uint64 {
	if p.over() {
		return nil
	}
	l := p.promises
	if p.most(p.promises) {
		l = p.accepts
	}
	return slices.DeleteFunc(slices.Clone(p.replicas), func(id uint64) bool {
		return slices.ContainsFunc(l, func(r reply) bool { return r.from == id })
	})
}

// hear takes in the answer, if it should be heard.
func (p *proposal) hear(from uint64, a api.Packet) bool {
	kind := api.Promise
	if p.most(p.promises) {
		kind = api.Accepted
	}
	if !slices.Contains(p.open(), from) || message.Right(a) != api.OK || a.Kind != kind || a.Trace != p.trace || a.B != p.b {
		return false
	}
	switch {
	case !a.Ok:
		p.against = append(p.against, reply{from, a})
	case kind == api.Accepted:
		p.accepts = append(p.accepts, reply{from, a})
	default:
		p.promises = append(p.promises, reply{from, a})
	}
	return true
}

// is holds all that the run tells to what it should.
func (p *proposal) is(t *testing.T) {
	t.Helper()
	if got, want := p.run.Ask(), p.ask(); !reflect.DeepEqual(got, want) {
		t.Errorf("Ask: %v, not %v", got, want)
	}
	if got, want := p.run.Open(), p.open(); !slices.Equal(got, want) {
		t.Errorf("Open: %v, not %v", got, want)
	}
	v, chosen := api.None, p.most(p.accepts)
	if chosen {
		v = p.v()
	}
	if got, is := p.run.Chosen(); got != v || is != chosen {
		t.Errorf("Chosen: %d %v, not %d %v", got, is, v, chosen)
	}
	b, lost := api.Ballot{}, len(p.against) > 0
	if lost {
		b = p.against[0].p.Seen
	}
	if got, is := p.run.Lost(); got != b || is != lost {
		t.Errorf("Lost: %v %v, not %v %v", got, is, b, lost)
	}
	if got := p.run.B(); got != p.b {
		t.Errorf("B: %v, not %v", got, p.b)
	}
}

// hears holds Hear to what it should answer, and then all that the run tells.
func (p *proposal) hears(t *testing.T, from uint64, a api.Packet, want bool) {
	t.Helper()
	if should := p.hear(from, a); should != want {
		t.Fatalf("%v of %d should be heard: %v, not %v", a, from, should, want)
	}
	if got := p.run.Hear(from, a); got != want {
		t.Errorf("Hear of %v of %d: %v, not %v", a, from, got, want)
	}
	p.is(t)
}

// fails holds Start to BadArg, and to no run.
func fails(t *testing.T, trace uint64, b api.Ballot, want api.Verdict, replicas []uint64) {
	t.Helper()
	if run, k := proposer.Start(trace, b, want, replicas); run != nil || k != api.BadArg {
		t.Errorf("Start of %d, %v, %d, %v: %v %d, not nil and 1", trace, b, want, replicas, run, k)
	}
}

// rights has right lists of replicas.
func rights() [][]uint64 {
	l := [][]uint64{{end}, {1, end}, {end - 1, end}, {2, 5, 9, 1 << 63}}
	for n := range api.MaxReplicas {
		l = append(l, first(n+1))
	}
	return append(l, []uint64{1 << 20, 1 << 30, 1 << 40, 1 << 50, 1 << 60, 1 << 62, 1 << 63})
}

func TestP1401Start(t *testing.T) {
	for _, l := range rights() {
		for _, v := range told() {
			started(t, 1, of(1, 1), v, l).is(t)
			started(t, end, of(end, end), v, l).is(t)
			started(t, 5, of(1, 0), v, l).is(t) // a ballot of node 0
		}
	}
}

func TestP1401StartOfBadArguments(t *testing.T) {
	three := first(3)
	fails(t, 0, of(1, 1), api.Keep, three)
	fails(t, 1, of(0, 0), api.Keep, three)
	fails(t, 1, of(0, 1), api.Keep, three)
	fails(t, 1, of(0, end), api.Keep, three)
	for _, v := range []api.Verdict{math.MinInt, -1, api.None, api.Over + 1, 257, math.MaxInt} {
		fails(t, 1, of(1, 1), v, three)
	}
	fails(t, 1, of(1, 1), api.Keep, nil)
	fails(t, 1, of(1, 1), api.Keep, []uint64{})
	for _, l := range [][]uint64{{0}, {0, 1}, {0, 1, 2}, {1, 0}, {1, 1}, {2, 1}, {1, 2, 2}, {1, 3, 2}, {1, 2, 0}, {end, end}, {end, 1}, {1, 2, 3, 4, 5, 6, 6}} {
		fails(t, 1, of(1, 1), api.Keep, l)
	}
	fails(t, 1, of(1, 1), api.Keep, first(api.MaxReplicas+1))
	fails(t, 1, of(1, 1), api.Keep, make([]uint64, 100000))
	fails(t, 1, of(1, 1), api.Keep, first(100000))
	fails(t, 0, of(0, 0), api.None, nil)
}

func TestP1401StartKeepsNothingOfTheList(t *testing.T) {
	room := append(first(3), 77, 78)
	p := started(t, 1, of(1, 1), api.Keep, room[:3])
	if !slices.Equal(room, []uint64{1, 2, 3, 77, 78}) {
		t.Errorf("Start made %v of the list", room)
	}
	copy(room, []uint64{9, 9, 9})
	p.hears(t, 9, promise(1, of(1, 1)), false)
	p.hears(t, 1, promise(1, of(1, 1)), true)
	if !slices.Equal(room, []uint64{9, 9, 9, 77, 78}) {
		t.Errorf("the run made %v of the list", room)
	}
}

// TestP1402AskAndOpen goes through whole runs of any number of replicas: each
// half ends with more than half of them, and not ahead of that.
func TestP1402AskAndOpen(t *testing.T) {
	for _, l := range rights() {
		for _, v := range told() {
			b := of(4, 9)
			p := started(t, 8, b, v, l)
			for i := range len(l)/2 + 1 {
				if got := p.run.Ask(); !reflect.DeepEqual(got, api.Packet{Kind: api.Prepare, Trace: 8, B: b}) {
					t.Errorf("Ask behind %d promises of %d: %v", i, len(l), got)
				}
				if got := p.run.Open(); !slices.Equal(got, l[:len(l)-i]) {
					t.Errorf("Open behind %d promises of %d: %v", i, len(l), got)
				}
				p.hears(t, l[len(l)-1-i], promise(8, b), true)
			}
			for i := range len(l)/2 + 1 {
				if got := p.run.Ask(); !reflect.DeepEqual(got, api.Packet{Kind: api.Accept, Trace: 8, B: b, V: v}) {
					t.Errorf("Ask behind %d that accepted, of %d: %v", i, len(l), got)
				}
				if got := p.run.Open(); !slices.Equal(got, l[i:]) {
					t.Errorf("Open behind %d that accepted, of %d: %v", i, len(l), got)
				}
				p.hears(t, l[i], accepted(8, b), true)
			}
			if got := p.run.Ask(); !reflect.DeepEqual(got, api.Packet{}) {
				t.Errorf("Ask of one that has chosen: %v", got)
			}
			if got := p.run.Open(); len(got) != 0 {
				t.Errorf("Open of one that has chosen: %v", got)
			}
		}
	}
}

func TestP1402AskAndOpenOfOneThatIsLost(t *testing.T) {
	for n := range api.MaxReplicas {
		b := of(4, 9)
		p := started(t, 8, b, api.Keep, first(n+1))
		p.hears(t, 1, refused(promise(8, b), of(5, 1)), true)
		if got := p.run.Ask(); !reflect.DeepEqual(got, api.Packet{}) || len(p.run.Open()) != 0 {
			t.Errorf("Ask and Open of one that is lost: %v %v", got, p.run.Open())
		}
	}
}

func TestP1402AsksAreRight(t *testing.T) {
	p := started(t, end, of(end, 0), api.Over, first(1))
	for _, a := range []api.Packet{promise(end, of(end, 0)), accepted(end, of(end, 0))} {
		if k := message.Right(p.run.Ask()); k != api.OK {
			t.Errorf("Ask: %v: %d", p.run.Ask(), k)
		}
		p.hears(t, 1, a, true)
	}
}

func TestP1402OpenIsNewMemory(t *testing.T) {
	p := started(t, 1, of(1, 1), api.Keep, first(3))
	l := p.run.Open()
	l = append(l[:0], 7, 7, 7)
	for i := range l[:cap(l)] {
		l[:cap(l)][i] = 9
	}
	p.is(t)
	p.hears(t, 2, promise(1, of(1, 1)), true)
	l = p.run.Open()
	for i := range l[:cap(l)] {
		l[:cap(l)][i] = 9
	}
	p.is(t)
	p.hears(t, 9, promise(1, of(1, 1)), false)
	p.hears(t, 3, promise(1, of(1, 1)), true)
	p.hears(t, 1, accepted(1, of(1, 1)), true)
}

// foreign has answers that are not to a run of trace 5 and ballot 3 of 2, though
// little is wrong with them; a is its answer that is.
func foreign(a api.Packet) []api.Packet {
	change := func(f func(p *api.Packet)) api.Packet {
		p := a
		f(&p)
		return p
	}
	return []api.Packet{
		{},
		change(func(p *api.Packet) { p.Trace = 6 }),
		change(func(p *api.Packet) { p.Trace = 0 }),
		change(func(p *api.Packet) { p.B = of(3, 3) }),
		change(func(p *api.Packet) { p.B = of(2, 2) }),
		change(func(p *api.Packet) { p.B = of(4, 2) }),
		change(func(p *api.Packet) { p.B = api.Ballot{} }),
		change(func(p *api.Packet) { p.Kind = api.Prepare }),
		change(func(p *api.Packet) { p.Kind = api.Accept }),
		change(func(p *api.Packet) { p.Kind, p.V = api.Accept, api.Keep }),
		change(func(p *api.Packet) { p.Kind, p.B, p.Ok, p.V = api.Tell, api.Ballot{}, false, api.Keep }),
		change(func(p *api.Packet) { p.Kind = -1 }),
		change(func(p *api.Packet) { p.Kind = 11 }),
		change(func(p *api.Packet) { p.Kind += 256 }),
		change(func(p *api.Packet) { p.Ok = false }),        // with no ballot that stands against it
		change(func(p *api.Packet) { p.V = api.Keep }),      // taken under none
		change(func(p *api.Packet) { p.Seen = of(1, 1) }),   // where nothing was taken
		change(func(p *api.Packet) { p.Ids = []uint64{1} }), // of an Ack
		change(func(p *api.Packet) { p.V, p.Seen = 4, of(1, 1) }),
		change(func(p *api.Packet) { p.V, p.Seen = -1, of(1, 1) }),
		change(func(p *api.Packet) { p.Ok, p.V, p.Seen = false, api.Keep, of(4, 1) }),
		change(func(p *api.Packet) { p.Members = []api.Member{{Id: 1, Inc: 1}} }),
		change(func(p *api.Packet) { p.Spans = []api.Span{{Trace: 5, Id: 1, Service: "a", Name: "a"}} }),
	}
}

func TestP1403HearsNothingForeign(t *testing.T) {
	b := of(3, 2)
	p := started(t, 5, b, api.Keep, []uint64{2, 4, 6})
	wrong := func(a, other api.Packet) {
		t.Helper()
		for _, from := range []uint64{0, 1, 2, 3, 4, 5, 6, 7, end} {
			for _, f := range foreign(a) {
				p.hears(t, from, f, false)
			}
			p.hears(t, from, other, false)                    // of the other half
			p.hears(t, from, refused(other, of(9, 9)), false) // also if it refuses
		}
		for _, from := range []uint64{0, 1, 3, 5, 7, end} {
			p.hears(t, from, a, false)
			p.hears(t, from, refused(a, of(9, 9)), false)
		}
	}
	wrong(promise(5, b), accepted(5, b))
	p.hears(t, 4, promise(5, b), true)
	wrong(promise(5, b), accepted(5, b))
	p.hears(t, 4, promise(5, b), false)
	p.hears(t, 4, promised(5, b, of(1, 1), api.Drop), false)
	p.hears(t, 4, refused(promise(5, b), of(9, 9)), false) // it has answered that
	p.hears(t, 2, promise(5, b), true)
	wrong(accepted(5, b), promise(5, b))
	wrong(accepted(5, b), promised(5, b, of(2, 1), api.Drop))
	p.hears(t, 6, accepted(5, b), true)
	wrong(accepted(5, b), promise(5, b))
	p.hears(t, 6, accepted(5, b), false)
	p.hears(t, 6, refused(accepted(5, b), of(9, 9)), false)
	p.hears(t, 2, accepted(5, b), true)
	for _, from := range []uint64{2, 4, 6} { // it has chosen
		for _, a := range []api.Packet{promise(5, b), accepted(5, b)} {
			p.hears(t, from, a, false)
			p.hears(t, from, refused(a, of(9, 9)), false)
		}
	}
}

func TestP1403LostByWhoRefuses(t *testing.T) {
	b := of(3, 2)
	for _, seen := range []api.Ballot{of(3, 3), of(4, 0), of(end, end), of(0, 1), of(1, 1), b} {
		for halves := range 2 {
			for heard := range 2 {
				p := started(t, 5, b, api.Keep, first(3))
				a := promise(5, b)
				if halves == 1 {
					p.hears(t, 1, promised(5, b, of(2, 7), api.Drop), true)
					p.hears(t, 2, a, true)
					a = accepted(5, b)
				}
				if heard == 1 {
					p.hears(t, 1, a, true)
				}
				p.hears(t, 3, refused(a, seen), true)
				if got, is := p.run.Lost(); got != seen || !is {
					t.Errorf("Lost: %v %v, not %v", got, is, seen)
				}
				for _, from := range first(4) {
					p.hears(t, from, a, false)
					p.hears(t, from, accepted(5, b), false)
					p.hears(t, from, refused(a, of(9, 9)), false)
				}
			}
		}
	}
}

func TestP1403ProposesWhatWasTakenHighest(t *testing.T) {
	b := of(30, 2)
	hold := func(want api.Verdict, answers ...api.Packet) {
		t.Helper()
		p := started(t, 5, b, api.Over, first(5))
		for i, a := range answers {
			p.hears(t, uint64(i+1), a, true)
		}
		if got := p.run.Ask(); got.Kind != api.Accept || got.V != want {
			t.Errorf("behind %v: %v, not %d", answers, got, want)
		}
	}
	none := promise(5, b)
	keep := func(seen api.Ballot) api.Packet { return promised(5, b, seen, api.Keep) }
	drop := func(seen api.Ballot) api.Packet { return promised(5, b, seen, api.Drop) }
	hold(api.Over, none, none, none)
	hold(api.Drop, none, none, drop(of(1, 1)))
	hold(api.Drop, drop(of(1, 1)), none, none)
	hold(api.Drop, none, drop(of(0, 1)), none) // of N 0, but not the zero one
	hold(api.Drop, keep(of(1, 1)), drop(of(2, 1)), none)
	hold(api.Keep, keep(of(2, 1)), drop(of(1, 1)), none)
	hold(api.Drop, keep(of(1, 9)), none, drop(of(2, 1)))
	hold(api.Drop, keep(of(2, 1)), none, drop(of(2, 2)))
	hold(api.Keep, keep(of(2, 2)), none, drop(of(2, 1)))
	hold(api.Keep, keep(of(1, 1)), drop(of(2, 1)), keep(of(3, 1)))
	hold(api.Drop, keep(of(1, 1)), drop(of(3, 1)), keep(of(2, 1)))
	hold(api.Keep, keep(of(end, end)), drop(of(end, end-1)), none)
	hold(api.Drop, keep(of(1<<63-1, 1)), drop(of(1<<63, 1)), none)
	hold(api.Drop, keep(of(1, 1)), drop(of(40, 1)), none) // above its own ballot

	// Of several that tell the same ballot the first one counts.
	hold(api.Keep, keep(of(2, 1)), drop(of(2, 1)), none)
	hold(api.Drop, drop(of(2, 1)), keep(of(2, 1)), keep(of(2, 1)))
	hold(api.Keep, drop(of(1, 1)), keep(of(2, 1)), drop(of(2, 1)))
}

func TestP1403WhatIsHeardLateIsNotProposed(t *testing.T) {
	b := of(30, 2)
	p := started(t, 5, b, api.Keep, first(3))
	p.hears(t, 1, promise(5, b), true)
	p.hears(t, 2, promised(5, b, of(1, 1), api.Over), true)
	p.hears(t, 3, promised(5, b, of(2, 1), api.Drop), false)
	p.hears(t, 3, accepted(5, b), true) // though it has not promised
	p.hears(t, 2, accepted(5, b), true)
	if v, is := p.run.Chosen(); v != api.Over || !is {
		t.Errorf("Chosen: %d %v", v, is)
	}
}

func TestP1403HearChangesNoPacket(t *testing.T) {
	spans := []api.Span{{Trace: 5, Id: 1, Service: "a", Name: "a"}}
	ids, members := []uint64{1}, []api.Member{{Id: 1, Inc: 1}}
	p := started(t, 5, of(3, 2), api.Keep, first(3))
	p.hears(t, 1, api.Packet{Kind: api.Forward, Trace: 5, Spans: spans}, false)
	p.hears(t, 1, api.Packet{Kind: api.Gossip, Members: members}, false)
	p.hears(t, 1, api.Packet{Kind: api.Ack, Trace: 5, Ids: ids}, false)
	if spans[0].Id != 1 || ids[0] != 1 || members[0].Id != 1 {
		t.Errorf("Hear made %v %v %v of them", spans, members, ids)
	}
}

func TestP1404ChosenLostAndB(t *testing.T) {
	b := of(3, 2)
	p := started(t, 5, b, api.Over, first(1))
	if v, is := p.run.Chosen(); v != api.None || is {
		t.Errorf("Chosen at first: %d %v", v, is)
	}
	if l, is := p.run.Lost(); l != (api.Ballot{}) || is {
		t.Errorf("Lost at first: %v %v", l, is)
	}
	if got := p.run.B(); got != b {
		t.Errorf("B at first: %v", got)
	}
	p.hears(t, 1, promised(5, b, of(2, 1), api.Drop), true) // what it saw is no loss
	if l, is := p.run.Lost(); l != (api.Ballot{}) || is {
		t.Errorf("Lost in its second half: %v %v", l, is)
	}
	if v, is := p.run.Chosen(); v != api.None || is {
		t.Errorf("Chosen in its second half: %d %v", v, is)
	}
	p.hears(t, 1, accepted(5, b), true)
	if v, is := p.run.Chosen(); v != api.Drop || !is {
		t.Errorf("Chosen: %d %v", v, is)
	}
	if l, is := p.run.Lost(); l != (api.Ballot{}) || is {
		t.Errorf("Lost of one that has chosen: %v %v", l, is)
	}

	p = started(t, 5, b, api.Over, first(1))
	p.hears(t, 1, refused(promise(5, b), of(7, 7)), true)
	if l, is := p.run.Lost(); l != of(7, 7) || !is {
		t.Errorf("Lost: %v %v", l, is)
	}
	if v, is := p.run.Chosen(); v != api.None || is {
		t.Errorf("Chosen of one that is lost: %d %v", v, is)
	}
	if got := p.run.B(); got != b {
		t.Errorf("B of one that is lost: %v", got)
	}
}

// silent holds a run that Start did not make to nothing at all.
func silent(t *testing.T, what string, r *proposer.Run) {
	t.Helper()
	for _, a := range []api.Packet{{}, promise(5, of(1, 1)), accepted(5, of(1, 1)), refused(promise(5, of(1, 1)), of(2, 1))} {
		for _, from := range []uint64{0, 1, end} {
			if r.Hear(from, a) {
				t.Errorf("Hear of %s: true", what)
			}
		}
	}
	v, chosen := r.Chosen()
	b, lost := r.Lost()
	if v != api.None || chosen || b != (api.Ballot{}) || lost {
		t.Errorf("Chosen and Lost of %s: %d %v %v %v", what, v, chosen, b, lost)
	}
	if !reflect.DeepEqual(r.Ask(), api.Packet{}) || len(r.Open()) != 0 || r.B() != (api.Ballot{}) {
		t.Errorf("Ask, Open and B of %s: %v %v %v", what, r.Ask(), r.Open(), r.B())
	}
}

func TestOfNilThereIsNothing(t *testing.T) {
	silent(t, "nil", nil)
	silent(t, "the zero run", &proposer.Run{})
	silent(t, "a new run", new(proposer.Run))
}

// TestP1405CountOnce has each answer come again, and too late: it counts once.
func TestP1405CountOnce(t *testing.T) {
	for n := range api.MaxReplicas {
		b := of(3, 2)
		l := first(n + 1)
		p := started(t, 5, b, api.Keep, l)
		for _, a := range []api.Packet{promise(5, b), accepted(5, b)} {
			for i := range len(l)/2 + 1 {
				p.hears(t, l[i], a, true)
				for _, from := range l[:i+1] {
					p.hears(t, from, promise(5, b), p.hearable(from, promise(5, b)))
					p.hears(t, from, promised(5, b, of(1, 1), api.Drop), p.hearable(from, promised(5, b, of(1, 1), api.Drop)))
				}
			}
		}
		if v, is := p.run.Chosen(); v != api.Keep || !is {
			t.Errorf("Chosen of %d: %d %v", n+1, v, is)
		}
	}
}

// hearable tells whether the answer should be heard, without its being heard.
func (p *proposal) hearable(from uint64, a api.Packet) bool {
	twin := *p
	return twin.hear(from, a)
}

// answers has what may come in a small world: right ones, and others.
func answers(b api.Ballot) []api.Packet {
	return []api.Packet{
		promise(5, b),
		promised(5, b, of(1, 1), api.Drop),
		promised(5, b, of(1, 2), api.Over),
		promised(5, b, of(1, 1), api.Over),
		refused(promise(5, b), of(9, 1)),
		accepted(5, b),
		refused(accepted(5, b), of(8, 1)),
		promise(5, of(b.N, b.Node+1)),
		accepted(6, b),
	}
}

// TestP1405AllSmallWorlds hears all sequences of a few answers.
func TestP1405AllSmallWorlds(t *testing.T) {
	b := of(3, 2)
	all := answers(b)
	ends := map[int]int{}
	for n, depth := range []int{4, 4, 3, 3} {
		letters := (n + 2) * len(all) // of each replica, and of one that is none
		runs := 1
		for range depth {
			runs *= letters
		}
		for code := range runs {
			p := started(t, 5, b, api.Keep, first(n+1))
			for rest, i := code, 0; i < depth; i++ {
				l := rest % letters
				rest /= letters
				from, a := uint64(1+l/len(all)), all[l%len(all)]
				if got, want := p.run.Hear(from, a), p.hear(from, a); got != want {
					t.Fatalf("run %d of %d: Hear of %v of %d: %v", code, n+1, a, from, got)
				}
			}
			if p.is(t); t.Failed() {
				t.Fatalf("run %d of %d", code, n+1)
			}
			ends[p.run.Ask().Kind]++
		}
	}
	if len(ends) != 3 || ends[0] < 1000 || ends[api.Prepare] < 1000 || ends[api.Accept] < 1000 {
		t.Errorf("what was asked in the end: %v", ends)
	}
}

// TestP1405AnyAnswers hears many answers by chance, of many replicas.
func TestP1405AnyAnswers(t *testing.T) {
	rnd := rand.New(rand.NewSource(1405))
	chosen, lost := 0, 0
	for range 20000 {
		b := of(uint64(1+rnd.Intn(3)), uint64(rnd.Intn(3)))
		p := started(t, uint64(1+rnd.Intn(2)), b, told()[rnd.Intn(3)], first(1+rnd.Intn(api.MaxReplicas)))
		for range 40 {
			a := promise(uint64(1+rnd.Intn(2)), b)
			if rnd.Intn(2) == 0 {
				a.Kind = api.Accepted
			}
			switch rnd.Intn(24) {
			case 0:
				a = refused(a, of(uint64(rnd.Intn(6)), uint64(rnd.Intn(3))))
			case 1:
				a.B.Node++
			case 2, 3, 4, 5, 6, 7, 8, 9:
				a.Seen, a.V = of(uint64(rnd.Intn(3)), uint64(rnd.Intn(3))), api.Verdict(rnd.Intn(5))
			}
			from := uint64(rnd.Intn(9))
			p.hears(t, from, a, p.hearable(from, a))
		}
		if t.Failed() {
			t.FailNow()
		}
		if _, is := p.run.Chosen(); is {
			chosen++
		}
		if _, is := p.run.Lost(); is {
			lost++
		}
	}
	if chosen < 1000 || lost < 1000 {
		t.Errorf("%d have chosen, %d are lost", chosen, lost)
	}
}

// letter is a packet on its way between a run and a register, by their places.
type letter struct {
	run, reg int
	p        api.Packet
}

// world is registers, and runs that propose to them over a net that loses, and
// turns about, and has letters come again.
type world struct {
	rnd  *rand.Rand
	ids  []uint64
	regs []register.Reg
	runs []*proposer.Run
	took map[api.Ballot]map[int]api.Verdict // who took what, as it came to be
	net  []letter
}

// start begins another run, above some ballots.
func (w *world) start(t *testing.T, nodes int) {
	t.Helper()
	b := of(uint64(1+w.rnd.Intn(6)+len(w.runs)/2), uint64(1+w.rnd.Intn(nodes)))
	if slices.ContainsFunc(w.runs, func(r *proposer.Run) bool { return r.B() == b }) {
		return // none has another's ballot
	}
	r, k := proposer.Start(1, b, told()[w.rnd.Intn(3)], w.ids)
	if k != api.OK {
		t.Fatalf("Start of %v: %d", b, k)
	}
	w.runs = append(w.runs, r)
	w.ask(len(w.runs) - 1)
}

// ask sends what the run asks to whom it is open.
func (w *world) ask(i int) {
	p := w.runs[i].Ask()
	for _, id := range w.runs[i].Open() {
		w.net = append(w.net, letter{i, slices.Index(w.ids, id), p})
	}
}

// move has one letter come, and perhaps stay to come again; or be lost.
func (w *world) move(t *testing.T) {
	t.Helper()
	at := w.rnd.Intn(len(w.net))
	l := w.net[at]
	if w.rnd.Intn(6) != 0 {
		w.net = slices.Delete(w.net, at, at+1)
	}
	switch {
	case w.rnd.Intn(8) == 0: // lost
	case l.p.Kind == api.Prepare || l.p.Kind == api.Accept:
		w.asked(l)
	default:
		w.heard(t, l)
	}
}

// asked has a register answer.
func (w *world) asked(l letter) {
	r, ok := register.Prepare(w.regs[l.reg], l.p.B)
	took := l.p.Kind == api.Accept
	if took {
		r, ok = register.Accept(w.regs[l.reg], l.p.B, l.p.V)
	}
	w.regs[l.reg] = r
	if took && ok {
		if w.took[l.p.B] == nil {
			w.took[l.p.B] = map[int]api.Verdict{}
		}
		w.took[l.p.B][l.reg] = l.p.V
	}
	w.net = append(w.net, letter{l.run, l.reg, register.Answer(r, 1, l.p.B, ok, took)})
}

// heard has a run hear an answer; where it says that it has chosen, more than
// half have taken just that.
func (w *world) heard(t *testing.T, l letter) {
	t.Helper()
	r := w.runs[l.run]
	was := r.Ask()
	r.Hear(w.ids[l.reg], l.p)
	if !reflect.DeepEqual(r.Ask(), was) {
		w.ask(l.run)
	}
	v, is := r.Chosen()
	if !is {
		return
	}
	if took := w.took[r.B()]; 2*len(took) <= len(w.ids) {
		t.Fatalf("%d chosen by %d of %d", v, len(took), len(w.ids))
	}
	for _, other := range w.took[r.B()] {
		if other != v {
			t.Fatalf("%d chosen, but %d taken", v, other)
		}
	}
}

// verdicts has what the runs have chosen.
func (w *world) verdicts() []api.Verdict {
	var l []api.Verdict
	for _, r := range w.runs {
		if v, is := r.Chosen(); is {
			l = append(l, v)
		}
	}
	return l
}

// TestP1405OneVerdictInManyWorlds: many runs over the same registers never
// choose two verdicts.
func TestP1405OneVerdictInManyWorlds(t *testing.T) {
	rnd := rand.New(rand.NewSource(14050))
	once, again := 0, 0
	for range 4000 {
		n := 1 + rnd.Intn(api.MaxReplicas)
		w := &world{rnd: rnd, ids: first(n), regs: make([]register.Reg, n), took: map[api.Ballot]map[int]api.Verdict{}}
		nodes := 1 + rnd.Intn(4)
		for range 150 {
			if len(w.net) == 0 || rnd.Intn(25) == 0 {
				w.start(t, nodes)
			}
			if len(w.net) > 0 {
				w.move(t)
			}
		}
		l := w.verdicts()
		if len(slices.Compact(slices.Sorted(slices.Values(l)))) > 1 {
			t.Fatalf("%d replicas: chosen %d", n, l)
		}
		once += min(len(l), 1)
		again += min(max(len(l)-1, 0), 1)
	}
	if once < 500 || again < 100 {
		t.Errorf("%d worlds with a verdict, %d with it by more runs", once, again)
	}
}

func TestTwoRunsShareNothing(t *testing.T) {
	l := first(3)
	p, q := started(t, 5, of(3, 2), api.Keep, l), started(t, 5, of(3, 2), api.Drop, l)
	p.hears(t, 1, promise(5, of(3, 2)), true)
	q.is(t)
	p.hears(t, 2, promise(5, of(3, 2)), true)
	q.hears(t, 1, refused(promise(5, of(3, 2)), of(4, 2)), true)
	p.is(t)
}

func TestExample1(t *testing.T) {
	b := of(2, 1)
	p := started(t, 9, b, api.Keep, first(3))
	p.hears(t, 2, promised(9, b, of(1, 3), api.Drop), true)
	p.hears(t, 3, promise(9, b), true)
	if got := p.run.Ask(); !reflect.DeepEqual(got, api.Packet{Kind: api.Accept, Trace: 9, B: b, V: api.Drop}) {
		t.Errorf("Ask: %v, not an Accept of Drop", got)
	}
}
