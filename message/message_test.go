package message_test

import (
	"bytes"
	"encoding/binary"
	"math"
	"reflect"
	"slices"
	"strings"
	"testing"

	"winnow/api"
	"winnow/frame"
	"winnow/message"
	"winnow/span"
)

// trace is the one that the packets here are of.
const trace = 0x0102030405060708

// theB and theSeen are ballots in which no two numbers are alike.
func theB() api.Ballot    { return api.Ballot{N: 0x1112131415161718, Node: 0x2122232425262728} }
func theSeen() api.Ballot { return api.Ballot{N: 0x3132333435363738, Node: 0x4142434445464748} }

// someSpans is n right spans of that trace, their Ids falling: in a packet
// spans need no order.
func someSpans(trace uint64, n int) []api.Span {
	var l []api.Span
	for i := range n {
		l = append(l, api.Span{Trace: trace, Id: uint64(n-i) << 8, Parent: 7, Start: 3, Length: uint64(i),
			Service: "é", Name: "buy", Fail: i%2 == 0})
	}
	return l
}

// longestSpans is as many spans as may be, with as many bytes as may be.
func longestSpans() []api.Span {
	l := someSpans(trace, api.MaxSpans)
	for i := range l {
		l[i].Service, l[i].Name = strings.Repeat("x", api.MaxName), strings.Repeat("y", api.MaxName)
		l[i].Start, l[i].Length = api.MaxTime, api.MaxTime
	}
	return l
}

// someMembers is n right members, in all states.
func someMembers(n int) []api.Member {
	var l []api.Member
	for i := range n {
		l = append(l, api.Member{Id: uint64(i) + 1, Inc: 1 + uint64(n-i), State: i % 3})
	}
	return l
}

// someIds is n numbers that rise from 1 on.
func someIds(n int) []uint64 {
	var l []uint64
	for i := range n {
		l = append(l, uint64(i)+1)
	}
	return l
}

// told is a right packet, its thing, and its data.
type told struct {
	p    api.Packet
	m    any
	data []byte
}

// octets is bytes of which each is told: a byte as it stands, a number or a
// ballot by 8 bytes each.
func octets(parts ...any) []byte {
	var b []byte
	for _, part := range parts {
		switch x := part.(type) {
		case int:
			b = append(b, byte(x))
		case uint64:
			b = binary.BigEndian.AppendUint64(b, x)
		case api.Ballot:
			b = binary.BigEndian.AppendUint64(binary.BigEndian.AppendUint64(b, x.N), x.Node)
		case []uint64:
			for _, n := range x {
				b = binary.BigEndian.AppendUint64(b, n)
			}
		case []api.Member:
			for _, m := range x {
				b = append(b, octets(m.Id, m.Inc, m.State)...)
			}
		case []api.Span:
			for _, s := range x {
				b, _ = span.Put(b, s)
			}
		default:
			panic("no part of a packet")
		}
	}
	return b
}

// tolds has packets of each Kind, at the edges of what is right.
func tolds() []told {
	var l []told
	for _, spans := range [][]api.Span{someSpans(trace, 1), someSpans(trace, 3), someSpans(trace, api.MaxSpans), longestSpans()} {
		l = append(l,
			told{api.Packet{Kind: api.Forward, Trace: trace, Spans: spans},
				message.Spans{Trace: trace, Spans: spans},
				octets(1, uint64(trace), len(spans), spans)},
			told{api.Packet{Kind: api.Handoff, Trace: trace, Spans: spans},
				message.Spans{Trace: trace, Hand: true, Spans: spans},
				octets(2, uint64(trace), len(spans), spans)},
			told{api.Packet{Kind: api.Write, Trace: trace, B: theB(), Spans: spans},
				message.Stored{Trace: trace, B: theB(), Spans: spans},
				octets(9, uint64(trace), theB(), len(spans), spans)})
	}
	great := []api.Member{{Id: math.MaxUint64, Inc: math.MaxUint64, State: api.Gone}}
	for _, members := range [][]api.Member{someMembers(1), someMembers(3), someMembers(api.MaxMembers), great} {
		l = append(l, told{api.Packet{Kind: api.Gossip, Members: members},
			message.Members{List: members},
			octets(3, len(members), members)})
	}
	for _, ids := range [][]uint64{{1}, {1, 2, 9}, someIds(api.MaxSpans), {math.MaxUint64}, {5, math.MaxUint64 - 1, math.MaxUint64}} {
		l = append(l, told{api.Packet{Kind: api.Ack, Trace: trace, Ids: ids},
			message.Acked{Trace: trace, Ids: ids},
			octets(10, uint64(trace), len(ids), ids)})
	}
	for v := api.Keep; v <= api.Over; v++ {
		l = append(l, told{api.Packet{Kind: api.Tell, Trace: trace, V: v},
			message.Told{Trace: trace, V: v},
			octets(8, uint64(trace), int(v))})
	}
	return append(append(l, asks()...), replies()...)
}

// asks has right Prepares and Accepts.
func asks() []told {
	var l []told
	for _, b := range []api.Ballot{theB(), {N: 1}, {N: math.MaxUint64, Node: math.MaxUint64}} {
		l = append(l, told{api.Packet{Kind: api.Prepare, Trace: trace, B: b},
			message.Ask{Trace: trace, B: b},
			octets(4, uint64(trace), b)})
		for v := api.Keep; v <= api.Over; v++ {
			l = append(l, told{api.Packet{Kind: api.Accept, Trace: trace, B: b, V: v},
				message.Ask{Trace: trace, B: b, V: v},
				octets(6, uint64(trace), b, int(v))})
		}
	}
	return l
}

// replies has right Promises and Accepteds.
func replies() []told {
	none := api.Ballot{}
	l := []told{
		{api.Packet{Kind: api.Promise, Trace: trace, B: theB(), Ok: true},
			message.Reply{Trace: trace, B: theB(), Ok: true},
			octets(5, uint64(trace), theB(), 1, none, 0)},
		{api.Packet{Kind: api.Accepted, Trace: trace, B: theB(), Ok: true},
			message.Reply{Trace: trace, B: theB(), Ok: true, Took: true},
			octets(7, uint64(trace), theB(), 1, none)},
	}
	for _, seen := range []api.Ballot{theSeen(), theB(), {N: 1}, {Node: 1}, {N: math.MaxUint64, Node: math.MaxUint64}} {
		l = append(l,
			told{api.Packet{Kind: api.Promise, Trace: trace, B: theB(), Seen: seen},
				message.Reply{Trace: trace, B: theB(), Seen: seen},
				octets(5, uint64(trace), theB(), 0, seen, 0)},
			told{api.Packet{Kind: api.Accepted, Trace: trace, B: theB(), Seen: seen},
				message.Reply{Trace: trace, B: theB(), Seen: seen, Took: true},
				octets(7, uint64(trace), theB(), 0, seen)})
		for v := api.Keep; v <= api.Over; v++ {
			l = append(l, told{api.Packet{Kind: api.Promise, Trace: trace, B: theB(), Ok: true, Seen: seen, V: v},
				message.Reply{Trace: trace, B: theB(), Ok: true, Seen: seen, V: v},
				octets(5, uint64(trace), theB(), 1, seen, int(v))})
		}
	}
	return l
}

// with is the packet, changed; its lists are new ones.
func with(p api.Packet, change func(p *api.Packet)) api.Packet {
	p.Spans, p.Members, p.Ids = slices.Clone(p.Spans), slices.Clone(p.Members), slices.Clone(p.Ids)
	change(&p)
	return p
}

// one is the first right packet of that Kind.
func one(kind int) api.Packet {
	for _, c := range tolds() {
		if c.p.Kind == kind {
			return c.p
		}
	}
	panic("no such Kind")
}

// needs is what the packets of each Kind have, by the chapter's table.
func needs() map[int]string {
	return map[int]string{
		api.Forward:  "Trace Spans",
		api.Handoff:  "Trace Spans",
		api.Gossip:   "Members",
		api.Prepare:  "Trace B",
		api.Promise:  "Trace B Ok Seen V",
		api.Accept:   "Trace B V",
		api.Accepted: "Trace B Ok Seen",
		api.Tell:     "Trace V",
		api.Write:    "Trace B Spans",
		api.Ack:      "Trace Ids",
	}
}

// wrongs has packets that are not right.
func wrongs() []api.Packet {
	var l []api.Packet
	for kind, has := range needs() {
		l = append(l, tooMuch(one(kind), has)...)
		l = append(l, tooLittle(one(kind), has)...)
	}
	l = append(l, wrongSpans()...)
	l = append(l, wrongMembers()...)
	l = append(l, wrongIds()...)
	l = append(l, wrongVerdicts()...)
	return append(l, wrongKinds()...)
}

// tooMuch is the packet with each thing that its Kind has no use for.
func tooMuch(p api.Packet, has string) []api.Packet {
	var l []api.Packet
	add := func(field string, change func(p *api.Packet)) {
		if !slices.Contains(strings.Fields(has), field) {
			l = append(l, with(p, change))
		}
	}
	add("Trace", func(p *api.Packet) { p.Trace = 1 })
	add("B", func(p *api.Packet) { p.B = theB() })
	add("B", func(p *api.Packet) { p.B.N = 1 })
	add("B", func(p *api.Packet) { p.B.Node = 1 })
	add("Seen", func(p *api.Packet) { p.Seen = theSeen() })
	add("Seen", func(p *api.Packet) { p.Seen.N = 1 })
	add("Seen", func(p *api.Packet) { p.Seen.Node = 1 })
	for _, v := range []api.Verdict{api.Keep, api.Over, -1, 4} {
		add("V", func(p *api.Packet) { p.V = v })
	}
	add("Ok", func(p *api.Packet) { p.Ok = true })
	add("Spans", func(p *api.Packet) { p.Spans = someSpans(trace, 1) })
	add("Spans", func(p *api.Packet) { p.Spans = make([]api.Span, 1) })
	add("Members", func(p *api.Packet) { p.Members = someMembers(1) })
	add("Members", func(p *api.Packet) { p.Members = make([]api.Member, 1) })
	add("Ids", func(p *api.Packet) { p.Ids = []uint64{1} })
	add("Ids", func(p *api.Packet) { p.Ids = []uint64{0} })
	return l
}

// tooLittle is the packet without each thing that its Kind needs.
func tooLittle(p api.Packet, has string) []api.Packet {
	var l []api.Packet
	add := func(field string, change func(p *api.Packet)) {
		if slices.Contains(strings.Fields(has), field) {
			l = append(l, with(p, change))
		}
	}
	add("Trace", func(p *api.Packet) { p.Trace = 0 })
	add("B", func(p *api.Packet) { p.B.N = 0 })
	add("B", func(p *api.Packet) { p.B = api.Ballot{} })
	add("Spans", func(p *api.Packet) { p.Spans = nil })
	add("Spans", func(p *api.Packet) { p.Spans = []api.Span{} })
	add("Members", func(p *api.Packet) { p.Members = nil })
	add("Members", func(p *api.Packet) { p.Members = []api.Member{} })
	add("Ids", func(p *api.Packet) { p.Ids = nil })
	add("Ids", func(p *api.Packet) { p.Ids = []uint64{} })
	return l
}

// wrongSpans has packets whose spans can't be.
func wrongSpans() []api.Packet {
	var l []api.Packet
	for _, kind := range []int{api.Forward, api.Handoff, api.Write} {
		for _, n := range []int{api.MaxSpans + 1, 255, 256, 257, 256 + api.MaxSpans} {
			l = append(l, with(one(kind), func(p *api.Packet) { p.Spans = someSpans(trace, n) }))
		}
		for at := range 3 {
			for _, change := range []func(s *api.Span){
				func(s *api.Span) { s.Trace++ },
				func(s *api.Span) { s.Trace = 0 },
				func(s *api.Span) { s.Id = 0 },
				func(s *api.Span) { s.Start = api.MaxTime + 1 },
				func(s *api.Span) { s.Length = math.MaxUint64 },
				func(s *api.Span) { s.Service = "" },
				func(s *api.Span) { s.Name = "\xff" },
				func(s *api.Span) { s.Name = strings.Repeat("x", 300) },
			} {
				p := with(one(kind), func(p *api.Packet) { p.Spans = someSpans(trace, 3) })
				change(&p.Spans[at])
				l = append(l, p)
			}
			for other := range at {
				p := with(one(kind), func(p *api.Packet) { p.Spans = someSpans(trace, 3) })
				p.Spans[at].Id = p.Spans[other].Id
				l = append(l, p)
			}
		}
		l = append(l, with(one(kind), func(p *api.Packet) { p.Trace++ }))
		l = append(l, with(one(kind), func(p *api.Packet) { p.Trace, p.Spans[0].Trace = 0, 0 }))
	}
	return l
}

// gossip is a Gossip of those.
func gossip(l ...api.Member) api.Packet { return api.Packet{Kind: api.Gossip, Members: l} }

// wrongMembers has packets whose members can't be.
func wrongMembers() []api.Packet {
	l := []api.Packet{
		gossip(someMembers(api.MaxMembers + 1)...),
		gossip(someMembers(256)...),
		gossip(someMembers(257)...),
		gossip(api.Member{Id: 0, Inc: 1}),
		gossip(api.Member{Id: 1, Inc: 0}),
		gossip(api.Member{Id: 0, Inc: 1}, api.Member{Id: 1, Inc: 1}),
		gossip(api.Member{Id: 1, Inc: 1}, api.Member{Id: 1, Inc: 2}),
		gossip(api.Member{Id: 2, Inc: 1}, api.Member{Id: 1, Inc: 1}),
		gossip(api.Member{Id: 1, Inc: 1}, api.Member{Id: 3, Inc: 1}, api.Member{Id: 2, Inc: 1}),
		gossip(api.Member{Id: 1, Inc: 1}, api.Member{Id: 3, Inc: 1}, api.Member{Id: 3, Inc: 1}),
		gossip(api.Member{Id: 1, Inc: 1}, api.Member{Id: 2, Inc: 0}),
		gossip(api.Member{Id: math.MaxUint64, Inc: 1}, api.Member{Id: 1, Inc: 1}),
	}
	for _, state := range []int{-1, api.Gone + 1, 256, 256 + api.Gone, math.MinInt, math.MaxInt} {
		l = append(l, gossip(api.Member{Id: 1, Inc: 1, State: state}))
		l = append(l, gossip(api.Member{Id: 1, Inc: 1}, api.Member{Id: 2, Inc: 1, State: state}))
	}
	return l
}

// wrongIds has packets whose Ids can't be.
func wrongIds() []api.Packet {
	var l []api.Packet
	for _, ids := range [][]uint64{
		{0}, {0, 1}, {1, 1}, {2, 1}, {1, 3, 2}, {1, 2, 2}, {math.MaxUint64, 0}, {math.MaxUint64, math.MaxUint64},
		someIds(api.MaxSpans + 1), someIds(256), someIds(257),
	} {
		l = append(l, api.Packet{Kind: api.Ack, Trace: trace, Ids: ids})
	}
	return l
}

// wrongVerdicts has packets whose V can't be, or does not fit Ok and Seen.
func wrongVerdicts() []api.Packet {
	var l []api.Packet
	for _, v := range []api.Verdict{api.None, -1, api.Over + 1, 256, 257, math.MinInt, math.MaxInt} {
		l = append(l, api.Packet{Kind: api.Accept, Trace: trace, B: theB(), V: v})
		l = append(l, api.Packet{Kind: api.Tell, Trace: trace, V: v})
		if v != api.None {
			l = append(l, api.Packet{Kind: api.Promise, Trace: trace, B: theB(), Ok: true, Seen: theSeen(), V: v})
			l = append(l, api.Packet{Kind: api.Promise, Trace: trace, B: theB(), Seen: theSeen(), V: v})
			l = append(l, api.Packet{Kind: api.Promise, Trace: trace, B: theB(), Ok: true, V: v})
		}
	}
	for v := api.Keep; v <= api.Over; v++ {
		l = append(l, api.Packet{Kind: api.Promise, Trace: trace, B: theB(), Ok: true, V: v})
		l = append(l, api.Packet{Kind: api.Promise, Trace: trace, B: theB(), Seen: theSeen(), V: v})
		l = append(l, api.Packet{Kind: api.Promise, Trace: trace, B: theB(), V: v})
		l = append(l, api.Packet{Kind: api.Accepted, Trace: trace, B: theB(), Ok: true, Seen: theSeen(), V: v})
		l = append(l, api.Packet{Kind: api.Accepted, Trace: trace, B: theB(), Seen: theSeen(), V: v})
	}
	for _, seen := range []api.Ballot{theSeen(), {N: 1}, {Node: 1}} {
		l = append(l, api.Packet{Kind: api.Promise, Trace: trace, B: theB(), Ok: true, Seen: seen})
		l = append(l, api.Packet{Kind: api.Accepted, Trace: trace, B: theB(), Ok: true, Seen: seen})
	}
	l = append(l, api.Packet{Kind: api.Promise, Trace: trace, B: theB()})
	return append(l, api.Packet{Kind: api.Accepted, Trace: trace, B: theB()})
}

// wrongKinds has packets of no Kind.
func wrongKinds() []api.Packet {
	var l []api.Packet
	for _, kind := range []int{0, -1, 11, 255, 256, 256 + api.Tell, math.MinInt, math.MaxInt} {
		l = append(l, api.Packet{Kind: kind})
		for _, c := range tolds() {
			l = append(l, with(c.p, func(p *api.Packet) { p.Kind = kind }))
		}
	}
	return l
}

// alike tells whether two packets have the same; a list without an element may
// be nil or empty.
func alike(a, b api.Packet) bool {
	return a.Kind == b.Kind && a.Trace == b.Trace && a.B == b.B && a.Seen == b.Seen && a.V == b.V && a.Ok == b.Ok &&
		slices.Equal(a.Spans, b.Spans) && slices.Equal(a.Members, b.Members) && slices.Equal(a.Ids, b.Ids)
}

func TestP501RightOfRightPackets(t *testing.T) {
	seen := map[int]bool{}
	for _, c := range tolds() {
		seen[c.p.Kind] = true
		if k := message.Right(c.p); k != api.OK {
			t.Errorf("Right of %+v: %d, not 0", c.p, k)
		}
		empty := with(c.p, func(p *api.Packet) {
			p.Spans, p.Members, p.Ids = append([]api.Span{}, p.Spans...), append([]api.Member{}, p.Members...), append([]uint64{}, p.Ids...)
		})
		if k := message.Right(empty); k != api.OK {
			t.Errorf("Right of %+v with lists that are empty: %d, not 0", c.p, k)
		}
	}
	if len(seen) != 10 {
		t.Errorf("%d Kinds, not 10", len(seen))
	}
}

func TestP501WhatIsNotRight(t *testing.T) {
	for _, p := range wrongs() {
		if k := message.Right(p); k != api.BadForm {
			t.Errorf("Right of %+v: %d, not BadForm", p, k)
		}
		if m, k := message.Of(p); m != nil || k != api.BadForm {
			t.Errorf("Of of %+v: %+v %d, not nil and BadForm", p, m, k)
		}
		if b, k := message.Encode(p); len(b) != 0 || k != api.BadForm {
			t.Errorf("Encode of %+v: % x %d, not nothing and BadForm", p, b, k)
		}
	}
}

func TestP501Of(t *testing.T) {
	for _, c := range tolds() {
		if m, k := message.Of(c.p); !reflect.DeepEqual(m, c.m) || k != api.OK {
			t.Errorf("Of of %+v: %#v %d, not %#v 0", c.p, m, k, c.m)
		}
	}
}

func TestP501Packet(t *testing.T) {
	for _, c := range tolds() {
		if p, k := message.Packet(c.m); !alike(p, c.p) || k != api.OK {
			t.Errorf("Packet of %#v: %+v %d, not %+v 0", c.m, p, k, c.p)
		}
	}
}

// strangers has what is no thing: another type, and pointers to things.
func strangers() []any {
	s, m, a, r, o, w, i := message.Spans{}, message.Members{}, message.Ask{Trace: 1, B: theB()}, message.Reply{}, message.Told{Trace: 1, V: api.Keep}, message.Stored{}, message.Acked{}
	type ask message.Ask
	return []any{
		nil, 0, uint64(5), "Ask", true, 1.5, api.Keep, api.OK, api.Packet{}, one(api.Tell), &api.Packet{}, api.Letter{}, api.Span{}, api.Member{}, api.Ballot{},
		&s, &m, &a, &r, &o, &w, &i, (*message.Ask)(nil), (*message.Told)(nil), (*message.Members)(nil),
		[]message.Ask{a}, [1]message.Ask{a}, struct{ message.Ask }{a}, ask(a), func() message.Ask { return a }, map[message.Ask]int{},
		[]api.Member{}, []api.Span{}, []uint64{1}, error(api.BadForm), make(chan message.Ask),
	}
}

func packetFails(t *testing.T, m any) {
	t.Helper()
	if p, k := message.Packet(m); !alike(p, api.Packet{}) || k != api.BadForm {
		t.Errorf("Packet of %#v: %+v %d, not the zero packet and BadForm", m, p, k)
	}
}

func TestP501PacketOfNoThing(t *testing.T) {
	for _, m := range strangers() {
		packetFails(t, m)
	}
}

func TestP501PacketThatIsNotRight(t *testing.T) {
	for _, m := range []any{message.Spans{}, message.Members{}, message.Ask{}, message.Reply{}, message.Told{}, message.Stored{}, message.Acked{}} {
		packetFails(t, m)
	}
	for _, p := range wrongSpans() {
		if p.Kind == api.Write {
			packetFails(t, message.Stored{Trace: p.Trace, B: p.B, Spans: p.Spans})
		} else {
			packetFails(t, message.Spans{Trace: p.Trace, Hand: p.Kind == api.Handoff, Spans: p.Spans})
		}
	}
	for _, p := range wrongMembers() {
		packetFails(t, message.Members{List: p.Members})
	}
	for _, p := range wrongIds() {
		packetFails(t, message.Acked{Trace: p.Trace, Ids: p.Ids})
	}
	for _, p := range wrongVerdicts() {
		switch p.Kind {
		case api.Tell:
			packetFails(t, message.Told{Trace: p.Trace, V: p.V})
		case api.Promise, api.Accepted:
			packetFails(t, message.Reply{Trace: p.Trace, B: p.B, Ok: p.Ok, Seen: p.Seen, V: p.V, Took: p.Kind == api.Accepted})
		case api.Accept:
			if p.V != api.None {
				packetFails(t, message.Ask{Trace: p.Trace, B: p.B, V: p.V})
			}
		}
	}
	packetFails(t, message.Stored{Trace: trace, Spans: someSpans(trace, 1)})
	packetFails(t, message.Stored{Trace: trace, B: theB(), Spans: someSpans(trace+1, 1)})
	packetFails(t, message.Ask{Trace: trace, B: api.Ballot{Node: 1}})
	packetFails(t, message.Ask{B: theB()})
	packetFails(t, message.Ask{B: theB(), V: api.Keep})
}

// roomy is the packet with spare room behind each list, and what stands there.
func roomy(p api.Packet) api.Packet {
	p.Spans = append(slices.Clone(p.Spans), someSpans(9, 4)...)[:len(p.Spans)]
	p.Members = append(slices.Clone(p.Members), someMembers(4)...)[:len(p.Members)]
	p.Ids = append(slices.Clone(p.Ids), 9, 9, 9)[:len(p.Ids)]
	return p
}

// roomyThing is the thing with such lists.
func roomyThing(m any) any {
	p := roomy(lists(m))
	switch x := m.(type) {
	case message.Spans:
		x.Spans = p.Spans
		return x
	case message.Members:
		x.List = p.Members
		return x
	case message.Stored:
		x.Spans = p.Spans
		return x
	case message.Acked:
		x.Ids = p.Ids
		return x
	}
	return m
}

// lists is a packet with the lists of the thing.
func lists(m any) api.Packet {
	switch x := m.(type) {
	case message.Spans:
		return api.Packet{Spans: x.Spans}
	case message.Members:
		return api.Packet{Members: x.List}
	case message.Stored:
		return api.Packet{Spans: x.Spans}
	case message.Acked:
		return api.Packet{Ids: x.Ids}
	}
	return api.Packet{}
}

// whole is the packet, its lists up to the end of their spare room.
func whole(p api.Packet) api.Packet {
	p.Spans, p.Members, p.Ids = p.Spans[:cap(p.Spans)], p.Members[:cap(p.Members)], p.Ids[:cap(p.Ids)]
	return p
}

// spoil changes all of the packet's lists, and their spare room.
func spoil(p api.Packet) {
	p = whole(p)
	clear(p.Spans)
	clear(p.Members)
	clear(p.Ids)
}

func TestP501WhatComesInStaysAsItWas(t *testing.T) {
	for _, c := range tolds() {
		p := roomy(c.p)
		was := with(whole(p), func(*api.Packet) {})
		m, _ := message.Of(p)
		spoil(lists(m))
		b := encoded(t, p)
		clear(b[:cap(b)])
		if !alike(whole(p), was) {
			t.Errorf("Right, Of or Encode changed %+v", c.p)
		}
		in := roomyThing(c.m)
		was = with(whole(lists(in)), func(*api.Packet) {})
		q, _ := message.Packet(in)
		spoil(q)
		if !alike(whole(lists(in)), was) {
			t.Errorf("Packet changed %#v", c.m)
		}
	}
}

func TestP501WhatGoesOutIsNew(t *testing.T) {
	for _, c := range tolds() {
		p := roomy(c.p)
		m, _ := message.Of(p)
		spoil(p)
		if !reflect.DeepEqual(m, c.m) {
			t.Errorf("Of of %+v shares memory with it", c.p)
		}
		p, _ = message.Packet(m)
		spoil(lists(m))
		if !alike(p, c.p) {
			t.Errorf("Packet of %#v shares memory with it", c.m)
		}
	}
}

func traceIs(t *testing.T, m any, want uint64, is bool) {
	t.Helper()
	if got, ok := message.Trace(m); got != want || ok != is {
		t.Errorf("Trace of %#v: %d %v, not %d %v", m, got, ok, want, is)
	}
}

func TestP502Trace(t *testing.T) {
	for _, c := range tolds() {
		traceIs(t, c.m, c.p.Trace, c.p.Kind != api.Gossip)
	}
	traceIs(t, message.Members{List: someMembers(3)}, 0, false)
	traceIs(t, message.Members{}, 0, false)
	for _, m := range strangers() {
		traceIs(t, m, 0, false)
	}
}

// A thing has its trace, whether its packet is right or not.
func TestP502TraceOfThingsThatAreNotRight(t *testing.T) {
	for _, n := range []uint64{0, 1, math.MaxUint64} {
		for _, m := range []any{
			message.Spans{Trace: n}, message.Spans{Trace: n, Hand: true}, message.Ask{Trace: n}, message.Ask{Trace: n, V: 9},
			message.Reply{Trace: n}, message.Reply{Trace: n, Took: true}, message.Told{Trace: n}, message.Stored{Trace: n},
			message.Acked{Trace: n},
		} {
			traceIs(t, m, n, true)
		}
	}
}

// panics tells whether MustAsk of m panics.
func panics(m any) (fell bool) {
	defer func() { fell = recover() != nil }()
	message.MustAsk(m)
	return false
}

// someAsks has asks, right or not.
func someAsks() []message.Ask {
	return []message.Ask{{}, {Trace: 5}, {Trace: trace, B: theB()}, {Trace: trace, B: theB(), V: api.Keep},
		{B: api.Ballot{Node: 1}, V: -1}, {Trace: math.MaxUint64, V: api.Over + 1}}
}

func TestP502MustAskOfAsks(t *testing.T) {
	for _, a := range someAsks() {
		if panics(a) {
			t.Errorf("MustAsk of %#v panics", a)
		} else if got := message.MustAsk(a); got != a {
			t.Errorf("MustAsk of %#v: %#v", a, got)
		}
		if got, fell := message.Caught(a); got != a || fell {
			t.Errorf("Caught of %#v: %#v %v, not that and false", a, got, fell)
		}
	}
}

func TestP502MustAskOfOthers(t *testing.T) {
	others := append(strangers(), message.Spans{}, message.Members{}, message.Reply{}, message.Told{}, message.Stored{}, message.Acked{})
	for _, c := range tolds() {
		if c.p.Kind != api.Prepare && c.p.Kind != api.Accept {
			others = append(others, c.m)
		}
	}
	for _, m := range others {
		if !panics(m) {
			t.Errorf("MustAsk of %#v does not panic", m)
		}
		if got, fell := message.Caught(m); got != (message.Ask{}) || !fell {
			t.Errorf("Caught of %#v: %#v %v, not the zero Ask and true", m, got, fell)
		}
	}
}

// framed is the data's frame.
func framed(t *testing.T, data []byte) []byte {
	t.Helper()
	b, k := frame.Put(nil, data)
	if k != api.OK {
		t.Fatalf("frame.Put of %d bytes: %d, not 0", len(data), k)
	}
	return b
}

func encoded(t *testing.T, p api.Packet) []byte {
	t.Helper()
	b, k := message.Encode(p)
	if k != api.OK {
		t.Fatalf("Encode of %+v: %d, not 0", p, k)
	}
	return b
}

func decodeTells(t *testing.T, b []byte, want api.Packet) {
	t.Helper()
	if p, k := message.Decode(b); !alike(p, want) || k != api.OK {
		t.Errorf("Decode of % x: %+v %d, not %+v 0", b, p, k, want)
	}
}

func decodeFails(t *testing.T, what string, b []byte, want api.Kind) {
	t.Helper()
	if p, k := message.Decode(b); !alike(p, api.Packet{}) || k != want {
		t.Errorf("Decode of %s, % x: %+v %d, not the zero packet and %d", what, b, p, k, want)
	}
}

// dataFail holds Decode of the data's frame to BadForm.
func dataFail(t *testing.T, what string, data []byte) {
	t.Helper()
	decodeFails(t, what, framed(t, data), api.BadForm)
}

func TestP503ExampleOfATell(t *testing.T) {
	want := framed(t, []byte{8, 0, 0, 0, 0, 0, 0, 0, 5, 1})
	p := api.Packet{Kind: api.Tell, Trace: 5, V: api.Keep}
	if got := encoded(t, p); !bytes.Equal(got, want) {
		t.Errorf("Encode of a Tell: % x, not % x", got, want)
	}
	decodeTells(t, want, p)
}

func TestP503KnownData(t *testing.T) {
	for _, c := range tolds() {
		want := framed(t, c.data)
		if got := encoded(t, c.p); !bytes.Equal(got, want) {
			t.Errorf("Encode of %+v: % x, not % x", c.p, got, want)
		}
		decodeTells(t, want, c.p)
	}
}

func TestP503DataThatEndTooSoon(t *testing.T) {
	for _, c := range tolds() {
		for n := range c.data {
			dataFail(t, "data that end too soon", c.data[:n])
		}
	}
}

func TestP503DataThatGoOn(t *testing.T) {
	for _, c := range tolds() {
		for _, more := range [][]byte{{0}, {1}, {255}, make([]byte, 8), make([]byte, 17), c.data} {
			dataFail(t, "data that go on", slices.Concat(c.data, more))
		}
		full := make([]byte, api.MaxFrame)
		copy(full, c.data)
		dataFail(t, "as many data as may be", full)
	}
}

func TestP503FramesThatAreNone(t *testing.T) {
	for _, b := range [][]byte{nil, {}, {1}, {8, 0, 0}} {
		decodeFails(t, "too few bytes", b, api.Short)
	}
	decodeFails(t, "a length above MaxFrame", []byte{1, 32, 0, 0}, api.BadFrame)
	decodeFails(t, "a length above MaxFrame", []byte{255, 255, 255, 255, 8}, api.BadFrame)
	for _, c := range tolds() {
		b := encoded(t, c.p)
		for n := range b {
			decodeFails(t, "a frame that is cut off", b[:n], api.Short)
		}
		for at := 4; at < len(b); at++ {
			turned := bytes.Clone(b)
			turned[at] ^= 1
			decodeFails(t, "a frame with a bit turned", turned, api.BadFrame)
			decodeFails(t, "a frame with a bit turned, and bytes behind", append(turned, 0), api.BadFrame)
		}
	}
}

func TestP503BytesBehindTheFrame(t *testing.T) {
	for _, c := range tolds() {
		b := encoded(t, c.p)
		for _, more := range [][]byte{{0}, {8}, make([]byte, 8), b, b[:len(b)-1]} {
			decodeFails(t, "bytes behind the frame", slices.Concat(b, more), api.BadForm)
		}
	}
}

// What each byte of the data may be is what Encode puts there: whichever it is,
// there is no packet, or one that is put just so.
func TestP503EachByteOfTheData(t *testing.T) {
	for kind := range needs() {
		right, _, _ := frame.Cut(encoded(t, one(kind)))
		for at := range right {
			data := bytes.Clone(right)
			for x := range 256 {
				data[at] = byte(x)
				b := framed(t, data)
				p, k := message.Decode(b)
				if k == api.OK && bytes.Equal(encoded(t, p), b) && message.Right(p) == api.OK {
					continue
				}
				if k != api.BadForm || !alike(p, api.Packet{}) {
					t.Fatalf("Decode of % x: %+v %d", b, p, k)
				}
			}
		}
	}
}

func TestP503DataThatAreNotRight(t *testing.T) {
	spans, members, none := someSpans(trace, 3), someMembers(3), api.Ballot{}
	many, crowd := someSpans(trace, api.MaxSpans+1), someMembers(api.MaxMembers+1)
	for _, data := range [][]byte{
		{},
		{0}, {11}, {255}, {8},
		octets(0, uint64(trace), 1),
		octets(11, uint64(trace), 1),
		octets(1, uint64(trace), 0),
		octets(1, uint64(trace), 2, spans),
		octets(1, uint64(trace), 4, spans),
		octets(1, uint64(trace), 255, spans),
		octets(1, uint64(trace), 17, many),
		octets(1, uint64(trace+1), 3, spans),
		octets(1, uint64(trace), 2, spans[:1], spans[:1]),
		octets(9, uint64(trace), api.Ballot{Node: 1}, 3, spans),
		octets(9, uint64(trace), 3, spans),
		octets(3, 0),
		octets(3, 17, crowd),
		octets(3, 255, members),
		octets(3, 2, members[1:], members[:1]),
		octets(3, 1, uint64(1), uint64(1), 3),
		octets(3, 1, uint64(1), uint64(0), 0),
		octets(3, 1, uint64(0), uint64(1), 0),
		octets(4, uint64(trace), theB(), 0),
		octets(4, uint64(0), theB()),
		octets(5, uint64(trace), theB(), 2, none, 0),
		octets(5, uint64(trace), theB(), 255, theSeen(), 1),
		octets(5, uint64(trace), theB(), 2, theSeen(), 0),
		octets(5, uint64(trace), theB(), 1, none, 1),
		octets(5, uint64(trace), theB(), 1, theSeen(), 4),
		octets(5, uint64(trace), theB(), 0, theSeen(), 1),
		octets(5, uint64(trace), theB(), 0, none, 0),
		octets(6, uint64(trace), theB(), 0),
		octets(6, uint64(trace), theB(), 4),
		octets(6, uint64(trace), theB(), 255),
		octets(7, uint64(trace), theB(), 1),
		octets(7, uint64(trace), theB(), 2, none),
		octets(7, uint64(trace), theB(), 0, none),
		octets(7, uint64(trace), theB(), 1, theSeen()),
		octets(8, uint64(trace), 0),
		octets(8, uint64(trace), 4),
		octets(8, uint64(0), 1),
		octets(10, uint64(trace), 0),
		octets(10, uint64(trace), 1, uint64(0)),
		octets(10, uint64(trace), 2, uint64(2), uint64(1)),
		octets(10, uint64(trace), 2, uint64(2), uint64(2)),
		octets(10, uint64(trace), 17, someIds(17)),
	} {
		dataFail(t, "data that are not right", data)
	}
}

func TestP503SpansInTheDataThatAreNotRight(t *testing.T) {
	head := octets(1, uint64(trace), 1)
	good := octets(someSpans(trace, 1))
	for _, change := range []func(b []byte){
		func(b []byte) { b[40] = 2 },      // Fail is neither 1 nor 0
		func(b []byte) { b[41] = 0 },      // a name's length
		func(b []byte) { b[41] = 33 },     //
		func(b []byte) { b[42] = 0xff },   // a name that is none
		func(b []byte) { clear(b[:8]) },   // no trace
		func(b []byte) { clear(b[8:16]) }, // no Id
		func(b []byte) { b[24] = 1 },      // Start above MaxTime
	} {
		b := bytes.Clone(good)
		change(b)
		dataFail(t, "a span that is not right", slices.Concat(head, b))
	}
	decodeTells(t, framed(t, slices.Concat(head, good)), api.Packet{Kind: api.Forward, Trace: trace, Spans: someSpans(trace, 1)})
}

func TestP503BytesStayAsTheyWere(t *testing.T) {
	for _, c := range tolds() {
		room := append(framed(t, c.data), 1, 2, 3)
		was := bytes.Clone(room)
		b := room[:len(room)-3]
		p, _ := message.Decode(b)
		if !bytes.Equal(room, was) {
			t.Errorf("Decode changed % x", was)
		}
		clear(room)
		if !alike(p, c.p) {
			t.Errorf("Decode of % x shares memory with it", was)
		}
	}
}

func TestP504WhatWasEncodedIsDecoded(t *testing.T) {
	for _, c := range tolds() {
		decodeTells(t, encoded(t, c.p), c.p)
	}
}

func TestP504OfAndPacketAreTurnedByOneAnother(t *testing.T) {
	for _, c := range tolds() {
		m, _ := message.Of(c.p)
		if p, k := message.Packet(m); !alike(p, c.p) || k != api.OK {
			t.Errorf("Packet of Of of %+v: %+v %d", c.p, p, k)
		}
		p, _ := message.Packet(c.m)
		if m, k := message.Of(p); !reflect.DeepEqual(m, c.m) || k != api.OK {
			t.Errorf("Of of Packet of %#v: %#v %d", c.m, m, k)
		}
	}
}
