package message

import (
	"bytes"

	"winnow/api"
	"winnow/frame"
	"winnow/span"
)

// Encode is p as a frame.
func Encode(p api.Packet) ([]byte, api.Kind) {
	if k := Right(p); k != api.OK {
		return nil, k
	}
	return frame.Put(nil, written(p))
}

// Decode is the packet whose frame b is.
func Decode(b []byte) (api.Packet, api.Kind) {
	data, _, k := frame.Cut(b)
	if k != api.OK {
		return api.Packet{}, k
	}
	p := read(data)
	// A packet has one frame only: what was read too kindly, bytes that end too
	// soon, or that are left, a truth that is neither 1 nor 0, is put in another
	// way, if at all.
	again, k := Encode(p)
	if k != api.OK || !bytes.Equal(again, b) {
		return api.Packet{}, api.BadForm
	}
	return p, api.OK
}

// written is the data of a right packet.
func written(p api.Packet) []byte {
	has := partsOf(p.Kind)
	b := []byte{byte(p.Kind)}
	if has.trace {
		b = putNumbers(b, p.Trace)
	}
	if has.ballot {
		b = putNumbers(b, p.B.N, p.B.Node)
	}
	if has.answer {
		b = putTruth(b, p.Ok)
		b = putNumbers(b, p.Seen.N, p.Seen.Node)
	}
	if has.verdict {
		b = append(b, byte(p.V))
	}
	if has.spans {
		b = append(b, byte(len(p.Spans)))
		for _, s := range p.Spans {
			b, _ = span.Put(b, s) // of a right packet all spans are
		}
	}
	if has.members {
		b = append(b, byte(len(p.Members)))
		for _, m := range p.Members {
			b = putNumbers(b, m.Id, m.Inc)
			b = append(b, byte(m.State))
		}
	}
	if has.ids {
		b = append(b, byte(len(p.Ids)))
		b = putNumbers(b, p.Ids...)
	}
	return b
}

// putNumbers appends each number, its highest byte first.
func putNumbers(b []byte, numbers ...uint64) []byte {
	for _, n := range numbers {
		for shift := 56; shift >= 0; shift -= 8 {
			b = append(b, byte(n>>shift))
		}
	}
	return b
}

// putTruth appends 1 for true, 0 for false.
func putTruth(b []byte, is bool) []byte {
	if is {
		return append(b, 1)
	}
	return append(b, 0)
}

// read is the packet that the data tell, right or not.
func read(data []byte) api.Packet {
	r := &reader{left: data}
	p := api.Packet{Kind: int(r.octet())}
	has := partsOf(p.Kind)
	if has.trace {
		p.Trace = r.number()
	}
	if has.ballot {
		p.B = r.ballot()
	}
	if has.answer {
		p.Ok = r.octet() == 1
		p.Seen = r.ballot()
	}
	if has.verdict {
		p.V = api.Verdict(r.octet())
	}
	if has.spans {
		for range r.octet() {
			p.Spans = append(p.Spans, r.span())
		}
	}
	if has.members {
		for range r.octet() {
			p.Members = append(p.Members, r.member())
		}
	}
	if has.ids {
		for range r.octet() {
			p.Ids = append(p.Ids, r.number())
		}
	}
	return p
}

// reader takes one thing after another from the bytes that are left; where
// they end too soon, it goes on as if noughts followed.
type reader struct{ left []byte }

// octet takes a byte.
func (r *reader) octet() byte {
	if len(r.left) == 0 {
		return 0
	}
	first := r.left[0]
	r.left = r.left[1:]
	return first
}

// number takes a number, its highest byte first.
func (r *reader) number() uint64 {
	var n uint64
	for range 8 {
		n = n<<8 | uint64(r.octet())
	}
	return n
}

// ballot takes a ballot.
func (r *reader) ballot() api.Ballot {
	n := r.number()
	return api.Ballot{N: n, Node: r.number()}
}

// member takes a member.
func (r *reader) member() api.Member {
	id := r.number()
	inc := r.number()
	return api.Member{Id: id, Inc: inc, State: int(r.octet())}
}

// span takes a span; the zero one, and all that is left, if there is no right
// one.
func (r *reader) span() api.Span {
	s, rest, _ := span.Cut(r.left)
	r.left = rest
	return s
}
