package message

import (
	"cmp"
	"slices"

	"winnow/api"
	"winnow/span"
)

// parts is what packets of some Kind have beside it, in the order of their
// bytes.
type parts struct {
	trace, ballot bool
	answer        bool // Ok and Seen
	verdict       bool
	spans         bool
	members       bool
	ids           bool
}

// partsOf is what the packets of that Kind have; of what is no Kind nothing.
func partsOf(kind int) parts {
	switch kind {
	case api.Forward, api.Handoff:
		return parts{trace: true, spans: true}
	case api.Gossip:
		return parts{members: true}
	case api.Prepare:
		return parts{trace: true, ballot: true}
	case api.Promise:
		return parts{trace: true, ballot: true, answer: true, verdict: true}
	case api.Accept:
		return parts{trace: true, ballot: true, verdict: true}
	case api.Accepted:
		return parts{trace: true, ballot: true, answer: true}
	case api.Tell:
		return parts{trace: true, verdict: true}
	case api.Write:
		return parts{trace: true, ballot: true, spans: true}
	case api.Ack:
		return parts{trace: true, ids: true}
	}
	return parts{}
}

// Right is OK, if p is right, else BadForm.
func Right(p api.Packet) api.Kind {
	has := partsOf(p.Kind)
	if has == (parts{}) {
		return api.BadForm
	}
	if has.numbersRight(p) && has.answerRight(p) && has.listsRight(p) {
		return api.OK
	}
	return api.BadForm
}

// numbersRight asks for the trace, the ballot and the verdict.
func (has parts) numbersRight(p api.Packet) bool {
	if has.trace != (p.Trace != 0) {
		return false
	}
	if has.ballot && p.B.N == 0 || !has.ballot && p.B != (api.Ballot{}) {
		return false
	}
	least, most := api.None, api.None
	if has.verdict {
		least, most = api.Keep, api.Over
	}
	if has.answer {
		least = api.None // a replica may have accepted nothing yet
	}
	return p.V >= least && p.V <= most
}

// answerRight asks for Ok, Seen, and a verdict that fits them.
func (has parts) answerRight(p api.Packet) bool {
	seen := p.Seen != (api.Ballot{})
	taken := p.V != api.None
	switch {
	case !has.answer:
		return !p.Ok && !seen
	case p.Ok: // Seen is what V was accepted under
		return seen == taken
	}
	return seen && !taken // Seen is what stands against it
}

// listsRight asks for the lists, each one for its length first, so that a list
// that is far too long is not gone through.
func (has parts) listsRight(p api.Packet) bool {
	return lengthRight(has.spans, len(p.Spans), api.MaxSpans) && spansRight(p.Trace, p.Spans) &&
		lengthRight(has.members, len(p.Members), api.MaxMembers) && membersRight(p.Members) &&
		lengthRight(has.ids, len(p.Ids), api.MaxSpans) && rises(p.Ids, func(id uint64) uint64 { return id })
}

// lengthRight asks for 1 to most where there is such a list, else for none.
func lengthRight(is bool, length, most int) bool {
	if is {
		return length >= 1 && length <= most
	}
	return length == 0
}

// spansRight asks for right spans of the trace, no two of one Id.
func spansRight(trace uint64, l []api.Span) bool {
	for _, s := range l {
		if s.Trace != trace || span.Right(s) != api.OK {
			return false
		}
	}
	byId := slices.SortedFunc(slices.Values(l), func(a, b api.Span) int { return cmp.Compare(a.Id, b.Id) })
	return rises(byId, func(s api.Span) uint64 { return s.Id })
}

// membersRight asks for right members that rise.
func membersRight(l []api.Member) bool {
	for _, m := range l {
		if m.Inc == 0 || m.State < api.Alive || m.State > api.Gone {
			return false
		}
	}
	return rises(l, func(m api.Member) uint64 { return m.Id })
}

// rises tells whether the items' numbers rise, from 1 on, no two alike.
func rises[T any](l []T, number func(item T) uint64) bool {
	last := uint64(0)
	for _, item := range l {
		n := number(item)
		if n <= last {
			return false
		}
		last = n
	}
	return true
}
