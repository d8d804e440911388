package register_test

import (
	"math"
	"math/bits"
	"math/rand"
	"reflect"
	"slices"
	"testing"

	"winnow/api"
	"winnow/ballot"
	"winnow/message"
	"winnow/register"
)

// end is the greatest number there is.
const end uint64 = math.MaxUint64

// of is the ballot with that N, of that node.
func of(n, node uint64) api.Ballot { return api.Ballot{N: n, Node: node} }

// risings has ballots at the edges, each above all those ahead of it.
func risings() []api.Ballot {
	return []api.Ballot{
		{}, of(0, 1), of(0, end),
		of(1, 0), of(1, 1), of(1, 2), of(1, end),
		of(2, 0), of(2, 1),
		of(1<<63-1, 1<<63), of(1<<63, 1),
		of(end-1, end), of(end, 0), of(end, end-1), of(end, end),
	}
}

// verdicts has those that there are, and what is none.
func verdicts() []api.Verdict {
	return []api.Verdict{math.MinInt, -1, api.None, api.Keep, api.Drop, api.Over, 4, 257, math.MaxInt}
}

// told has the verdicts that can be taken.
func told() []api.Verdict { return []api.Verdict{api.Keep, api.Drop, api.Over} }

// taken is the register that has taken v under b, and promised no more.
func taken(b api.Ballot, v api.Verdict) register.Reg {
	return register.Reg{Promised: b, Taken: b, V: v}
}

// places is a register's ballots as places in risings, so that what is above is
// told without the program.
type places struct {
	promised, taken int
	r               register.Reg
}

// all has every register of those ballots and verdicts, right or not.
func all() []places {
	var l []places
	for i, promised := range risings() {
		for j, takenBy := range risings() {
			for _, v := range verdicts() {
				l = append(l, places{i, j, register.Reg{Promised: promised, Taken: takenBy, V: v}})
			}
		}
	}
	return l
}

// isRight says it as the chapter does.
func (p places) isRight() bool {
	zero, none := p.taken == 0, p.r.V == api.None
	return p.taken <= p.promised && slices.Contains([]api.Verdict{0, 1, 2, 3}, p.r.V) && zero == none
}

// rights has the right ones of all.
func rights() []places {
	return slices.DeleteFunc(all(), func(p places) bool { return !p.isRight() })
}

// rightIs holds Right to that answer.
func rightIs(t *testing.T, r register.Reg, want bool) {
	t.Helper()
	if got := register.Right(r); got != want {
		t.Errorf("Right of %v: %v", r, got)
	}
}

// prepareIs holds Prepare to that register and that answer.
func prepareIs(t *testing.T, r register.Reg, b api.Ballot, want register.Reg, ok bool) {
	t.Helper()
	if got, is := register.Prepare(r, b); got != want || is != ok {
		t.Errorf("Prepare of %v, %v: %v %v, not %v %v", r, b, got, is, want, ok)
	}
}

// acceptIs holds Accept to that register and that answer.
func acceptIs(t *testing.T, r register.Reg, b api.Ballot, v api.Verdict, want register.Reg, ok bool) {
	t.Helper()
	if got, is := register.Accept(r, b, v); got != want || is != ok {
		t.Errorf("Accept of %v, %v, %d: %v %v, not %v %v", r, b, v, got, is, want, ok)
	}
}

// answerIs holds Answer to that packet.
func answerIs(t *testing.T, r register.Reg, trace uint64, b api.Ballot, ok, took bool, want api.Packet) {
	t.Helper()
	if got := register.Answer(r, trace, b, ok, took); !reflect.DeepEqual(got, want) {
		t.Errorf("Answer of %v, %v, %v, %v, %v: %v, not %v", r, trace, b, ok, took, got, want)
	}
}

func TestP1201Right(t *testing.T) {
	rightIs(t, register.Reg{}, true)
	rightIs(t, register.Reg{Promised: of(3, 1)}, true)
	rightIs(t, register.Reg{Promised: of(end, end)}, true)
	for _, v := range told() {
		rightIs(t, taken(of(3, 1), v), true)
		rightIs(t, register.Reg{Promised: of(4, 1), Taken: of(3, 9), V: v}, true)
		rightIs(t, register.Reg{Promised: of(3, 2), Taken: of(3, 1), V: v}, true)
		rightIs(t, taken(of(end, end), v), true)
		rightIs(t, taken(of(0, 1), v), true) // of N 0, but not the zero ballot
		rightIs(t, register.Reg{V: v}, false)
		rightIs(t, register.Reg{Promised: of(3, 1), V: v}, false)
		rightIs(t, register.Reg{Taken: of(3, 1), V: v}, false)
		rightIs(t, register.Reg{Promised: of(3, 1), Taken: of(3, 2), V: v}, false)
		rightIs(t, register.Reg{Promised: of(3, 9), Taken: of(4, 1), V: v}, false)
	}
	for _, v := range []api.Verdict{math.MinInt, -1, api.None, 4, 256 + 1, math.MaxInt} {
		rightIs(t, taken(of(3, 1), v), false)
		rightIs(t, taken(of(0, 1), v), false)
		rightIs(t, register.Reg{Promised: of(3, 1), V: v}, v == api.None)
	}
}

func TestP1201RightAtAllEdges(t *testing.T) {
	n := 0
	for _, p := range all() {
		rightIs(t, p.r, p.isRight())
		if p.isRight() {
			n++
		}
	}
	// Each ballot may be promised with nothing taken; else 1 of 3 verdicts was
	// taken under a ballot up to it.
	if c := len(risings()); n != c+3*c*(c-1)/2 {
		t.Errorf("%d right ones of %d ballots", n, c)
	}
}

func TestP1202Prepare(t *testing.T) {
	three := register.Reg{Promised: of(3, 1)}
	prepareIs(t, three, of(2, 1), three, false) // the chapter's example
	prepareIs(t, three, of(2, 9), three, false)
	prepareIs(t, three, of(3, 0), three, false)
	prepareIs(t, three, of(3, 1), three, true)
	prepareIs(t, three, of(3, 2), register.Reg{Promised: of(3, 2)}, true)
	prepareIs(t, three, of(4, 0), register.Reg{Promised: of(4, 0)}, true)
	prepareIs(t, register.Reg{}, of(1, 0), register.Reg{Promised: of(1, 0)}, true)
	prepareIs(t, register.Reg{}, of(end, end), register.Reg{Promised: of(end, end)}, true)
	most := register.Reg{Promised: of(end, end)}
	prepareIs(t, most, of(end, end-1), most, false)
	prepareIs(t, most, of(end, end), most, true)

	// What was taken stays.
	drop := taken(of(3, 1), api.Drop)
	prepareIs(t, drop, of(3, 1), drop, true)
	prepareIs(t, drop, of(5, 2), register.Reg{Promised: of(5, 2), Taken: of(3, 1), V: api.Drop}, true)
	prepareIs(t, drop, of(2, 9), drop, false)
}

func TestP1202PrepareOfBallotsOfNothing(t *testing.T) {
	for _, r := range []register.Reg{{}, {Promised: of(0, 1)}, {Promised: of(3, 1)}, taken(of(3, 1), api.Keep), {V: 9}} {
		for _, node := range []uint64{0, 1, 2, end} {
			prepareIs(t, r, of(0, node), r, false)
		}
	}
}

func TestP1202PrepareAtAllEdges(t *testing.T) {
	for _, p := range all() {
		for i, b := range risings() {
			if b.N == 0 || i < p.promised {
				prepareIs(t, p.r, b, p.r, false)
				continue
			}
			prepareIs(t, p.r, b, register.Reg{Promised: b, Taken: p.r.Taken, V: p.r.V}, true)
		}
	}
}

func TestP1203Accept(t *testing.T) {
	three := register.Reg{Promised: of(3, 1)}
	acceptIs(t, three, of(3, 1), api.Keep, taken(of(3, 1), api.Keep), true) // the chapter's example
	for _, v := range told() {
		acceptIs(t, register.Reg{}, of(1, 0), v, taken(of(1, 0), v), true)
		acceptIs(t, three, of(3, 1), v, taken(of(3, 1), v), true)
		acceptIs(t, three, of(3, 2), v, taken(of(3, 2), v), true)
		acceptIs(t, three, of(end, end), v, taken(of(end, end), v), true)
		acceptIs(t, three, of(3, 0), v, three, false)
		acceptIs(t, three, of(2, end), v, three, false)
		acceptIs(t, three, of(0, 1), v, three, false)
		acceptIs(t, three, of(0, 0), v, three, false)
		acceptIs(t, register.Reg{}, of(0, 0), v, register.Reg{}, false)
		acceptIs(t, register.Reg{}, of(0, end), v, register.Reg{}, false)
	}
	for _, v := range []api.Verdict{math.MinInt, -1, api.None, 4, 256 + 1, math.MaxInt} {
		acceptIs(t, three, of(3, 1), v, three, false)
		acceptIs(t, three, of(4, 1), v, three, false)
		acceptIs(t, taken(of(3, 1), v), of(3, 1), v, taken(of(3, 1), v), false)
	}
}

func TestP1203AcceptOfAnotherVerdict(t *testing.T) {
	keep := taken(of(3, 1), api.Keep)
	acceptIs(t, keep, of(3, 1), api.Keep, keep, true)
	acceptIs(t, keep, of(3, 1), api.Drop, keep, false)
	acceptIs(t, keep, of(3, 1), api.Over, keep, false)
	acceptIs(t, keep, of(3, 2), api.Drop, taken(of(3, 2), api.Drop), true)
	acceptIs(t, keep, of(4, 1), api.Over, taken(of(4, 1), api.Over), true)

	// A later promise stands against the ballot, whatever the verdict.
	later := register.Reg{Promised: of(5, 1), Taken: of(3, 1), V: api.Keep}
	acceptIs(t, later, of(3, 1), api.Keep, later, false)
	acceptIs(t, later, of(3, 1), api.Drop, later, false)
	acceptIs(t, later, of(4, 1), api.Keep, later, false)
	acceptIs(t, later, of(5, 1), api.Drop, taken(of(5, 1), api.Drop), true)

	// A part of the ballot that was taken is another ballot.
	first := register.Reg{Promised: of(3, 1), Taken: of(2, 1), V: api.Keep}
	acceptIs(t, first, of(3, 1), api.Drop, taken(of(3, 1), api.Drop), true)
	acceptIs(t, register.Reg{Promised: of(1, 1), Taken: of(1, 1), V: api.Keep}, of(1, 2), api.Drop, taken(of(1, 2), api.Drop), true)
}

func TestP1203AcceptAtAllEdges(t *testing.T) {
	for _, p := range all() {
		for i, b := range risings() {
			for _, v := range verdicts() {
				if i < p.promised || b.N == 0 || !slices.Contains(told(), v) || i == p.taken && v != p.r.V {
					acceptIs(t, p.r, b, v, p.r, false)
					continue
				}
				acceptIs(t, p.r, b, v, taken(b, v), true)
			}
		}
	}
}

func TestP1204Answer(t *testing.T) {
	b := of(7, 2)
	empty := register.Reg{Promised: b}
	drop := register.Reg{Promised: b, Taken: of(3, 1), V: api.Drop}
	higher := register.Reg{Promised: of(9, 4), Taken: of(3, 1), V: api.Drop}
	answerIs(t, empty, 5, b, true, false, api.Packet{Kind: api.Promise, Trace: 5, B: b, Ok: true})
	answerIs(t, drop, 5, b, true, false, api.Packet{Kind: api.Promise, Trace: 5, B: b, Ok: true, Seen: of(3, 1), V: api.Drop})
	answerIs(t, higher, 5, b, false, false, api.Packet{Kind: api.Promise, Trace: 5, B: b, Seen: of(9, 4)})
	answerIs(t, taken(b, api.Drop), 5, b, true, true, api.Packet{Kind: api.Accepted, Trace: 5, B: b, Ok: true})
	answerIs(t, higher, 5, b, false, true, api.Packet{Kind: api.Accepted, Trace: 5, B: b, Seen: of(9, 4)})
	answerIs(t, taken(b, api.Keep), 5, b, false, true, api.Packet{Kind: api.Accepted, Trace: 5, B: b, Seen: b})
}

func TestP1204AnswerAtAllEdges(t *testing.T) {
	for _, p := range all() {
		for _, trace := range []uint64{0, 1, end} {
			for _, b := range []api.Ballot{{}, of(0, 1), of(1, 0), of(end, end)} {
				head := api.Packet{Kind: api.Promise, Trace: trace, B: b}
				refused, promised, accepted, refusedLate := head, head, head, head
				refused.Seen, refusedLate.Seen = p.r.Promised, p.r.Promised
				promised.Ok, promised.Seen, promised.V = true, p.r.Taken, p.r.V
				accepted.Kind, refusedLate.Kind, accepted.Ok = api.Accepted, api.Accepted, true
				answerIs(t, p.r, trace, b, false, false, refused)
				answerIs(t, p.r, trace, b, true, false, promised)
				answerIs(t, p.r, trace, b, true, true, accepted)
				answerIs(t, p.r, trace, b, false, true, refusedLate)
			}
		}
	}
}

// TestP1204AnswersAreRight: what a replica with a right register tells is a right
// packet, whatever it is asked.
func TestP1204AnswersAreRight(t *testing.T) {
	hold := func(r register.Reg, b api.Ballot, ok, took bool) {
		t.Helper()
		p := register.Answer(r, 8, b, ok, took)
		if k := message.Right(p); k != api.OK {
			t.Errorf("Answer of %v, %v, %v, %v: %v: %d", r, b, ok, took, p, k)
		}
	}
	for _, p := range rights() {
		for _, b := range risings() {
			if b.N == 0 {
				continue // no packet asks so
			}
			r, ok := register.Prepare(p.r, b)
			hold(r, b, ok, false)
			for _, v := range told() {
				r, ok := register.Accept(p.r, b, v)
				hold(r, b, ok, true)
			}
		}
	}
}

// fell tells whether the later register is not right, or has less than the
// earlier one.
func fell(earlier, later register.Reg) bool {
	return !register.Right(later) || ballot.Less(later.Promised, earlier.Promised) || ballot.Less(later.Taken, earlier.Taken)
}

func TestP1205RightOnesStayRight(t *testing.T) {
	for _, p := range rights() {
		for _, b := range risings() {
			if r, _ := register.Prepare(p.r, b); fell(p.r, r) {
				t.Errorf("Prepare of %v, %v: %v", p.r, b, r)
			}
			for _, v := range verdicts() {
				if r, _ := register.Accept(p.r, b, v); fell(p.r, r) {
					t.Errorf("Accept of %v, %v, %d: %v", p.r, b, v, r)
				}
			}
		}
	}
}

// TestP1205WalksNeverFall goes from the zero register on, by whatever comes.
func TestP1205WalksNeverFall(t *testing.T) {
	rnd := rand.New(rand.NewSource(1205))
	for range 3000 {
		var r register.Reg
		for range 40 {
			b := of(uint64(rnd.Intn(6)), uint64(rnd.Intn(4)))
			v := api.Verdict(rnd.Intn(6) - 1)
			next, ok := register.Prepare(r, b)
			if rnd.Intn(2) == 0 {
				next, ok = register.Accept(r, b, v)
			}
			if fell(r, next) || !ok && next != r {
				t.Fatalf("%v by %v, %d: %v %v", r, b, v, next, ok)
			}
			r = next
		}
	}
}

// count is how many registers, and proposals, the small worlds have.
const count = 3

// small is a world of a few registers, and of proposals, each with a ballot and
// a want of its own: as much of it as what comes hangs on. What was asked may
// come at any time, and again; what is answered is heard, or lost.
type small struct {
	regs  [count]register.Reg
	props [count]proposal
}

// proposal is what one has heard, or what it proposes; and who took that.
type proposal struct {
	heard uint8
	best  api.Ballot
	v     api.Verdict
	out   bool
	took  uint8
}

// most tells whether that set of registers is more than half of n.
func most(set uint8, n int) bool { return 2*bits.OnesCount8(set) > n }

// want is what the proposal of that place wants.
func want(i int) api.Verdict { return told()[i] }

// own is its ballot: none is any other's, and two differ by their nodes alone.
func own(i int) api.Ballot { return of(uint64(1+i/2), uint64(1+i)) }

// nexts is the worlds that may come next by that proposal and that register.
func (w small) nexts(i, j int) []small {
	p, b := w.props[i], own(i)
	promised, ok := register.Prepare(w.regs[j], b)
	lost := w
	lost.regs[j] = promised
	l := []small{lost}
	if p.out {
		accepted := w
		if accepted.regs[j], ok = register.Accept(w.regs[j], b, p.v); ok {
			accepted.props[i].took |= 1 << j
		}
		return append(l, accepted)
	}
	if ok {
		heard := lost
		heard.props[i] = p.hear(j, register.Answer(promised, 1, b, true, false))
		l = append(l, heard)
	}
	if most(p.heard, count) {
		w.props[i] = p.propose(want(i))
		l = append(l, w)
	}
	return l
}

// hear takes in the promise of that register.
func (p proposal) hear(j int, a api.Packet) proposal {
	p.heard |= 1 << j
	if a.V != api.None && ballot.Less(p.best, a.Seen) {
		p.best, p.v = a.Seen, a.V
	}
	return p
}

// propose goes on to what was taken highest, or else to what it wants.
func (p proposal) propose(want api.Verdict) proposal {
	if p.v == api.None {
		p.v = want
	}
	return proposal{v: p.v, out: true}
}

// chosen has the verdicts that more than half took under one ballot.
func (w small) chosen() []api.Verdict {
	var l []api.Verdict
	for _, p := range w.props {
		if most(p.took, count) && !slices.Contains(l, p.v) {
			l = append(l, p.v)
		}
	}
	return l
}

// TestP1205OneVerdictInAllSmallWorlds goes through every world that can come
// about.
func TestP1205OneVerdictInAllSmallWorlds(t *testing.T) {
	seen := map[small]struct{}{{}: {}}
	work := []small{{}}
	firsts, yielded := map[api.Verdict]int{}, 0
	for len(work) > 0 {
		w := work[len(work)-1]
		work = work[:len(work)-1]
		l := w.chosen()
		if len(l) > 1 {
			t.Fatalf("two verdicts: %v", w)
		}
		for i, p := range w.props {
			if len(l) == 1 {
				firsts[l[0]]++
			}
			if p.out && p.v != want(i) {
				yielded++
			}
		}
		for i := range count {
			for j := range count {
				for _, next := range w.nexts(i, j) {
					if fell(w.regs[j], next.regs[j]) {
						t.Fatalf("register %d: %v behind %v", j, next, w)
					}
					if _, is := seen[next]; !is {
						seen[next] = struct{}{}
						work = append(work, next)
					}
				}
			}
		}
	}
	if len(firsts) != len(told()) || yielded == 0 {
		t.Errorf("of %d worlds too few show anything: %v chosen, %d yielded", len(seen), firsts, yielded)
	}
}

// letter is a packet on its way between a register and a proposal.
type letter struct {
	reg, prop int
	p         api.Packet
}

// great is a world of more registers and proposals, which go by letters.
type great struct {
	rnd   *rand.Rand
	regs  []register.Reg
	props []proposal
	bs    []api.Ballot
	wants []api.Verdict
	net   []letter
}

// start begins a proposal of some node, above all those of its own, so that it
// is another one, and above some of the others'.
func (g *great) start(nodes int) {
	node := uint64(1 + g.rnd.Intn(nodes))
	var seen []api.Ballot
	for _, b := range g.bs {
		if b.Node == node || g.rnd.Intn(2) == 0 {
			seen = append(seen, b)
		}
	}
	b, k := ballot.Next(ballot.Max(seen), 0, node)
	if k != api.OK {
		panic(k)
	}
	g.props, g.bs = append(g.props, proposal{}), append(g.bs, b)
	g.wants = append(g.wants, told()[g.rnd.Intn(3)])
	g.ask(len(g.props)-1, message.Ask{Trace: 1, B: b})
}

// ask sends that to all registers.
func (g *great) ask(i int, a message.Ask) {
	p, k := message.Packet(a)
	if k != api.OK {
		panic(k)
	}
	for j := range g.regs {
		g.net = append(g.net, letter{j, i, p})
	}
}

// move has some letter come, which may be lost, or come again.
func (g *great) move(t *testing.T) {
	at := g.rnd.Intn(len(g.net))
	l := g.net[at]
	if g.rnd.Intn(4) > 0 {
		g.net = slices.Delete(g.net, at, at+1)
	}
	if g.rnd.Intn(6) == 0 {
		return
	}
	switch l.p.Kind {
	case api.Prepare, api.Accept:
		g.asked(t, l)
	case api.Promise:
		g.heard(l)
	}
}

// asked has a register answer.
func (g *great) asked(t *testing.T, l letter) {
	took := l.p.Kind == api.Accept
	r, ok := register.Prepare(g.regs[l.reg], l.p.B)
	if took {
		r, ok = register.Accept(g.regs[l.reg], l.p.B, l.p.V)
	}
	if fell(g.regs[l.reg], r) {
		t.Fatalf("%v behind %v by %v", r, g.regs[l.reg], l.p)
	}
	g.regs[l.reg] = r
	if took && ok {
		g.props[l.prop].took |= 1 << l.reg
	}
	a := register.Answer(r, l.p.Trace, l.p.B, ok, took)
	if k := message.Right(a); k != api.OK {
		t.Fatalf("no right packet: %v", a)
	}
	g.net = append(g.net, letter{l.reg, l.prop, a})
}

// heard has a proposal hear a promise.
func (g *great) heard(l letter) {
	p := &g.props[l.prop]
	if !l.p.Ok || p.out {
		return
	}
	if *p = p.hear(l.reg, l.p); most(p.heard, len(g.regs)) {
		*p = p.propose(g.wants[l.prop])
		g.ask(l.prop, message.Ask{Trace: l.p.Trace, B: l.p.B, V: p.v})
	}
}

// chosen has the verdicts that more than half took under one ballot, one for
// each such ballot.
func (g *great) chosen() []api.Verdict {
	var l []api.Verdict
	for _, p := range g.props {
		if most(p.took, len(g.regs)) {
			l = append(l, p.v)
		}
	}
	return l
}

func TestP1205OneVerdictInManyGreatWorlds(t *testing.T) {
	rnd := rand.New(rand.NewSource(12050))
	once, again := 0, 0
	for range 3000 {
		g := &great{rnd: rnd, regs: make([]register.Reg, 1+rnd.Intn(api.MaxReplicas))}
		nodes := 1 + rnd.Intn(4)
		for range 120 {
			if len(g.net) == 0 || rnd.Intn(20) == 0 {
				g.start(nodes)
			}
			g.move(t)
		}
		l := g.chosen()
		if len(slices.Compact(slices.Sorted(slices.Values(l)))) > 1 {
			t.Fatalf("%d registers took %d by more than half: %v", len(g.regs), l, g.props)
		}
		once += min(len(l), 1)
		again += min(max(len(l)-1, 0), 1)
	}
	if once < 500 || again < 100 {
		t.Errorf("%d worlds with a verdict, %d with it under two ballots", once, again)
	}
}
