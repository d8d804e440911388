package gossip_test

import (
	"cmp"
	"maps"
	"math"
	"math/rand"
	"slices"
	"testing"

	"winnow/api"
	"winnow/gossip"
	"winnow/view"
)

// end is the greatest number there is.
const end uint64 = math.MaxUint64

// members is what a view is made of.
type members = []api.Member

// alive, suspect, gone are members in that state.
func alive(id, inc uint64) api.Member   { return api.Member{Id: id, Inc: inc, State: api.Alive} }
func suspect(id, inc uint64) api.Member { return api.Member{Id: id, Inc: inc, State: api.Suspect} }
func gone(id, inc uint64) api.Member    { return api.Member{Id: id, Inc: inc, State: api.Gone} }

// firsts is n members with the Ids from the first one on, alive, Inc 1.
func firsts(first uint64, n int) members {
	var v members
	for i := range n {
		v = append(v, alive(first+uint64(i), 1))
	}
	return v
}

// wrongs has lists that are no views.
func wrongs() []members {
	return []members{
		{{}},
		{alive(0, 1)},
		{alive(2, 0)},
		{gone(2, 0)},
		{{Id: 2, Inc: 1, State: -1}},
		{{Id: 2, Inc: 1, State: 3}},
		{{Id: 2, Inc: 1, State: math.MaxInt}},
		{{Id: 2, Inc: 1, State: math.MinInt}},
		{alive(2, 1), alive(2, 1)},
		{alive(3, 1), alive(2, 1)},
		{alive(2, 1), alive(4, 1), alive(3, 1)},
		{alive(2, 1), suspect(3, 0)},
		firsts(1, api.MaxMembers+1),
		firsts(50, 1000),
		make(members, 1<<16),
	}
}

// node is a new one.
func node(t *testing.T, self, inc, period, wait, now uint64) *gossip.Node {
	t.Helper()
	n, k := gossip.New(self, inc, period, wait, now)
	if n == nil || k != api.OK {
		t.Fatalf("New of %d %d %d %d %d: %v %d", self, inc, period, wait, now, n, k)
	}
	return n
}

// knowing is node 5, Inc 7, of period 1 and wait 10, that has heard the members
// at time 100, from nobody, and did not tick yet.
func knowing(t *testing.T, l ...api.Member) *gossip.Node {
	t.Helper()
	n := node(t, 5, 7, 1, 10, 100)
	hears(t, n, 0, l, 100, api.OK)
	return n
}

// hears holds Hear to that kind.
func hears(t *testing.T, n *gossip.Node, from uint64, l members, now uint64, want api.Kind) {
	t.Helper()
	if k := n.Hear(from, l, now); k != want {
		t.Errorf("Hear from %d of %x at %d: %d, not %d", from, l[:min(len(l), 20)], now, k, want)
	}
}

// sees holds the node's view to that.
func sees(t *testing.T, n *gossip.Node, want ...api.Member) {
	t.Helper()
	if v := n.View(); !slices.Equal(v, want) {
		t.Errorf("View: %x, not %x", v, want)
	}
}

// tells holds Tick to those Ids.
func tells(t *testing.T, n *gossip.Node, now, pick uint64, want ...uint64) {
	t.Helper()
	if ids := n.Tick(now, pick); !slices.Equal(ids, want) {
		t.Errorf("Tick at %d, %d: %d, not %d", now, pick, ids, want)
	}
}

// stateIs holds the state of the view's member of that Id to the one that should
// be, and its Inc to 1.
func stateIs(t *testing.T, n *gossip.Node, id uint64, want int) {
	t.Helper()
	if m, has := view.Find(n.View(), id); m != (api.Member{Id: id, Inc: 1, State: want}) || !has {
		t.Errorf("member %d: %x %v, not of State %d", id, m, has, want)
	}
}

func TestP1001New(t *testing.T) {
	for _, self := range []uint64{1, 2, 1 << 40, end} {
		for _, inc := range []uint64{1, 2, 1 << 63, end} {
			for _, ticks := range []uint64{1, 2, api.MaxTime - 1, api.MaxTime} {
				for _, now := range []uint64{0, 1, api.MaxTime + 1, end} {
					for _, n := range []*gossip.Node{node(t, self, inc, ticks, 1, now), node(t, self, inc, 1, ticks, now)} {
						sees(t, n, alive(self, inc))
						if m := n.Self(); m != alive(self, inc) {
							t.Errorf("Self: %x", m)
						}
					}
				}
			}
		}
	}
}

func TestP1001NewOfWrongThings(t *testing.T) {
	for _, c := range [][4]uint64{
		{0, 1, 1, 1},
		{1, 0, 1, 1},
		{1, 1, 0, 1},
		{1, 1, 1, 0},
		{1, 1, api.MaxTime + 1, 1},
		{1, 1, 1, api.MaxTime + 1},
		{1, 1, end, 1},
		{1, 1, 1, end},
		{1, 1, 1 << 63, 1},
		{1, 1, 1, 1 << 63},
		{0, 0, 0, 0},
		{end, end, end, end},
	} {
		for _, now := range []uint64{0, 1, end} {
			if n, k := gossip.New(c[0], c[1], c[2], c[3], now); n != nil || k != api.BadArg {
				t.Errorf("New of %d at %d: %v %d, not nil and 1", c, now, n, k)
			}
		}
	}
}

func TestP1001TwoNodesShareNothing(t *testing.T) {
	one, other := node(t, 1, 1, 1, 1, 0), node(t, 1, 1, 1, 1, 0)
	hears(t, one, 2, members{suspect(1, 1), alive(2, 1)}, 7, api.OK)
	tells(t, one, 7, 0, 2)
	one.Leave()
	sees(t, other, alive(1, 1))
	hears(t, other, 3, firsts(3, 1), 1, api.OK)
	tells(t, other, 1, 0, 3)
	sees(t, other, alive(1, 1), alive(3, 1))
	sees(t, one, gone(1, 2), alive(2, 1))
}

func TestExample1WhoHearsThatItIsSuspectIsAliveAgain(t *testing.T) {
	n := node(t, 1, 1, 1, 1, 0)
	hears(t, n, 2, members{suspect(1, 1)}, 0, api.OK)
	sees(t, n, alive(1, 2))
	if m := n.Self(); m != alive(1, 2) {
		t.Errorf("Self: %x", m)
	}
}

func TestP1002TheViewIsTheMergedOne(t *testing.T) {
	n := knowing(t)
	sees(t, n, alive(5, 7))
	hears(t, n, 1, nil, 100, api.OK)
	hears(t, n, 1, members{}, 100, api.OK)
	sees(t, n, alive(5, 7))
	hears(t, n, 1, members{alive(1, 3), suspect(9, 2)}, 100, api.OK)
	sees(t, n, alive(1, 3), alive(5, 7), suspect(9, 2))
	// What is older changes nothing.
	hears(t, n, 1, members{gone(1, 2), alive(5, 6), alive(9, 2)}, 100, api.OK)
	sees(t, n, alive(1, 3), alive(5, 7), suspect(9, 2))
	hears(t, n, 77, members{suspect(1, 3), gone(7, end), alive(9, 3), alive(end, 1)}, 100, api.OK)
	sees(t, n, suspect(1, 3), alive(5, 7), gone(7, end), alive(9, 3), alive(end, 1))
}

func TestP1002WhoTellsIsNoMemberByThat(t *testing.T) {
	for _, from := range []uint64{0, 1, 5, 77, end} {
		n := knowing(t)
		hears(t, n, from, members{alive(2, 1)}, 100, api.OK)
		sees(t, n, alive(2, 1), alive(5, 7))
	}
}

func TestP1002HearOfNoViews(t *testing.T) {
	for _, wrong := range wrongs() {
		n := knowing(t, alive(2, 1))
		hears(t, n, 2, wrong, 110, api.BadForm)
		sees(t, n, alive(2, 1), alive(5, 7))
		// Who told it was not heard by that.
		tells(t, n, 110, 0, 2)
		stateIs(t, n, 2, api.Suspect)
	}
	// BadForm ahead of TooLarge.
	n := node(t, 1, 1, 1, 1, 0)
	hears(t, n, 2, firsts(1, api.MaxMembers), 0, api.OK)
	hears(t, n, 2, members{alive(99, 1), alive(98, 1)}, 0, api.BadForm)
}

func TestP1002HearAtTheLimit(t *testing.T) {
	n := node(t, 1, 1, 1, 10, 0)
	hears(t, n, 2, firsts(2, api.MaxMembers), 0, api.TooLarge)
	sees(t, n, alive(1, 1))
	hears(t, n, 2, firsts(2, api.MaxMembers-1), 0, api.OK)
	full := firsts(1, api.MaxMembers)
	sees(t, n, full...)
	// Nothing of what is too much comes in, and who told it was not heard.
	hears(t, n, 2, members{gone(1, 1), gone(2, 9), alive(99, 1)}, 10, api.TooLarge)
	hears(t, n, 2, members{gone(99, 1)}, 10, api.TooLarge)
	sees(t, n, full...)
	n.Tick(10, 0)
	stateIs(t, n, 2, api.Suspect)
	hears(t, n, 2, full, 10, api.OK)
	if v := n.View(); len(v) != api.MaxMembers {
		t.Errorf("View: %x", v)
	}
}

func TestP1002TimeGoesOnBesideAnError(t *testing.T) {
	for _, c := range []struct {
		l    members
		want api.Kind
	}{{members{{}}, api.BadForm}, {firsts(50, api.MaxMembers), api.TooLarge}, {nil, api.OK}} {
		n := knowing(t, alive(2, 1))
		hears(t, n, 3, c.l, 110, c.want)
		tells(t, n, 0, 0, 2)
		stateIs(t, n, 2, api.Suspect)
	}
}

func TestP1002AFirstOneIsHeardThen(t *testing.T) {
	for _, m := range []api.Member{alive(2, 1), suspect(2, 1)} {
		n := knowing(t)
		hears(t, n, 3, members{m}, 107, api.OK)
		long := uint64(10)
		if m.State == api.Suspect {
			long = 20
		}
		tells(t, n, 107+long-1, 0, 2)
		stateIs(t, n, 2, m.State)
		tells(t, n, 107+long, 0, 2)
		stateIs(t, n, 2, m.State+1)
	}
}

func TestP1002WhoIsKnownIsHeardByWhatItTellsAlone(t *testing.T) {
	n := knowing(t, alive(2, 1), alive(3, 1))
	// Of member 2 others tell, and something newer, too; member 3 tells itself.
	hears(t, n, 3, members{alive(2, 1)}, 105, api.OK)
	hears(t, n, 3, nil, 106, api.OK)
	hears(t, n, 0, members{alive(2, 2)}, 107, api.OK)
	hears(t, n, 5, members{alive(2, 3), alive(3, 1)}, 108, api.OK)
	hears(t, n, 77, firsts(2, 2), 109, api.OK)
	tells(t, n, 110, 0, 2, 3)
	sees(t, n, suspect(2, 3), alive(3, 1), alive(5, 7))
	tells(t, n, 115, 0, 2, 3)
	stateIs(t, n, 3, api.Alive)
	tells(t, n, 116, 0, 2, 3)
	stateIs(t, n, 3, api.Suspect)
}

func TestP1002WhoWasGoneIsNotThereForTheFirstTime(t *testing.T) {
	n := knowing(t, gone(2, 1))
	hears(t, n, 0, members{alive(2, 2)}, 110, api.OK)
	n.Tick(110, 0)
	sees(t, n, suspect(2, 2), alive(5, 7))
	n = knowing(t, gone(2, 1))
	hears(t, n, 2, members{alive(2, 2)}, 110, api.OK)
	n.Tick(110, 0)
	sees(t, n, alive(2, 2), alive(5, 7))
	// A member that is Gone is heard, too, and stays that.
	n = knowing(t, gone(2, 1))
	hears(t, n, 2, members{gone(2, 1)}, 109, api.OK)
	sees(t, n, gone(2, 1), alive(5, 7))
	hears(t, n, 0, members{alive(2, 2)}, 110, api.OK)
	n.Tick(118, 0)
	sees(t, n, alive(2, 2), alive(5, 7))
	n.Tick(119, 0)
	sees(t, n, suspect(2, 2), alive(5, 7))
}

func TestP1002HeardIsByTheGreatestTime(t *testing.T) {
	n := knowing(t, alive(2, 1))
	hears(t, n, 0, nil, 108, api.OK)
	// What is told as if it were earlier comes at 108, too: of who tells, and of who is new.
	hears(t, n, 2, members{alive(3, 1)}, 101, api.OK)
	hears(t, n, 4, members{alive(4, 1)}, 0, api.OK)
	n.Tick(117, 0)
	sees(t, n, alive(2, 1), alive(3, 1), alive(4, 1), alive(5, 7))
	n.Tick(118, 0)
	sees(t, n, suspect(2, 1), suspect(3, 1), suspect(4, 1), alive(5, 7))
	// So it does behind a time that a Tick told.
	n = knowing(t, alive(2, 1))
	n.Tick(105, 0)
	hears(t, n, 2, nil, 99, api.OK)
	n.Tick(114, 0)
	stateIs(t, n, 2, api.Alive)
	n.Tick(115, 0)
	stateIs(t, n, 2, api.Suspect)
	// And behind one that New told.
	n = node(t, 5, 7, 1, 10, 100)
	hears(t, n, 2, members{alive(2, 1)}, 3, api.OK)
	n.Tick(109, 0)
	stateIs(t, n, 2, api.Alive)
	n.Tick(110, 0)
	stateIs(t, n, 2, api.Suspect)
}

func TestP1002WhatOthersSayOfItself(t *testing.T) {
	for _, c := range []struct{ heard, is api.Member }{
		{alive(5, 7), alive(5, 7)},
		{suspect(5, 7), alive(5, 8)},
		{gone(5, 7), alive(5, 8)},
		{alive(5, 6), alive(5, 7)},
		{suspect(5, 6), alive(5, 7)},
		{gone(5, 6), alive(5, 7)},
		{gone(5, 1), alive(5, 7)},
		{alive(5, 8), alive(5, 8)},
		{suspect(5, 8), alive(5, 9)},
		{gone(5, 99), alive(5, 100)},
		{suspect(5, end-1), alive(5, end)},
		{gone(5, end-1), alive(5, end)},
		// None is newer than these, but for what comes behind them.
		{alive(5, end), alive(5, end)},
		{suspect(5, end), suspect(5, end)},
		{gone(5, end), gone(5, end)},
	} {
		for _, from := range []uint64{0, 2, 5} {
			n := knowing(t, alive(2, 1))
			hears(t, n, from, members{c.heard}, 100, api.OK)
			sees(t, n, alive(2, 1), c.is)
			if m := n.Self(); m != c.is {
				t.Errorf("Self: %x, not %x", m, c.is)
			}
			hears(t, n, from, nil, 100, api.OK)
			sees(t, n, alive(2, 1), c.is)
		}
	}
}

func TestP1002AtTheLastIncItStaysAsItIs(t *testing.T) {
	n := node(t, 5, end, 1, 10, 0)
	sees(t, n, alive(5, end))
	hears(t, n, 2, members{suspect(5, end)}, 0, api.OK)
	sees(t, n, suspect(5, end))
	hears(t, n, 2, members{alive(5, end)}, 0, api.OK)
	sees(t, n, suspect(5, end))
	hears(t, n, 2, members{gone(5, end)}, 0, api.OK)
	sees(t, n, gone(5, end))
	// It is no other one, and nobody is told who it is.
	tells(t, n, 1000, 0)
	sees(t, n, gone(5, end))
}

func TestP1003DueAtOnceThenAPeriodLater(t *testing.T) {
	for _, start := range []uint64{0, 3, 1 << 62} {
		n := node(t, 1, 1, 10, 1000, start)
		hears(t, n, 0, firsts(2, 2), start, api.OK)
		tells(t, n, start, 0, 2, 3)
		tells(t, n, start, 0)
		tells(t, n, start+9, 0)
		tells(t, n, start+10, 0, 2, 3)
		tells(t, n, start+19, 0)
		// It goes by when it was told, not by when it was due.
		tells(t, n, start+25, 0, 2, 3)
		tells(t, n, start+30, 0)
		tells(t, n, start+34, 0)
		tells(t, n, start+35, 0, 2, 3)
	}
}

func TestP1003AheadOfThatNothingButTime(t *testing.T) {
	n := node(t, 5, 7, 15, 10, 100)
	hears(t, n, 0, members{alive(2, 1), gone(3, 1)}, 100, api.OK)
	tells(t, n, 100, 0, 2, 3)
	// 2 was not heard for its wait, but the node is not due.
	tells(t, n, 114, 0)
	sees(t, n, alive(2, 1), gone(3, 1), alive(5, 7))
	// Time is 114 now, whoever tells less.
	hears(t, n, 2, nil, 100, api.OK)
	tells(t, n, 115, 0, 2, 3)
	sees(t, n, alive(2, 1), gone(3, 1), alive(5, 7))
	tells(t, n, 130, 0, 2, 3)
	sees(t, n, suspect(2, 1), gone(3, 1), alive(5, 7))
}

func TestP1003TimeNeverGoesBack(t *testing.T) {
	n := node(t, 1, 1, 10, 1000, 50)
	hears(t, n, 0, firsts(2, 1), 40, api.OK)
	tells(t, n, 0, 0, 2) // time is 50
	tells(t, n, 59, 0)
	tells(t, n, 60, 0, 2)
	hears(t, n, 0, nil, 70, api.OK)
	tells(t, n, 1, 0, 2) // it is 70 by what it heard
	tells(t, n, 79, 0)
	tells(t, n, 80, 0, 2)
	hears(t, n, 0, members{{}}, 90, api.BadForm)
	tells(t, n, 0, 0, 2)
	tells(t, n, 99, 0)
	tells(t, n, 0, 0)
	tells(t, n, 100, 0, 2)
}

func TestP1003DueAtTheEndOfTime(t *testing.T) {
	n := node(t, 1, 1, 10, api.MaxTime, end-20)
	hears(t, n, 0, firsts(2, 1), 0, api.OK)
	tells(t, n, 0, 0, 2)
	tells(t, n, end-11, 0)
	tells(t, n, end-10, 0, 2)
	tells(t, n, end-1, 0)
	tells(t, n, end, 0, 2)
	// Time and period together would be beyond: it is due at the end, which it is.
	tells(t, n, end, 0, 2)
	tells(t, n, 0, 0, 2)
	n = node(t, 1, 1, api.MaxTime, 1, end-5)
	hears(t, n, 0, firsts(2, 1), 0, api.OK)
	tells(t, n, end-5, 0, 2)
	stateIs(t, n, 2, api.Alive)
	tells(t, n, end-1, 0)
	tells(t, n, end, 0, 2)
	stateIs(t, n, 2, api.Suspect)
	tells(t, n, end, 0, 2)
	stateIs(t, n, 2, api.Gone)
}

func TestP1003WhoIsSilentIsSuspectThenGone(t *testing.T) {
	for _, wait := range []uint64{1, 2, 10, api.MaxTime} {
		n := node(t, 1, 1, 1, wait, 7)
		hears(t, n, 0, firsts(2, 1), 7, api.OK)
		n.Tick(7+wait-1, 0)
		stateIs(t, n, 2, api.Alive)
		n.Tick(7+wait, 0)
		stateIs(t, n, 2, api.Suspect)
		n.Tick(7+2*wait-1, 0)
		stateIs(t, n, 2, api.Suspect)
		n.Tick(7+2*wait, 0)
		stateIs(t, n, 2, api.Gone)
		n.Tick(7+100*wait, 0)
		stateIs(t, n, 2, api.Gone)
	}
}

func TestP1003OneStateFurtherAtATime(t *testing.T) {
	// It was Alive: so it is Suspect, however long it was silent.
	for _, silent := range []uint64{10, 11, 19, 20, 21, 1 << 50} {
		n := knowing(t, alive(2, 1))
		tells(t, n, 100+silent, 0, 2)
		stateIs(t, n, 2, api.Suspect)
		tells(t, n, 100+silent, 0)
		stateIs(t, n, 2, api.Suspect)
		tells(t, n, 120+silent, 0, 2)
		stateIs(t, n, 2, api.Gone)
	}
	n := knowing(t, suspect(2, 1))
	tells(t, n, 119, 0, 2)
	stateIs(t, n, 2, api.Suspect)
	tells(t, n, 120, 0, 2)
	stateIs(t, n, 2, api.Gone)
}

func TestP1003EachByWhenItWasHeard(t *testing.T) {
	n := node(t, 3, 9, 1, 10, 0)
	for id := range uint64(6) {
		hears(t, n, 0, members{alive(id+1, id+1)}, id, api.OK)
	}
	n.Tick(13, 0)
	sees(t, n, suspect(1, 1), suspect(2, 2), alive(3, 9), suspect(4, 4), alive(5, 5), alive(6, 6))
	hears(t, n, 2, nil, 14, api.OK) // who is Suspect stays that, but is not Gone
	hears(t, n, 6, nil, 14, api.OK)
	tells(t, n, 23, 0, 2, 5, 6, 1)
	sees(t, n, gone(1, 1), suspect(2, 2), alive(3, 9), gone(4, 4), suspect(5, 5), alive(6, 6))
	tells(t, n, 33, 0, 2, 6, 1)
	sees(t, n, gone(1, 1), suspect(2, 2), alive(3, 9), gone(4, 4), gone(5, 5), suspect(6, 6))
	n.Tick(34, 0)
	sees(t, n, gone(1, 1), gone(2, 2), alive(3, 9), gone(4, 4), gone(5, 5), gone(6, 6))
}

func TestP1003ItselfIsNeverSilent(t *testing.T) {
	n := node(t, 5, 7, 1, 1, 0)
	for now := range uint64(50) {
		tells(t, n, now, now)
		sees(t, n, alive(5, 7))
	}
	hears(t, n, 5, members{suspect(5, end)}, 50, api.OK)
	for now := range uint64(50) {
		tells(t, n, 50+now, now)
		sees(t, n, suspect(5, end))
	}
}

func TestP1003WhomToTell(t *testing.T) {
	n := knowing(t, alive(1, 1), suspect(2, 1), gone(3, 1), gone(4, 9), alive(6, 2), gone(8, 1), suspect(end, 1))
	for pick, want := range map[uint64]uint64{0: 3, 1: 4, 2: 8, 3: 3, 4: 4, 299: 8, end: 3, end - 1: 8, 1 << 63: 8, 1 << 32: 4} {
		n := knowing(t, n.View()...)
		tells(t, n, 100, pick, 1, 2, 6, end, want)
	}
	n = knowing(t, gone(3, 1), gone(9, 1))
	tells(t, n, 100, 0, 3)
	tells(t, n, 101, 1, 9)
	n = knowing(t, gone(2, 1))
	for pick := range uint64(5) {
		tells(t, n, 100+pick, pick, 2)
	}
	n = knowing(t)
	tells(t, n, 100, 1)
}

func TestP1003WhoIsGoneByThatTickIsNotTold(t *testing.T) {
	n := knowing(t, suspect(2, 1), suspect(3, 1), alive(9, 1))
	hears(t, n, 3, nil, 101, api.OK)
	hears(t, n, 9, nil, 115, api.OK)
	tells(t, n, 120, 1, 3, 9, 2)
	sees(t, n, gone(2, 1), suspect(3, 1), alive(5, 7), alive(9, 1))
	tells(t, n, 121, 1, 9, 3)
}

func TestP1003AllOthersAtTheLimit(t *testing.T) {
	n := node(t, 8, 1, 1, 10, 0)
	hears(t, n, 0, firsts(1, api.MaxMembers), 0, api.OK)
	var ids []uint64
	for id := range uint64(api.MaxMembers) {
		if id+1 != 8 {
			ids = append(ids, id+1)
		}
	}
	tells(t, n, 0, 3, ids...)
	tells(t, n, 20, 3, ids...)
	for pick := range uint64(100) {
		tells(t, n, 40+pick, pick, ids[pick%(api.MaxMembers-1)])
	}
}

func TestP1004Leave(t *testing.T) {
	for _, inc := range []uint64{1, 9, end} {
		n := node(t, 5, inc, 1, 10, 0)
		hears(t, n, 2, members{alive(2, 1), gone(3, 3)}, 0, api.OK)
		for range 2 {
			n.Leave()
			sees(t, n, alive(2, 1), gone(3, 3), gone(5, inc))
			if m := n.Self(); m != gone(5, inc) {
				t.Errorf("Self: %x", m)
			}
		}
		// It still tells others, not itself.
		tells(t, n, 0, 0, 2, 3)
		tells(t, n, 1, 1, 2, 3)
		// And it goes on to look who is silent.
		tells(t, n, 10, 0, 2, 3)
		sees(t, n, suspect(2, 1), gone(3, 3), gone(5, inc))
	}
}

func TestP1004WhoLeftDoesNotObject(t *testing.T) {
	for _, c := range []struct{ heard, is api.Member }{
		{alive(5, 7), gone(5, 7)},
		{suspect(5, 7), gone(5, 7)},
		{gone(5, 7), gone(5, 7)},
		{alive(5, 6), gone(5, 7)},
		{gone(5, 6), gone(5, 7)},
		{alive(5, 8), alive(5, 8)},
		{suspect(5, 8), suspect(5, 8)},
		{gone(5, 8), gone(5, 8)},
		{suspect(5, end), suspect(5, end)},
		{gone(5, end), gone(5, end)},
		{alive(5, end), alive(5, end)},
	} {
		n := knowing(t, alive(2, 1))
		n.Leave()
		hears(t, n, 2, members{c.heard}, 105, api.OK)
		sees(t, n, alive(2, 1), c.is)
		if m := n.Self(); m != c.is {
			t.Errorf("Self: %x, not %x", m, c.is)
		}
		hears(t, n, 2, nil, 105, api.OK)
		tells(t, n, 105, 0, 2)
		sees(t, n, alive(2, 1), c.is)
		// Who left, leaves again.
		n.Leave()
		sees(t, n, alive(2, 1), gone(5, c.is.Inc))
	}
}

func TestP1004LeaveAtTheLastInc(t *testing.T) {
	n := knowing(t)
	hears(t, n, 2, members{suspect(5, end)}, 100, api.OK)
	n.Leave()
	sees(t, n, gone(5, end))
	hears(t, n, 2, members{alive(5, end)}, 100, api.OK)
	sees(t, n, gone(5, end))
}

func TestP1004OfNoNode(t *testing.T) {
	var none *gossip.Node
	for _, n := range []*gossip.Node{none, new(gossip.Node)} {
		for _, l := range append(wrongs(), nil, firsts(1, api.MaxMembers)) {
			hears(t, n, 1, l, 1, api.Nil)
		}
		n.Leave()
		if v := n.View(); len(v) != 0 {
			t.Errorf("View: %x", v)
		}
		if m := n.Self(); m != (api.Member{}) {
			t.Errorf("Self: %x", m)
		}
		for _, now := range []uint64{0, 1, end} {
			tells(t, n, now, now)
		}
	}
}

func TestWhatComesInStaysAsItWas(t *testing.T) {
	l := members{alive(2, 1), suspect(5, 7), gone(9, 1), alive(77, 77), alive(78, 78)}
	want := slices.Clone(l)
	n := knowing(t)
	hears(t, n, 2, l[:3], 100, api.OK)
	n.Tick(110, 0)
	n.Tick(120, 0)
	n.Leave()
	hears(t, n, 2, l[:2], 120, api.OK)
	if !slices.Equal(l, want) {
		t.Errorf("the list is %x, not %x", l, want)
	}
	// And it is not kept: what is written there later, nobody sees.
	was := n.View()
	clear(l)
	sees(t, n, was...)
}

func TestWhatIsHandedOutIsNewMemory(t *testing.T) {
	n := knowing(t)
	for i := range uint64(api.MaxMembers - 1) {
		hears(t, n, 0, members{{Id: 10 + i, Inc: 1, State: int(i % 3)}}, 100, api.OK)
		want := n.View()
		v := n.View()
		for i := range v[:cap(v)] {
			v[:cap(v)][i] = alive(99, 99)
		}
		sees(t, n, want...)
		one, other := knowing(t, want...), knowing(t, want...)
		ids := one.Tick(100, 0)
		for i := range ids[:cap(ids)] {
			ids[:cap(ids)][i] = 99
		}
		sees(t, one, want...)
		other.Tick(100, 0)
		tells(t, one, 101, 0, other.Tick(101, 0)...)
	}
}

// plain is a second, plainer telling of the chapter: a node whose every member
// stands in a map.
type plain struct {
	self, period, wait, time, due uint64
	left                          bool
	inc                           map[uint64]uint64
	state                         map[uint64]int
	heard                         map[uint64]uint64
}

func newPlain(self, inc, period, wait, now uint64) *plain {
	return &plain{self: self, period: period, wait: wait, time: now, due: now,
		inc: map[uint64]uint64{self: inc}, state: map[uint64]int{self: api.Alive}, heard: map[uint64]uint64{}}
}

func (p *plain) view() members {
	var v members
	for id, inc := range p.inc {
		v = append(v, api.Member{Id: id, Inc: inc, State: p.state[id]})
	}
	slices.SortFunc(v, func(a, b api.Member) int { return cmp.Compare(a.Id, b.Id) })
	return v
}

func (p *plain) hear(from uint64, l members, now uint64) api.Kind {
	if now > p.time {
		p.time = now
	}
	if view.Right(l) != api.OK {
		return api.BadForm
	}
	many := len(p.inc)
	for _, m := range l {
		if p.inc[m.Id] == 0 {
			many++
		}
	}
	if many > api.MaxMembers {
		return api.TooLarge
	}
	for _, m := range l {
		if p.inc[m.Id] == 0 {
			p.heard[m.Id] = p.time
		}
		if m.Inc > p.inc[m.Id] || m.Inc == p.inc[m.Id] && m.State > p.state[m.Id] {
			p.inc[m.Id], p.state[m.Id] = m.Inc, m.State
		}
	}
	if p.inc[from] != 0 {
		p.heard[from] = p.time
	}
	if p.state[p.self] != api.Alive && !p.left && p.inc[p.self] != end {
		p.inc[p.self]++
		p.state[p.self] = api.Alive
	}
	return api.OK
}

func (p *plain) tick(now, pick uint64) []uint64 {
	if now > p.time {
		p.time = now
	}
	if p.time < p.due {
		return nil
	}
	p.due = p.time + p.period
	if p.due < p.time {
		p.due = end
	}
	var ids, goners []uint64
	for _, id := range slices.Sorted(maps.Keys(p.inc)) {
		if id == p.self {
			continue
		}
		silent := p.time - p.heard[id]
		if p.state[id] == api.Alive && silent >= p.wait {
			p.state[id] = api.Suspect
		} else if p.state[id] == api.Suspect && silent/2 >= p.wait {
			p.state[id] = api.Gone
		}
		if p.state[id] == api.Gone {
			goners = append(goners, id)
		} else {
			ids = append(ids, id)
		}
	}
	if len(goners) > 0 {
		ids = append(ids, goners[pick%uint64(len(goners))])
	}
	return ids
}

// some is a list of members, a view as a rule, of few Ids and Incs, so that they
// meet one another.
func some(r *rand.Rand) members {
	var l members
	for id := range uint64(20) {
		if r.Intn(5) == 0 {
			m := api.Member{Id: id + 1, Inc: 1 + uint64(r.Intn(4)), State: r.Intn(3)}
			if r.Intn(100) == 0 {
				m.Inc = end - uint64(r.Intn(2))
			}
			l = append(l, m)
		}
	}
	if len(l) > 0 && r.Intn(20) == 0 {
		l[r.Intn(len(l))] = api.Member{Id: uint64(r.Intn(20)), Inc: uint64(r.Intn(3)), State: r.Intn(5) - 1}
	}
	return l
}

func TestManyCallsAsTheChapterTellsThem(t *testing.T) {
	for seed := range int64(400) {
		r := rand.New(rand.NewSource(1000 + seed))
		self, inc := 1+uint64(r.Intn(20)), 1+uint64(r.Intn(3))
		period, wait, now := 1+uint64(r.Intn(6)), 1+uint64(r.Intn(12)), uint64(r.Intn(50))
		if r.Intn(8) == 0 {
			now = end - uint64(r.Intn(300))
		}
		n, p := node(t, self, inc, period, wait, now), newPlain(self, inc, period, wait, now)
		for range 300 {
			at := now - min(now, uint64(r.Intn(4)))
			switch r.Intn(40) {
			case 0:
				n.Leave()
				p.left, p.state[self] = true, api.Gone
			case 1, 2, 3, 4, 5, 6, 7, 8:
				from, l := uint64(r.Intn(22)), some(r)
				if got, want := n.Hear(from, l, at), p.hear(from, l, at); got != want {
					t.Fatalf("seed %d: Hear from %d of %x at %d: %d, not %d", seed, from, l, at, got, want)
				}
			case 9, 10, 11, 12, 13:
				now += min(uint64(r.Intn(8)), end-now)
			default:
				pick := r.Uint64() >> r.Intn(64)
				if got, want := n.Tick(at, pick), p.tick(at, pick); !slices.Equal(got, want) {
					t.Fatalf("seed %d: Tick at %d, %d: %d, not %d", seed, at, pick, got, want)
				}
			}
			if got, want := n.View(), p.view(); !slices.Equal(got, want) {
				t.Fatalf("seed %d: View: %x, not %x", seed, got, want)
			}
			if got, has := view.Find(n.View(), self); got != n.Self() || !has {
				t.Fatalf("seed %d: Self: %x, not %x", seed, n.Self(), got)
			}
		}
	}
}

func TestP1005AViewNeverFalls(t *testing.T) {
	for seed := range int64(300) {
		r := rand.New(rand.NewSource(2000 + seed))
		n := node(t, 1+uint64(r.Intn(20)), 1, 1+uint64(r.Intn(3)), 1+uint64(r.Intn(5)), 0)
		was := n.View()
		for range 200 {
			now := uint64(r.Intn(200))
			switch r.Intn(12) {
			case 0:
				n.Leave()
			case 1, 2, 3:
				n.Hear(uint64(r.Intn(22)), some(r), now)
			default:
				n.Tick(now, r.Uint64())
			}
			is := n.View()
			if all, k := view.Merge(was, is); k != api.OK || !view.Same(all, is) {
				t.Fatalf("seed %d: from %x the view fell to %x", seed, was, is)
			}
			was = is
		}
	}
}

// fleet is nodes 1 to n, of which each knows itself and the next one.
func fleet(t *testing.T, n int, period, wait uint64) []*gossip.Node {
	t.Helper()
	var nodes []*gossip.Node
	for i := range uint64(n) {
		nodes = append(nodes, node(t, i+1, 1, period, wait, 0))
		hears(t, nodes[i], 0, members{alive((i+1)%uint64(n)+1, 1)}, 0, api.OK)
	}
	return nodes
}

// tick has each node tick, and tell whom it should; a node that is not up does
// neither, nor hears.
func tick(t *testing.T, nodes []*gossip.Node, now, pick uint64, up func(id uint64) bool) {
	t.Helper()
	for i, n := range nodes {
		from := uint64(i) + 1
		if !up(from) {
			continue
		}
		for _, to := range n.Tick(now, pick) {
			if up(to) {
				hears(t, nodes[to-1], from, n.View(), now, api.OK)
			}
		}
	}
}

// oneView holds all nodes to one view, and tells it.
func oneView(t *testing.T, nodes []*gossip.Node) members {
	t.Helper()
	v := nodes[0].View()
	for _, n := range nodes[1:] {
		if !view.Same(n.View(), v) {
			t.Errorf("views %x and %x", v, n.View())
		}
	}
	return v
}

// all are up.
func all(uint64) bool { return true }

func TestP1005WhoIsHeardInTimeIsNeverSuspected(t *testing.T) {
	for _, many := range []int{1, 2, 3, 8, api.MaxMembers} {
		for _, period := range []uint64{1, 3, 9} {
			// The one's telling comes in the tick in which the other one looks, or ahead of it.
			nodes := fleet(t, many, period, period+1)
			for now := range uint64(100) {
				tick(t, nodes, now, now, all)
			}
			for _, m := range oneView(t, nodes) {
				if m.State != api.Alive || m.Inc != 1 {
					t.Errorf("of %d nodes with period %d one was suspected: %x", many, period, m)
				}
			}
			if v := nodes[0].View(); len(v) != many {
				t.Errorf("of %d nodes %x are there", many, v)
			}
		}
	}
}

func TestP1005WhoIsHeardAtItsLastTickIsNeverSuspected(t *testing.T) {
	n := knowing(t, alive(2, 1))
	for now := uint64(109); now < 1000; now += 9 {
		hears(t, n, 2, nil, now, api.OK)
		tells(t, n, now, 0, 2)
		tells(t, n, now+8, 0, 2)
		sees(t, n, alive(2, 1), alive(5, 7))
	}
	hears(t, n, 2, nil, 2000, api.OK) // late, but ahead of the next look
	tells(t, n, 2009, 0, 2)
	sees(t, n, alive(2, 1), alive(5, 7))
}

func TestP1005NodesThatTellOneAnotherHaveOneView(t *testing.T) {
	for seed := range int64(40) {
		r := rand.New(rand.NewSource(3000 + seed))
		nodes := fleet(t, 2+r.Intn(api.MaxMembers-1), 1, 1000)
		for _, n := range nodes {
			var l members
			for id := range uint64(len(nodes)) {
				if r.Intn(2) == 0 {
					l = append(l, api.Member{Id: id + 1, Inc: 1 + uint64(r.Intn(5)), State: r.Intn(3)})
				}
			}
			hears(t, n, 0, l, 0, api.OK)
			if r.Intn(8) == 0 {
				n.Leave()
			}
		}
		// Who seems to be Gone is told once in as many ticks as there are such.
		for now := range uint64(4 * api.MaxMembers) {
			tick(t, nodes, now, now, all)
		}
		v := oneView(t, nodes)
		if len(v) != len(nodes) {
			t.Fatalf("seed %d: of %d nodes %x are there", seed, len(nodes), v)
		}
	}
}

func TestP1005WhoIsDownIsGoneAndComesBack(t *testing.T) {
	nodes := fleet(t, 5, 2, 10)
	others := func(id uint64) bool { return id != 3 }
	for now := range uint64(40) {
		tick(t, nodes, now, now, func(id uint64) bool { return now < 10 || others(id) })
	}
	v := oneView(t, slices.Delete(slices.Clone(nodes), 2, 3))
	if !slices.Equal(v, members{alive(1, 1), alive(2, 1), gone(3, 1), alive(4, 1), alive(5, 1)}) {
		t.Errorf("without node 3 the view is %x", v)
	}
	for now := uint64(40); now < 80; now++ {
		tick(t, nodes, now, now, all)
	}
	for _, m := range oneView(t, nodes) {
		if m.State != api.Alive || m.Id == 3 && m.Inc != 2 {
			t.Errorf("with node 3 again the view has %x", m)
		}
	}
	// Who leaves stays so.
	nodes[1].Leave()
	left := nodes[1].Self()
	for now := uint64(80); now < 200; now++ {
		tick(t, nodes, now, now, all)
	}
	if m, _ := view.Find(oneView(t, nodes), 2); m != left || m.State != api.Gone {
		t.Errorf("who left is %x, not %x", m, left)
	}
}
