package replica_test

import (
	"encoding/binary"
	"maps"
	"math"
	"math/rand"
	"reflect"
	"slices"
	"strings"
	"testing"

	"winnow/api"
	"winnow/disk"
	"winnow/frame"
	"winnow/message"
	"winnow/register"
	"winnow/replica"
	"winnow/wal"
)

// end is the greatest number there is.
const end uint64 = math.MaxUint64

// framed is how many bytes a record's frame has, headed how many a file's first
// frame has.
const (
	framed = 4 + 41 + 4
	headed = 4 + 8 + 4
)

// of is the ballot with that N, of that node.
func of(n, node uint64) api.Ballot { return api.Ballot{N: n, Node: node} }

// promised is the register that has promised b alone.
func promised(b api.Ballot) register.Reg { return register.Reg{Promised: b} }

// taken is the register that has taken v under b, and promised no more.
func taken(b api.Ballot, v api.Verdict) register.Reg {
	return register.Reg{Promised: b, Taken: b, V: v}
}

// prepare is the Prepare of that trace and ballot.
func prepare(trace uint64, b api.Ballot) api.Packet {
	return api.Packet{Kind: api.Prepare, Trace: trace, B: b}
}

// accept is the Accept of that trace, ballot and verdict.
func accept(trace uint64, b api.Ballot, v api.Verdict) api.Packet {
	return api.Packet{Kind: api.Accept, Trace: trace, B: b, V: v}
}

// rec is the bytes of the trace's register, told apart from the program.
func rec(trace uint64, r register.Reg) string {
	var b []byte
	for _, n := range []uint64{trace, r.Promised.N, r.Promised.Node, r.Taken.N, r.Taken.Node} {
		b = binary.BigEndian.AppendUint64(b, n)
	}
	return string(append(b, byte(r.V)))
}

// below tells whether a is below b.
func below(a, b api.Ballot) bool { return a.N < b.N || a.N == b.N && a.Node < b.Node }

// asked is the register behind p, and the answer, told apart from the program.
func asked(r register.Reg, p api.Packet) (register.Reg, api.Packet) {
	a := api.Packet{Kind: p.Kind + 1, Trace: p.Trace, B: p.B}
	switch {
	case below(p.B, r.Promised) || p.Kind == api.Accept && p.B == r.Taken && p.V != r.V:
		a.Seen = r.Promised
	case p.Kind == api.Accept:
		r, a.Ok = taken(p.B, p.V), true
	default:
		r.Promised = p.B
		a.Ok, a.Seen, a.V = true, r.Taken, r.V
	}
	return r, a
}

// regs is registers by traces.
type regs map[uint64]register.Reg

// is holds a kind to the one that should be.
func is(t *testing.T, what string, got, want api.Kind) {
	t.Helper()
	if got != want {
		t.Errorf("%s: %d, not %d", what, got, want)
	}
}

// empty is a new disk of that room.
func empty(t *testing.T, room int) *disk.Disk {
	t.Helper()
	d, k := disk.New(room)
	if d == nil || k != api.OK {
		t.Fatalf("New of %d: %v %d", room, d, k)
	}
	return d
}

// laid is a disk with a log of these records, all of them fast.
func laid(t *testing.T, most int, recs ...string) *disk.Disk {
	t.Helper()
	d := empty(t, api.MaxFile)
	l, k := wal.Open(d, most)
	is(t, "Open of the log", k, api.OK)
	for _, rec := range recs {
		is(t, "Append of the log", l.Append([]byte(rec)), api.OK)
	}
	is(t, "Sync of the log", l.Sync(), api.OK)
	return d
}

// opened is the replica of the disk.
func opened(t *testing.T, d *disk.Disk, most int) *replica.Replica {
	t.Helper()
	r, k := replica.Open(d, most)
	if r == nil || k != api.OK {
		t.Fatalf("Open of %d: %v %d, not a replica and 0", most, r, k)
	}
	return r
}

// fails holds Open to that kind, no replica, and a disk that is not changed.
func fails(t *testing.T, what string, d *disk.Disk, most int, want api.Kind) {
	t.Helper()
	was := lying(d)
	if r, k := replica.Open(d, most); r != nil || k != want {
		t.Errorf("Open of %s: %v %d, not nil and %d", what, r, k, want)
	}
	if got := lying(d); !maps.Equal(got, was) {
		t.Errorf("Open of %s changed the disk", what)
	}
}

// lying is what the disk has in each of its files.
func lying(d *disk.Disk) map[int]string {
	all := map[int]string{}
	for _, number := range d.Files() {
		b, k := d.Read(number)
		all[number] = string(b)
		if k != api.OK {
			all[number] = "down"
		}
	}
	return all
}

// bring has the disk go down, so that nothing more of it changes.
func bring(t *testing.T, d *disk.Disk) {
	t.Helper()
	d.Arm(0)
	is(t, "Append beyond", d.Append(firstOf(d), []byte("x")), api.Down)
}

// firstOf is the disk's first file, so that no other one comes; 0, if it has none.
func firstOf(d *disk.Disk) int { return append(d.Files(), 0)[0] }

// logged is the records that lie on the disk, which must be up.
func logged(t *testing.T, d *disk.Disk) []string {
	t.Helper()
	l, k := wal.Open(d, 64)
	is(t, "Open of the log", k, api.OK)
	var all []string
	for _, b := range l.Records() {
		all = append(all, string(b))
	}
	return all
}

// lies holds the records that lie on the disk to these.
func lies(t *testing.T, d *disk.Disk, want ...string) {
	t.Helper()
	if got := logged(t, d); !slices.Equal(got, want) {
		t.Errorf("the log has %d records, not %d: %.300q, not %.300q", len(got), len(want), got, want)
	}
}

// has holds what the replica tells to these registers, and to nothing else.
func has(t *testing.T, r *replica.Replica, want regs) {
	t.Helper()
	for trace, reg := range want {
		if got := r.Reg(trace); got != reg {
			t.Errorf("Reg of %d: %v, not %v", trace, got, reg)
		}
	}
	if got, l := r.Traces(), slices.Sorted(maps.Keys(want)); !slices.Equal(got, l) {
		t.Errorf("Traces: %v, not %v", got, l)
	}
}

// counts holds how many records the replica tells to that.
func counts(t *testing.T, r *replica.Replica, want int) {
	t.Helper()
	if n := r.Records(); n != want {
		t.Errorf("Records: %d, not %d", n, want)
	}
}

// handles holds Handle to that answer.
func handles(t *testing.T, r *replica.Replica, p, want api.Packet) {
	t.Helper()
	if got, k := r.Handle(p); k != api.OK || !reflect.DeepEqual(got, want) {
		t.Errorf("Handle of %v: %v %d, not %v", p, got, k, want)
	}
}

// refuses holds Handle to that kind, and no answer.
func refuses(t *testing.T, r *replica.Replica, p api.Packet, want api.Kind) {
	t.Helper()
	if got, k := r.Handle(p); k != want || !reflect.DeepEqual(got, api.Packet{}) {
		t.Errorf("Handle of %v: %v %d, not nothing and %d", p, got, k, want)
	}
}

// does has the replica handle p, which must do what the words say, and the
// registers with it.
func (want regs) does(t *testing.T, r *replica.Replica, p api.Packet) {
	t.Helper()
	reg, a := asked(want[p.Trace], p)
	handles(t, r, p, a)
	want[p.Trace] = reg
}

// some is records of three traces, and the registers that they tell.
func some() ([]string, regs) {
	five, last := promised(of(5, 2)), register.Reg{Promised: of(9, 1), Taken: of(3, 1), V: api.Over}
	return []string{
			rec(7, promised(of(1, 1))), rec(end, taken(of(3, 1), api.Over)), rec(7, taken(of(2, 1), api.Keep)),
			rec(3, five), rec(end, last),
		},
		regs{3: five, 7: taken(of(2, 1), api.Keep), end: last}
}

func TestP1301OpenOfWrongArguments(t *testing.T) {
	noLog := laid(t, 64)
	is(t, "Append of the disk", noLog.Append(5, make([]byte, 100)), api.OK)
	is(t, "Append of the disk", noLog.Append(9, []byte("x")), api.OK)
	recs, _ := some()
	down, downNoRecord := laid(t, 64, recs...), laid(t, 64, "no record")
	bring(t, down)
	bring(t, downNoRecord)
	disks := func() []*disk.Disk {
		return []*disk.Disk{empty(t, 10), laid(t, 64, recs...), laid(t, 64, "no record"), down, downNoRecord, noLog}
	}
	for _, most := range []int{63, 1, 0, -1, math.MinInt, api.MaxFile + 1, math.MaxInt} {
		fails(t, "no disk", nil, most, api.Nil)
		for _, d := range disks() {
			fails(t, "some disk", d, most, api.BadArg)
		}
	}
	for _, most := range []int{64, 65, 4096, api.MaxFile - 1, api.MaxFile} {
		fails(t, "no disk", nil, most, api.Nil)
		fails(t, "a disk that is down", down, most, api.Down)
		fails(t, "a disk that is down, of no record", downNoRecord, most, api.Down)
		fails(t, "a disk without a log", noLog, most, api.BadForm)
		fails(t, "a disk of no record", laid(t, 64, "no record"), most, api.BadForm)
		has(t, opened(t, empty(t, 10), most), nil)
	}
}

func TestP1301OpenOfWhatLies(t *testing.T) {
	recs, want := some()
	for _, most := range []int{64, 100, 5000} {
		d := laid(t, most, recs...)
		was := lying(d)
		for range 3 {
			r := opened(t, d, most)
			has(t, r, want)
			counts(t, r, len(recs))
		}
		if !maps.Equal(lying(d), was) {
			t.Errorf("Open changed the disk")
		}
		r := opened(t, d, most)
		want.does(t, r, prepare(3, of(6, 1))) // it goes on from there
		has(t, opened(t, d, most), want)
		_, want = some()
	}
	d := empty(t, 100)
	r := opened(t, d, 64)
	has(t, r, nil)
	counts(t, r, 0)
	if n := d.Files(); len(n) != 0 {
		t.Errorf("Open of an empty disk: files %v", n)
	}
}

// edges has right registers at the edges.
func edges() []register.Reg {
	l := []register.Reg{
		promised(of(1, 0)), promised(of(1, 1)), promised(of(end, end)), promised(of(0, 5)),
		promised(of(0x1112131415161718, 0x2122232425262728)),
	}
	for v := api.Keep; v <= api.Over; v++ {
		l = append(l, taken(of(1, 0), v), taken(of(end, end), v), taken(of(0, 1), v),
			register.Reg{Promised: of(0x3132333435363738, 0x4142434445464748), Taken: of(0x1112131415161718, 0x2122232425262728), V: v},
			register.Reg{Promised: of(3, 2), Taken: of(3, 1), V: v},
			register.Reg{Promised: of(end, 0), Taken: of(end-1, end), V: v})
	}
	return l
}

func TestP1301OpenOfEdges(t *testing.T) {
	for _, reg := range edges() {
		for _, trace := range []uint64{1, 256, 0x0102030405060708, end} {
			has(t, opened(t, laid(t, 64, rec(trace, reg)), 64), regs{trace: reg})
		}
	}
	// By the last record, also where a register falls, or is the zero one again.
	up, low := taken(of(5, 1), api.Keep), promised(of(2, 1))
	has(t, opened(t, laid(t, 64, rec(1, low), rec(1, up)), 64), regs{1: up})
	has(t, opened(t, laid(t, 64, rec(1, up), rec(2, up), rec(1, low)), 64), regs{1: low, 2: up})
	zero := opened(t, laid(t, 64, rec(1, up), rec(2, up), rec(1, register.Reg{})), 64)
	has(t, zero, regs{2: up})
	counts(t, zero, 3)
	is(t, "Compact", zero.Compact(), api.OK)
	counts(t, zero, 1)
}

// wrongs has what is no record.
func wrongs() []string {
	b := of(3, 1)
	right := rec(1, taken(b, api.Keep))
	l := []string{
		"", "x", right[:40], right + "\x00", right + right, right[:8], right[1:], strings.Repeat("\x00", 41),
		rec(0, taken(b, api.Keep)), rec(0, promised(b)),
		rec(1, taken(b, 4)), rec(1, taken(b, 255)), rec(1, taken(b, api.None)), rec(1, taken(of(0, 1), api.None)),
		rec(1, register.Reg{Promised: b, V: api.Keep}), rec(1, register.Reg{V: api.Drop}),
		rec(1, register.Reg{Taken: b, V: api.Keep}),
		rec(1, register.Reg{Promised: b, Taken: of(3, 2), V: api.Keep}),
		rec(1, register.Reg{Promised: b, Taken: of(4, 0), V: api.Keep}),
	}
	for n := range 100 {
		if n != 41 {
			l = append(l, strings.Repeat("\x01", n))
		}
	}
	return append(l, strings.Repeat("\x01", api.MaxFrame))
}

func TestP1301NoRecord(t *testing.T) {
	recs, _ := some()
	for _, wrong := range wrongs() {
		for _, most := range []int{64, 5000} {
			fails(t, "no record", laid(t, most, wrong), most, api.BadForm)
			for at := range len(recs) + 1 {
				fails(t, "no record among others", laid(t, most, slices.Insert(slices.Clone(recs), at, wrong)...), most, api.BadForm)
			}
		}
	}
}

// TestP1301NoRecordAndATornWrite: a disk of no replica stays as it is, what is
// loose, and no whole frame, too.
func TestP1301NoRecordAndATornWrite(t *testing.T) {
	recs, _ := some()
	d := laid(t, 5000, append(recs, "no record")...)
	fast := lying(d)
	is(t, "Append of the disk", d.Append(0, []byte("torn")), api.OK)
	fails(t, "no record, and a torn write", d, 5000, api.BadForm)
	d.Crash(nil)
	if !maps.Equal(lying(d), fast) {
		t.Errorf("Open had what is loose be fast")
	}
	d = laid(t, 64, append(recs, "no record that fills its file: "+strings.Repeat("x", 64))...)
	is(t, "Append of the disk", d.Append(len(recs)+1, []byte("torn")), api.OK)
	fails(t, "no record, and a torn file", d, 64, api.BadForm)
}

func TestP1301ATornWrite(t *testing.T) {
	recs, want := some()
	torn, k := frame.Put(nil, []byte(rec(3, taken(of(8, 8), api.Drop))))
	is(t, "Put", k, api.OK)
	for n := range torn {
		d := laid(t, 5000, recs...)
		was := lying(d)
		is(t, "Append of the disk", d.Append(0, torn[:n]), api.OK)
		r := opened(t, d, 5000)
		has(t, r, want)
		if !maps.Equal(lying(d), was) {
			t.Errorf("%d bytes of a frame are left", n)
		}
		now := maps.Clone(want)
		now.does(t, r, prepare(3, of(6, 1)))
		d.Crash(nil)
		has(t, opened(t, d, 5000), now)
	}
}

// TestP1301WhatLiesIsFast: also what was loose ahead of Open is answered, without
// a record of its own, and so it must last.
func TestP1301WhatLiesIsFast(t *testing.T) {
	for _, most := range []int{64, 5000} {
		d := empty(t, 1000)
		l, _ := wal.Open(d, most)
		for _, text := range []string{rec(1, promised(of(3, 1))), rec(2, promised(of(3, 1)))} {
			is(t, "Append of the log", l.Append([]byte(text)), api.OK)
		}
		r := opened(t, d, most)
		handles(t, r, prepare(2, of(3, 1)), api.Packet{Kind: api.Promise, Trace: 2, B: of(3, 1), Ok: true})
		d.Crash(nil)
		has(t, opened(t, d, most), regs{1: promised(of(3, 1)), 2: promised(of(3, 1))})
	}
}

func TestP1302Answers(t *testing.T) {
	r := opened(t, empty(t, 10000), 64)
	b, low, high := of(5, 2), of(5, 1), of(6, 1)
	handles(t, r, prepare(7, b), api.Packet{Kind: api.Promise, Trace: 7, B: b, Ok: true})
	handles(t, r, prepare(7, b), api.Packet{Kind: api.Promise, Trace: 7, B: b, Ok: true})
	handles(t, r, prepare(7, low), api.Packet{Kind: api.Promise, Trace: 7, B: low, Seen: b})
	handles(t, r, accept(7, low, api.Keep), api.Packet{Kind: api.Accepted, Trace: 7, B: low, Seen: b})
	handles(t, r, accept(7, b, api.Drop), api.Packet{Kind: api.Accepted, Trace: 7, B: b, Ok: true})
	handles(t, r, accept(7, b, api.Drop), api.Packet{Kind: api.Accepted, Trace: 7, B: b, Ok: true})
	handles(t, r, accept(7, b, api.Keep), api.Packet{Kind: api.Accepted, Trace: 7, B: b, Seen: b})
	handles(t, r, prepare(7, b), api.Packet{Kind: api.Promise, Trace: 7, B: b, Ok: true, Seen: b, V: api.Drop})
	handles(t, r, prepare(7, high), api.Packet{Kind: api.Promise, Trace: 7, B: high, Ok: true, Seen: b, V: api.Drop})
	handles(t, r, accept(7, b, api.Drop), api.Packet{Kind: api.Accepted, Trace: 7, B: b, Seen: high})
	has(t, r, regs{7: {Promised: high, Taken: b, V: api.Drop}})
	// Another trace has a register of its own.
	handles(t, r, accept(8, low, api.Over), api.Packet{Kind: api.Accepted, Trace: 8, B: low, Ok: true})
	has(t, r, regs{7: {Promised: high, Taken: b, V: api.Drop}, 8: taken(low, api.Over)})
}

func TestP1302AnswersAtTheEdges(t *testing.T) {
	ballots := []api.Ballot{of(1, 0), of(1, 1), of(3, 1), of(3, 2), of(end-1, end), of(end, 0), of(end, end)}
	for _, reg := range append(edges(), register.Reg{}) {
		for _, b := range ballots {
			for v := api.None; v <= api.Over; v++ {
				p := prepare(end, b)
				if v != api.None {
					p = accept(end, b, v)
				}
				d := laid(t, 64, rec(end, reg))
				r := opened(t, d, 64)
				want := regs{end: reg}
				want.does(t, r, p)
				has(t, r, want)
				lying := []string{rec(end, reg)}
				if want[end] != reg {
					lying = append(lying, rec(end, want[end]))
				}
				lies(t, d, lying...)
				d.Crash(nil)
				lies(t, d, lying...)
			}
		}
	}
}

func TestP1302TheRecords(t *testing.T) {
	for _, most := range []int{64, 100, 5000} {
		d := empty(t, 10000)
		r := opened(t, d, most)
		want, recs := regs{}, []string(nil)
		for i, p := range []api.Packet{
			prepare(7, of(5, 2)), prepare(7, of(5, 2)), prepare(7, of(4, 9)), accept(7, of(4, 9), api.Keep),
			accept(7, of(5, 2), api.Drop), accept(7, of(5, 2), api.Drop), accept(7, of(5, 2), api.Over), prepare(7, of(5, 2)),
			prepare(0x0102030405060708, of(0x1112131415161718, 0x2122232425262728)), prepare(7, of(6, 1)), accept(1, of(1, 0), api.Over),
		} {
			was := want[p.Trace]
			want.does(t, r, p)
			if want[p.Trace] != was {
				recs = append(recs, rec(p.Trace, want[p.Trace]))
			}
			counts(t, r, len(recs))
			lies(t, d, recs...)
			if i%2 == 0 {
				d.Crash(nil) // it is fast as soon as it is answered
				lies(t, d, recs...)
			}
			has(t, opened(t, d, most), want)
		}
		if len(recs) != 5 {
			t.Errorf("%d records, not 5", len(recs))
		}
	}
}

// unasked has packets that are no right Prepare or Accept.
func unasked() []api.Packet {
	b := of(3, 1)
	spans := []api.Span{{Trace: 1, Id: 1, Service: "shop", Name: "buy"}}
	l := []api.Packet{ // right ones, of other Kinds
		{Kind: api.Forward, Trace: 1, Spans: spans},
		{Kind: api.Handoff, Trace: 1, Spans: spans},
		{Kind: api.Gossip, Members: []api.Member{{Id: 1, Inc: 1}}},
		{Kind: api.Promise, Trace: 1, B: b, Ok: true},
		{Kind: api.Promise, Trace: 1, B: b, Ok: true, Seen: b, V: api.Keep},
		{Kind: api.Accepted, Trace: 1, B: b, Ok: true},
		{Kind: api.Tell, Trace: 1, V: api.Keep},
		{Kind: api.Write, Trace: 1, B: b, Spans: spans},
		{Kind: api.Ack, Trace: 1, Ids: []uint64{1}},
	}
	for _, p := range l {
		if message.Right(p) != api.OK {
			panic("a packet that is not right")
		}
	}
	for _, p := range []api.Packet{prepare(1, b), accept(1, b, api.Keep)} {
		for _, change := range []func(p *api.Packet){
			func(p *api.Packet) { p.Trace = 0 },
			func(p *api.Packet) { p.B.N = 0 },
			func(p *api.Packet) { p.B = api.Ballot{} },
			func(p *api.Packet) { p.V = -1 },
			func(p *api.Packet) { p.V = 4 },
			func(p *api.Packet) { p.V = math.MaxInt },
			func(p *api.Packet) { p.Seen = b },
			func(p *api.Packet) { p.Ok = true },
			func(p *api.Packet) { p.Spans = spans },
			func(p *api.Packet) { p.Members = []api.Member{{Id: 1, Inc: 1}} },
			func(p *api.Packet) { p.Ids = []uint64{1} },
		} {
			wrong := p
			change(&wrong)
			l = append(l, wrong)
		}
	}
	return append(l, prepareOf(api.Keep), accept(1, b, api.None), api.Packet{}, api.Packet{Kind: -1, Trace: 1, B: b}, api.Packet{Kind: 11, Trace: 1, B: b})
}

// prepareOf is a Prepare that has a verdict.
func prepareOf(v api.Verdict) api.Packet {
	p := prepare(1, of(3, 1))
	p.V = v
	return p
}

func TestP1302WrongPackets(t *testing.T) {
	for _, p := range unasked() {
		d := empty(t, 1000)
		r := opened(t, d, 64)
		refuses(t, r, p, api.BadForm)
		has(t, r, nil)
		counts(t, r, 0)
		want := regs{}
		want.does(t, r, prepare(1, of(2, 1)))
		was := lying(d)
		refuses(t, r, p, api.BadForm)
		has(t, r, want)
		if !maps.Equal(lying(d), was) {
			t.Errorf("%v changed the disk", p)
		}
		// It said nothing of Down, so that it goes on when the disk does.
		bring(t, d)
		refuses(t, r, p, api.BadForm)
		d.Crash(nil)
		want.does(t, r, accept(1, of(2, 1), api.Keep))
		bring(t, d)
		refuses(t, r, prepare(1, of(2, 1)), api.Down)
		refuses(t, r, p, api.BadForm)
		d.Crash(nil)
		refuses(t, r, p, api.BadForm)
		refuses(t, r, prepare(1, of(2, 1)), api.Down)
	}
}

// keepsOn holds a replica to going on with these registers, where it can write
// nothing more: by that kind.
func keepsOn(t *testing.T, r *replica.Replica, want regs, k api.Kind) {
	t.Helper()
	records := r.Records()
	for range 2 {
		refuses(t, r, prepare(1000, of(1, 1)), k)
		refuses(t, r, accept(1000, of(1, 1), api.Keep), k)
		for trace, reg := range want {
			high := of(reg.Promised.N+1, 1)
			refuses(t, r, prepare(trace, high), k)
			refuses(t, r, accept(trace, high, api.Drop), k)
			// What needs no record is answered, by the registers as they were.
			want.does(t, r, prepare(trace, reg.Promised))
			want.does(t, r, prepare(trace, of(reg.Promised.N, 0)))
			want.does(t, r, accept(trace, of(reg.Promised.N, 0), api.Keep))
		}
		has(t, r, want)
		counts(t, r, records)
	}
}

func TestP1302TheDiskIsFull(t *testing.T) {
	for room := headed + 3*framed; room < headed+4*framed; room++ {
		d := empty(t, room)
		r := opened(t, d, 5000)
		want := regs{}
		want.does(t, r, prepare(5, of(3, 2)))
		want.does(t, r, accept(5, of(3, 2), api.Keep))
		want.does(t, r, prepare(2, of(8, 1)))
		keepsOn(t, r, want, api.Full)
		is(t, "Compact", r.Compact(), api.Full)
		keepsOn(t, r, want, api.Full)
		d.Crash(nil)
		keepsOn(t, r, want, api.Full)
		has(t, opened(t, d, 5000), want)
	}
	nothing := opened(t, empty(t, headed+framed-1), 64)
	keepsOn(t, nothing, regs{}, api.Full)
	counts(t, nothing, 0)
}

func TestP1302TheFilesAreAllThere(t *testing.T) {
	d := empty(t, api.MaxFile)
	r := opened(t, d, 64) // each record fills a file
	want := regs{}
	for i := range uint64(api.MaxFiles - 1) {
		want.does(t, r, prepare(i+1, of(3, 2)))
	}
	keepsOn(t, r, want, api.Full)
	is(t, "Compact", r.Compact(), api.Full)
	keepsOn(t, r, want, api.Full)
	counts(t, r, api.MaxFiles-1)
	has(t, opened(t, d, 64), want)
	bring(t, d)
	refuses(t, r, prepare(1000, of(1, 1)), api.Down) // ahead of Full
	refuses(t, r, prepare(1, of(3, 2)), api.Down)
}

// staysDown holds a replica that said Down to saying so from then on, also when
// its disk is up again, with the registers that it had.
func staysDown(t *testing.T, r *replica.Replica, d *disk.Disk, want regs) {
	t.Helper()
	for i := range 3 {
		refuses(t, r, prepare(1000, of(1, 1)), api.Down)
		for trace, reg := range want {
			refuses(t, r, prepare(trace, of(reg.Promised.N+1, 1)), api.Down)
			refuses(t, r, prepare(trace, reg.Promised), api.Down)
			refuses(t, r, prepare(trace, of(1, 0)), api.Down)
			refuses(t, r, accept(trace, reg.Promised, api.Keep), api.Down)
		}
		is(t, "Compact", r.Compact(), api.Down)
		has(t, r, want)
		if i == 0 {
			d.Crash(slices.Repeat([]int{1000}, api.MaxFiles))
		}
	}
}

func TestP1302Down(t *testing.T) {
	for _, most := range []int{64, 5000} {
		for can := range headed + framed {
			for _, p := range []api.Packet{prepare(5, of(4, 1)), accept(5, of(4, 1), api.Drop), prepare(6, of(1, 1)), accept(6, of(1, 1), api.Over)} {
				d := empty(t, 1000)
				r := opened(t, d, most)
				want := regs{}
				want.does(t, r, prepare(5, of(3, 2)))
				want.does(t, r, accept(5, of(3, 2), api.Keep))
				d.Arm(can)
				if most == 5000 && can >= framed {
					want.does(t, r, p)
					continue
				}
				refuses(t, r, p, api.Down)
				has(t, r, want)
				counts(t, r, 2)
				if can%2 == 0 { // it is up again ahead of the next call
					d.Crash(nil)
				}
				staysDown(t, r, d, want)
			}
		}
	}
}

// TestP1302DownByTheDisk: a call that finds the disk down says so, and so do all
// behind it.
func TestP1302DownByTheDisk(t *testing.T) {
	for _, p := range []api.Packet{prepare(5, of(4, 1)), prepare(5, of(3, 2)), prepare(5, of(1, 1)), accept(6, of(1, 1), api.Keep)} {
		d := empty(t, 1000)
		r := opened(t, d, 64)
		want := regs{}
		want.does(t, r, prepare(5, of(3, 2)))
		bring(t, d)
		has(t, r, want)
		counts(t, r, 1)
		refuses(t, r, p, api.Down)
		staysDown(t, r, d, want)
		r = opened(t, d, 64)
		has(t, r, want)
		want.does(t, r, p)
	}
	// A disk that was down while nobody asked is as good as one that was not.
	d := empty(t, 1000)
	r := opened(t, d, 64)
	want := regs{}
	want.does(t, r, prepare(5, of(3, 2)))
	bring(t, d)
	d.Crash(nil)
	want.does(t, r, accept(5, of(3, 2), api.Keep))
	has(t, opened(t, d, 64), want)
}

func TestP1303Traces(t *testing.T) {
	d := empty(t, 100000)
	r := opened(t, d, 5000)
	want := regs{}
	has(t, r, want)
	for _, trace := range []uint64{256, 1, end, 255, 2, 1 << 63, end - 1, 1<<63 - 1, 3, 257} {
		if reg := r.Reg(trace); reg != (register.Reg{}) {
			t.Errorf("Reg of %d at first: %v", trace, reg)
		}
		want.does(t, r, prepare(trace, of(trace, trace)))
		has(t, r, want)
	}
	for _, trace := range []uint64{0, 4, 254, end - 2} {
		if reg := r.Reg(trace); reg != (register.Reg{}) {
			t.Errorf("Reg of %d: %v", trace, reg)
		}
	}
	has(t, opened(t, d, 5000), want)
	bring(t, d)
	has(t, r, want)
}

func TestP1303WhatComesInAndOutIsNotShared(t *testing.T) {
	r := opened(t, empty(t, 10000), 64)
	want := regs{}
	for trace := range uint64(9) {
		want.does(t, r, accept(trace+1, of(3, 1), api.Keep))
	}
	l := r.Traces()
	l = append(l, 99)
	for i := range l[:cap(l)] {
		l[:cap(l)][i] = 77
	}
	has(t, r, want)
	reg := r.Reg(1)
	reg.V = api.Drop
	has(t, r, want)
}

func TestP1304CompactDropsWhatIsAhead(t *testing.T) {
	d := empty(t, 100000)
	r := opened(t, d, 64) // each record fills a file
	want := regs{}
	for i := range uint64(25) {
		want.does(t, r, prepare(end-i%5, of(i+1, 1)))
		want.does(t, r, accept(end-i%5, of(i+1, 1), api.Verdict(1+i%3)))
	}
	counts(t, r, 50)
	for range 20 { // also when the files' numbers go round
		is(t, "Compact", r.Compact(), api.OK)
		counts(t, r, 5)
		has(t, r, want)
		var recs []string
		for _, trace := range slices.Sorted(maps.Keys(want)) {
			recs = append(recs, rec(trace, want[trace]))
		}
		lies(t, d, recs...)
		if n := len(d.Files()); n != 5 {
			t.Errorf("%d files, not 5", n)
		}
		d.Crash(nil)
		lies(t, d, recs...)
		has(t, opened(t, d, 64), want)
	}
	want.does(t, r, prepare(end, of(1000, 1)))
	counts(t, r, 6)
	has(t, opened(t, d, 64), want)
}

// TestP1304CompactDropsNoPartOfAFile: of the file in which the new records begin
// those ahead of them stay.
func TestP1304CompactDropsNoPartOfAFile(t *testing.T) {
	d := empty(t, 100000)
	most := headed + 2*framed + 1 // a file has three
	r := opened(t, d, most)
	want := regs{}
	var recs []string
	for i := range uint64(7) {
		want.does(t, r, prepare(9-i%3, of(i+1, 1)))
		recs = append(recs, rec(9-i%3, want[9-i%3]))
	}
	is(t, "Compact", r.Compact(), api.OK)
	recs = append(recs[6:], rec(7, want[7]), rec(8, want[8]), rec(9, want[9]))
	lies(t, d, recs...)
	counts(t, r, 4)
	has(t, r, want)
	is(t, "Compact", r.Compact(), api.OK)
	recs = append(recs[3:], rec(7, want[7]), rec(8, want[8]), rec(9, want[9]))
	lies(t, d, recs...)
	want.does(t, r, prepare(1, of(1, 1)))
	want.does(t, r, prepare(2, of(1, 1)))
	lies(t, d, append(recs, rec(1, want[1]), rec(2, want[2]))...)
	is(t, "Compact", r.Compact(), api.OK) // these are the first ones of a file
	lies(t, d, rec(1, want[1]), rec(2, want[2]), rec(7, want[7]), rec(8, want[8]), rec(9, want[9]))
	has(t, opened(t, d, most), want)
}

func TestP1304CompactSyncs(t *testing.T) {
	d := empty(t, 100000)
	r := opened(t, d, 50000)
	want := regs{}
	for i := range uint64(10) {
		want.does(t, r, prepare(i%4+1, of(i+1, 1)))
	}
	is(t, "Compact", r.Compact(), api.OK)
	d.Crash(nil)
	counts(t, r, 14) // of one file none goes
	counts(t, opened(t, d, 50000), 14)
	has(t, opened(t, d, 50000), want)
}

func TestP1304CompactOfNothing(t *testing.T) {
	d := empty(t, 1)
	r := opened(t, d, 64)
	for range 3 {
		is(t, "Compact", r.Compact(), api.OK)
		counts(t, r, 0)
		has(t, r, nil)
	}
	bring(t, d)
	is(t, "Compact", r.Compact(), api.Down)
	d.Crash(nil)
	is(t, "Compact", r.Compact(), api.Down)
	refuses(t, r, prepare(1, of(1, 1)), api.Down)
	counts(t, r, 0)
	is(t, "Compact", opened(t, d, 64).Compact(), api.OK)
}

func TestP1304CompactDown(t *testing.T) {
	for _, most := range []int{64, 5000} {
		for can := range 3 * framed {
			for _, atOnce := range []bool{false, true} {
				d := empty(t, 10000)
				r := opened(t, d, most)
				want := regs{}
				for i := range uint64(5) {
					want.does(t, r, prepare(3-i%3, of(i+1, 1)))
				}
				d.Arm(can)
				is(t, "Compact", r.Compact(), api.Down)
				has(t, r, want)
				if atOnce { // it is up again ahead of the next call
					d.Crash([]int{0, 0, 0, 0, 0, 100, 100, 100})
				}
				staysDown(t, r, d, want)
				r = opened(t, d, most)
				has(t, r, want)
				is(t, "Compact", r.Compact(), api.OK)
				has(t, r, want)
			}
		}
	}
}

// TestP1304CompactOnAFullDisk: where it fails on the way, all registers stay,
// and what can be told without a record is told.
func TestP1304CompactOnAFullDisk(t *testing.T) {
	for _, most := range []int{64, headed + framed + 1, 5000} {
		for room := 4 * (headed + framed); room < 8*(headed+framed); room++ {
			d := empty(t, room)
			r := opened(t, d, most)
			want := regs{}
			for i := range uint64(4) {
				want.does(t, r, prepare(4-i, of(3, 2)))
			}
			k := r.Compact()
			size := 4 * framed
			if most == 64 {
				size += 4 * headed
			} else if most != 5000 {
				size += 2 * headed
			}
			enough := 2*size <= room
			if most == 5000 {
				enough = headed+2*size <= room
			}
			if enough != (k == api.OK) || !enough && k != api.Full {
				t.Fatalf("Compact, most %d, room %d: %d", most, room, k)
			}
			has(t, r, want)
			for trace := range want {
				want.does(t, r, prepare(trace, of(3, 2)))
				want.does(t, r, prepare(trace, of(2, 2)))
			}
			counts(t, r, len(logged(t, d)))
			has(t, opened(t, d, most), want)
			d.Crash(nil)
			has(t, opened(t, d, most), want)
		}
	}
}

func TestP1304CompactWithoutAFileLeft(t *testing.T) {
	for traces := range uint64(40) {
		d := empty(t, api.MaxFile)
		r := opened(t, d, 64)
		want := regs{}
		for i := range uint64(40) {
			want.does(t, r, prepare(i%(traces+1)+1, of(i+1, 1)))
		}
		k := api.OK
		if traces+1 > api.MaxFiles-1-40 {
			k = api.Full
		}
		is(t, "Compact", r.Compact(), k)
		has(t, r, want)
		has(t, opened(t, d, 64), want)
		if k == api.OK {
			counts(t, r, int(traces+1))
		}
	}
}

// TestP1304CompactAtTheEndOfNumbers: the number of the record behind the last one
// may be beyond what Drop takes.
func TestP1304CompactAtTheEndOfNumbers(t *testing.T) {
	for less := range uint64(5) {
		head := binary.BigEndian.AppendUint64(nil, math.MaxInt-less)
		b, _ := frame.Put(nil, head)
		for i := range uint64(3) {
			b, _ = frame.Put(b, []byte(rec(i%2+1, promised(of(i+1, 1)))))
		}
		d := empty(t, 10000)
		is(t, "Append of the disk", d.Append(3, b), api.OK)
		r := opened(t, d, 5000)
		want := regs{1: promised(of(3, 1)), 2: promised(of(2, 1))}
		has(t, r, want)
		is(t, "Compact", r.Compact(), api.OK)
		has(t, opened(t, d, 5000), want)
		counts(t, r, 5)
	}
}

func TestP1301ToP1304OfNil(t *testing.T) {
	for _, r := range []*replica.Replica{nil, {}} {
		for _, p := range append(unasked(), prepare(1, of(1, 1)), accept(1, of(1, 1), api.Keep)) {
			refuses(t, r, p, api.Nil)
		}
		is(t, "Compact", r.Compact(), api.Nil)
		for _, trace := range []uint64{0, 1, end} {
			if reg := r.Reg(trace); reg != (register.Reg{}) {
				t.Errorf("Reg of nil: %v", reg)
			}
		}
		has(t, r, nil)
		counts(t, r, 0)
	}
}

// call is one of a script: a packet, or Compact.
type call struct {
	p       api.Packet
	compact bool
}

// script is calls of some traces, with Compact among them.
func script() []call {
	var l []call
	for _, p := range []api.Packet{
		prepare(2, of(3, 1)), accept(2, of(3, 1), api.Keep), prepare(1, of(4, 2)), prepare(2, of(2, 1)),
		{}, prepare(2, of(5, 1)), accept(1, of(4, 2), api.Drop), accept(3, of(1, 1), api.Over),
		{}, accept(2, of(5, 1), api.Keep), prepare(3, of(1, 1)), prepare(3, of(7, 7)), {}, prepare(1, of(9, 9)),
	} {
		l = append(l, call{p, p.Kind == 0})
	}
	return l
}

// cutOff makes the calls till one says Down, and is which one does; all of them,
// if none does. The registers are those that were answered.
func cutOff(t *testing.T, r *replica.Replica, calls []call, want regs) int {
	t.Helper()
	for i, c := range calls {
		if c.compact {
			if k := r.Compact(); k != api.OK {
				is(t, "Compact", k, api.Down)
				return i
			}
			continue
		}
		reg, a := asked(want[c.p.Trace], c.p)
		got, k := r.Handle(c.p)
		if k == api.Down && reflect.DeepEqual(got, api.Packet{}) {
			return i
		}
		if k != api.OK || !reflect.DeepEqual(got, a) {
			t.Fatalf("Handle of %v: %v %d, not %v", c.p, got, k, a)
		}
		want[c.p.Trace] = reg
	}
	return len(calls)
}

// keeps is how many loose bytes of a file may stay: none, and those at the edges
// of what a record, and a file's beginning, has.
func keeps() []int {
	l := []int{-1, 0, 1, 4, 30, api.MaxFile}
	for _, edge := range []int{headed, framed, headed + framed, 2 * framed, headed + 2*framed} {
		l = append(l, edge-1, edge, edge+1)
	}
	return l
}

// TestP1305ACrashAtAnyByte: the disk goes down at each byte that the script
// writes, a beginning of what is loose stays, and then the script goes on.
func TestP1305ACrashAtAnyByte(t *testing.T) {
	calls := script()
	for _, most := range []int{64, headed + 2*framed, 5000} {
		for can := 0; ; can++ {
			at := 0
			for _, keep := range keeps() {
				d := empty(t, 20000)
				r := opened(t, d, most)
				want := regs{}
				d.Arm(can)
				if at = cutOff(t, r, calls, want); at == len(calls) {
					break
				}
				is(t, "Compact behind Down", r.Compact(), api.Down)
				refuses(t, r, prepare(2, of(3, 1)), api.Down)
				has(t, r, want)
				d.Crash(slices.Repeat([]int{keep}, api.MaxFiles))
				r = opened(t, d, most)
				if c := calls[at]; !c.compact {
					if reg, _ := asked(want[c.p.Trace], c.p); r.Reg(c.p.Trace) == reg {
						want[c.p.Trace] = reg
					}
				}
				has(t, r, want)
				if n := cutOff(t, r, calls[at:], want); n != len(calls)-at {
					t.Fatalf("call %d said Down", at+n)
				}
				d.Crash(nil)
				has(t, opened(t, d, most), want)
				if t.Failed() {
					t.Fatalf("most %d, armed with %d, %d kept, cut off at %d", most, can, keep, at)
				}
			}
			if at == len(calls) {
				break
			}
		}
	}
}

// TestP1305ManyCalls makes many calls by chance, over crashes, on disks that are
// small.
func TestP1305ManyCalls(t *testing.T) {
	chance := rand.New(rand.NewSource(13))
	seen := map[api.Kind]int{}
	for _, room := range []int{100, 400, 2000, 9000} {
		for _, most := range []int{64, 150, 5000} {
			for range 20 {
				if manyCalls(t, chance, empty(t, room), most, seen); t.Failed() {
					t.Fatalf("room %d, most %d", room, most)
				}
			}
		}
	}
	if seen[api.OK] < 5000 || seen[api.Full] < 2000 || seen[api.Down] < 500 {
		t.Errorf("calls by their kinds: %v", seen)
	}
}

// byChance is a call by chance.
func byChance(chance *rand.Rand) call {
	p := prepare(uint64(1+chance.Intn(6)), of(uint64(1+chance.Intn(60)), uint64(chance.Intn(3))))
	switch chance.Intn(9) {
	case 0:
		return call{compact: true}
	case 1, 2, 3, 4:
		p = accept(p.Trace, p.B, api.Verdict(1+chance.Intn(3)))
	}
	return call{p: p}
}

// manyCalls makes calls of the disk's replica; where it has written nothing, and
// where it says an error, it must be as it was.
func manyCalls(t *testing.T, chance *rand.Rand, d *disk.Disk, most int, seen map[api.Kind]int) {
	t.Helper()
	r, want := opened(t, d, most), regs{}
	for range 100 {
		if chance.Intn(12) == 0 {
			d.Arm(chance.Intn(120) - 20)
		}
		c := byChance(chance)
		reg, a := asked(want[c.p.Trace], c.p)
		k := api.OK
		if c.compact {
			reg, k = want[c.p.Trace], r.Compact()
		} else {
			var got api.Packet
			if got, k = r.Handle(c.p); k != api.OK {
				a = api.Packet{}
			}
			if !reflect.DeepEqual(got, a) {
				t.Fatalf("Handle of %v: %v %d, not %v", c.p, got, k, a)
			}
			if k == api.OK && reg != (register.Reg{}) {
				want[c.p.Trace] = reg
			}
		}
		seen[k]++
		has(t, r, want)
		if d.Down() != (k == api.Down) || k != api.OK && k != api.Full && k != api.Down {
			t.Fatalf("a call said %d", k)
		}
		if k == api.Down || chance.Intn(20) == 0 {
			crash(chance, d)
			r = opened(t, d, most)
			if k == api.Down && !c.compact && r.Reg(c.p.Trace) == reg {
				want[c.p.Trace] = reg
			}
		}
		has(t, r, want)
		if t.Failed() {
			return
		}
	}
}

// crash has the disk crash, and keep what it will.
func crash(chance *rand.Rand, d *disk.Disk) {
	keep := make([]int, len(d.Files()))
	for i := range keep {
		keep[i] = chance.Intn(2*framed) - 10
	}
	d.Crash(keep)
}

// fleet is replicas whose disks crash, and proposals to them.
type fleet struct {
	chance *rand.Rand
	disks  []*disk.Disk
	nodes  []*replica.Replica
	took   map[api.Ballot]map[int]api.Verdict
}

// propose asks the replicas for a trace's verdict under that ballot, each one in
// its turn, as long as they are up and grant it.
func (f *fleet) propose(t *testing.T, b api.Ballot, want api.Verdict) {
	t.Helper()
	granted, highest := 0, api.Ballot{}
	for _, at := range f.chance.Perm(len(f.nodes)) {
		if a, is := f.ask(t, at, prepare(1, b)); is {
			granted++
			if a.V != api.None && below(highest, a.Seen) {
				highest, want = a.Seen, a.V
			}
		}
	}
	if 2*granted <= len(f.nodes) {
		return
	}
	f.took[b] = map[int]api.Verdict{}
	for _, at := range f.chance.Perm(len(f.nodes))[:1+f.chance.Intn(len(f.nodes))] {
		if _, is := f.ask(t, at, accept(1, b, want)); is {
			f.took[b][at] = want
		}
	}
}

// ask is what the replica grants; one that goes down comes up again.
func (f *fleet) ask(t *testing.T, at int, p api.Packet) (api.Packet, bool) {
	t.Helper()
	if f.chance.Intn(4) == 0 {
		f.disks[at].Arm(f.chance.Intn(80))
	}
	if f.chance.Intn(8) == 0 {
		f.nodes[at].Compact()
	}
	a, k := f.nodes[at].Handle(p)
	if f.disks[at].Down() {
		is(t, "Handle", k, api.Down)
		crash(f.chance, f.disks[at])
		f.nodes[at] = opened(t, f.disks[at], 150)
	} else {
		is(t, "Handle", k, api.OK)
	}
	return a, a.Ok
}

// chosen is the verdicts that more than half said they took under one ballot.
func (f *fleet) chosen() map[api.Verdict]int {
	all := map[api.Verdict]int{}
	for _, took := range f.took {
		if 2*len(took) > len(f.nodes) {
			for _, v := range took {
				all[v]++
				break
			}
		}
	}
	return all
}

// TestP1305OneVerdictOverCrashes: what was answered stands, so no crash has two
// verdicts be chosen.
func TestP1305OneVerdictOverCrashes(t *testing.T) {
	chance := rand.New(rand.NewSource(131))
	once, again := 0, 0
	for range 1500 {
		f := &fleet{chance: chance, took: map[api.Ballot]map[int]api.Verdict{}}
		for range 1 + chance.Intn(5) {
			f.disks = append(f.disks, empty(t, 50000))
			f.nodes = append(f.nodes, opened(t, f.disks[len(f.disks)-1], 150))
		}
		for n := range uint64(15) {
			f.propose(t, of(1+n+uint64(chance.Intn(3)), n), api.Verdict(1+chance.Intn(3)))
		}
		all := f.chosen()
		if len(all) > 1 || t.Failed() {
			t.Fatalf("%d replicas: %v", len(f.nodes), f.took)
		}
		for _, n := range all {
			once++
			again += min(n-1, 1)
		}
	}
	if once < 1000 || again < 500 {
		t.Errorf("%d runs with a verdict, %d with it under more ballots", once, again)
	}
}

func TestExample1(t *testing.T) {
	d := empty(t, 1000)
	handles(t, opened(t, d, 64), prepare(7, of(3, 1)), api.Packet{Kind: api.Promise, Trace: 7, B: of(3, 1), Ok: true})
	d.Crash(nil)
	r := opened(t, d, 64)
	has(t, r, regs{7: promised(of(3, 1))})
	handles(t, r, prepare(7, of(2, 9)), api.Packet{Kind: api.Promise, Trace: 7, B: of(2, 9), Seen: of(3, 1)})
}

func TestTwoReplicasShareNothing(t *testing.T) {
	d, other := empty(t, 1000), empty(t, 1000)
	r, s := opened(t, d, 64), opened(t, other, 64)
	mine, theirs := regs{}, regs{}
	mine.does(t, r, prepare(1, of(3, 1)))
	theirs.does(t, s, prepare(1, of(2, 1)))
	bring(t, d)
	refuses(t, r, prepare(1, of(4, 1)), api.Down)
	theirs.does(t, s, accept(1, of(2, 1), api.Keep))
	is(t, "Compact", s.Compact(), api.OK)
	has(t, r, mine)
	has(t, s, theirs)
}
