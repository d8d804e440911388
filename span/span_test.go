package span_test

import (
	"bytes"
	"encoding/binary"
	"math"
	"slices"
	"strings"
	"testing"

	"winnow/api"
	"winnow/span"
)

// failAt is where Fail stands in a span's bytes, behind five numbers.
const failAt = 40

// good is a right span in which no two fields are alike.
func good() api.Span {
	return api.Span{
		Trace: 0x0102030405060708, Id: 0x1112131415161718, Parent: 0x2122232425262728,
		Start: 0x3132333435, Length: 0x4142434445,
		Service: "shop", Name: "/buy é", Fail: true,
	}
}

// with is the good span, changed.
func with(change func(s *api.Span)) api.Span {
	s := good()
	change(&s)
	return s
}

// spans has right spans at the edges of what is right.
func spans() []api.Span {
	longest := strings.Repeat("x", api.MaxName)
	return []api.Span{
		good(),
		with(func(s *api.Span) { s.Fail = false }),
		{Trace: 1, Id: 1, Service: "a", Name: "b"},
		{Trace: 1, Id: 1, Service: "a", Name: "b", Fail: true},
		{Trace: math.MaxUint64, Id: math.MaxUint64, Parent: math.MaxUint64, Start: api.MaxTime, Length: api.MaxTime,
			Service: longest, Name: longest, Fail: true},
		with(func(s *api.Span) { s.Parent = 0 }),
		with(func(s *api.Span) { s.Service = longest }),
		with(func(s *api.Span) { s.Name = longest }),
		with(func(s *api.Span) { s.Service, s.Name = "\ufffd", strings.Repeat("é", api.MaxName/2) }),
		with(func(s *api.Span) { s.Service, s.Name = " ", "\u00a0" }),
	}
}

// wrong is a span that is not right, and what is said of it.
type wrong struct {
	s api.Span
	k api.Kind
}

// wrongs has spans that are not right, but whose bytes can stand there.
func wrongs() []wrong {
	return []wrong{
		{with(func(s *api.Span) { s.Trace = 0 }), api.BadArg},
		{with(func(s *api.Span) { s.Id = 0 }), api.BadArg},
		{with(func(s *api.Span) { s.Trace, s.Id = 0, 0 }), api.BadArg},
		{with(func(s *api.Span) { s.Start = api.MaxTime + 1 }), api.BadArg},
		{with(func(s *api.Span) { s.Length = api.MaxTime + 1 }), api.BadArg},
		{with(func(s *api.Span) { s.Start = math.MaxUint64 }), api.BadArg},
		{with(func(s *api.Span) { s.Length = math.MaxUint64 }), api.BadArg},
		{with(func(s *api.Span) { s.Start, s.Length = math.MaxInt64+1, math.MaxInt64+1 }), api.BadArg},
		{with(func(s *api.Span) { s.Service = "\xff" }), api.BadName},
		{with(func(s *api.Span) { s.Name = "\xff" }), api.BadName},
		{with(func(s *api.Span) { s.Service, s.Name = "\n", "\n" }), api.BadName},
		{with(func(s *api.Span) { s.Trace, s.Service = 0, "\xff" }), api.BadArg},
		{with(func(s *api.Span) { s.Id, s.Name = 0, "\x7f" }), api.BadArg},
		{with(func(s *api.Span) { s.Start, s.Service = api.MaxTime+1, "\x00" }), api.BadArg},
		{with(func(s *api.Span) { s.Length, s.Name = api.MaxTime+1, "\x1f" }), api.BadArg},
	}
}

// written is the span's bytes as the chapter has them, whether it is right or
// not.
func written(s api.Span) []byte {
	var b []byte
	for _, n := range []uint64{s.Trace, s.Id, s.Parent, s.Start, s.Length} {
		b = binary.BigEndian.AppendUint64(b, n)
	}
	if s.Fail {
		b = append(b, 1)
	} else {
		b = append(b, 0)
	}
	b = append(append(b, byte(len(s.Service))), s.Service...)
	return append(append(b, byte(len(s.Name))), s.Name...)
}

func nameIs(t *testing.T, s string, want api.Kind) {
	t.Helper()
	if k := span.Name(s); k != want {
		t.Errorf("Name of %q: %d, not %d", s, k, want)
	}
}

func mustPut(t *testing.T, dst []byte, s api.Span) []byte {
	t.Helper()
	b, k := span.Put(dst, s)
	if k != api.OK {
		t.Fatalf("Put of %#v: %d, not 0", s, k)
	}
	return b
}

// cutTells holds Cut of b to that span and what is behind it.
func cutTells(t *testing.T, b []byte, want api.Span, behind []byte) {
	t.Helper()
	s, rest, k := span.Cut(b)
	if s != want || !bytes.Equal(rest, behind) || k != api.OK {
		t.Errorf("Cut of % x: %#v, % x, %d, not %#v, % x, 0", b, s, rest, k, want, behind)
	}
}

// cutFails holds Cut of b to that kind, and to nothing beside it.
func cutFails(t *testing.T, what string, b []byte, want api.Kind) {
	t.Helper()
	s, rest, k := span.Cut(b)
	if s != (api.Span{}) || len(rest) != 0 || k != want {
		t.Errorf("Cut of %s, % x: %#v, %d behind, kind %d, not the zero span, 0, %d", what, b, s, len(rest), k, want)
	}
}

func TestP301NameByItsLength(t *testing.T) {
	nameIs(t, "", api.BadName)
	for n := 1; n <= api.MaxName; n++ {
		nameIs(t, strings.Repeat("a", n), api.OK)
	}
	nameIs(t, strings.Repeat("a", api.MaxName+1), api.BadName)
	nameIs(t, strings.Repeat("a", 256), api.BadName)
	nameIs(t, strings.Repeat("a", 257), api.BadName)
	nameIs(t, strings.Repeat("a", 1<<16), api.BadName)
	// Bytes count, not runes.
	nameIs(t, strings.Repeat("é", api.MaxName/2), api.OK)
	nameIs(t, strings.Repeat("é", api.MaxName/2)+"a", api.BadName)
	nameIs(t, strings.Repeat("\U0010ffff", api.MaxName/4), api.OK)
	nameIs(t, strings.Repeat("\U0010ffff", api.MaxName/4)+"a", api.BadName)
}

// everywhere has the text alone, and ahead of, between and behind others.
func everywhere(text string) []string {
	return []string{text, text + "a", "a" + text, "é" + text + "é", text + text}
}

func TestP301NameByItsRunes(t *testing.T) {
	for r := range rune(0x110000) {
		if r >= 0xd800 && r <= 0xdfff {
			continue // no rune has right bytes here
		}
		want := api.OK
		if r < 0x20 || r >= 0x7f && r <= 0x9f {
			want = api.BadName
		}
		nameIs(t, string(r), want)
	}
	for _, r := range []rune{0, 9, 10, 0x1f, 0x7f, 0x80, 0x85, 0x9e, 0x9f} {
		for _, s := range everywhere(string(r)) {
			nameIs(t, s, api.BadName)
		}
	}
	for _, r := range []rune{0x20, 0x21, 0x7e, 0xa0, 0xa1, 'é', 0xd7ff, 0xe000, 0xfffc, 0xfffd, 0xfffe, 0xffff, 0x10000, 0x10ffff} {
		for _, s := range everywhere(string(r)) {
			nameIs(t, s, api.OK)
		}
	}
}

func TestP301NameOfBytesThatAreNotRight(t *testing.T) {
	for c := 0x80; c <= 0xff; c++ {
		for _, s := range everywhere(string([]byte{byte(c)})) {
			nameIs(t, s, api.BadName)
		}
	}
	for _, s := range []string{
		"\xef\xbf",                 // the rune fffd, cut off
		"\xef\xbf\xbd\xef\xbf",     // and behind itself
		"\xef\xef\xbf\xbd",         // a byte that is not right ahead of it
		"\xff\xef\xbf\xbd",         //
		"\xef\xbf\xbd\xbd",         // one more behind it
		"\xc3",                     // é, cut off
		"\xc3\xc3\xa9",             //
		"\xa9\xc3",                 // é, turned
		"\xc1\xa1", "\xe0\x81\xa1", // a, by more bytes than it needs
		"\xc0\x80",         // 0, by more bytes than it needs
		"\xed\xa0\x80",     // halves of pairs
		"\xed\xbf\xbf",     //
		"\xf4\x90\x80\x80", // above 10ffff
		"\xf0\x82\x82\xac", // by more bytes than it needs
		"\xf0\x9f\x98",     // cut off
		"\xf8\x88\x80\x80\x80", "\x80\x80\x80",
	} {
		for _, name := range everywhere(s) {
			nameIs(t, name, api.BadName)
		}
	}
}

func rightIs(t *testing.T, s api.Span, want api.Kind) {
	t.Helper()
	if k := span.Right(s); k != want {
		t.Errorf("Right of %#v: %d, not %d", s, k, want)
	}
}

func TestP301Right(t *testing.T) {
	for _, s := range spans() {
		rightIs(t, s, api.OK)
	}
	for _, c := range wrongs() {
		rightIs(t, c.s, c.k)
	}
	rightIs(t, api.Span{}, api.BadArg)
}

func TestP301RightOfNamesThatCannotStandInBytes(t *testing.T) {
	for _, name := range []string{"", strings.Repeat("x", api.MaxName+1), strings.Repeat("x", 300)} {
		rightIs(t, with(func(s *api.Span) { s.Service = name }), api.BadName)
		rightIs(t, with(func(s *api.Span) { s.Name = name }), api.BadName)
		rightIs(t, with(func(s *api.Span) { s.Id, s.Service, s.Name = 0, name, name }), api.BadArg)
	}
}

func TestP302PutOfKnownSpans(t *testing.T) {
	small := api.Span{Trace: 1, Id: 2, Parent: 3, Start: 4, Length: 5, Service: "é", Name: "b"}
	want := []byte{
		0, 0, 0, 0, 0, 0, 0, 1,
		0, 0, 0, 0, 0, 0, 0, 2,
		0, 0, 0, 0, 0, 0, 0, 3,
		0, 0, 0, 0, 0, 0, 0, 4,
		0, 0, 0, 0, 0, 0, 0, 5,
		0,
		2, 0xc3, 0xa9,
		1, 'b',
	}
	if got := mustPut(t, nil, small); !bytes.Equal(got, want) {
		t.Errorf("Put of %#v: % x, not % x", small, got, want)
	}
	want = []byte{
		1, 2, 3, 4, 5, 6, 7, 8,
		0x11, 0x12, 0x13, 0x14, 0x15, 0x16, 0x17, 0x18,
		0x21, 0x22, 0x23, 0x24, 0x25, 0x26, 0x27, 0x28,
		0, 0, 0, 0x31, 0x32, 0x33, 0x34, 0x35,
		0, 0, 0, 0x41, 0x42, 0x43, 0x44, 0x45,
		1,
		4, 's', 'h', 'o', 'p',
		7, '/', 'b', 'u', 'y', ' ', 0xc3, 0xa9,
	}
	if got := mustPut(t, nil, good()); !bytes.Equal(got, want) {
		t.Errorf("Put of the good span: % x, not % x", got, want)
	}
}

func TestP302PutBehindWhatIsThere(t *testing.T) {
	for _, dst := range [][]byte{nil, {}, {7}, []byte("no span at all"), written(good()), make([]byte, 5000)} {
		for _, s := range spans() {
			want := slices.Concat(dst, written(s))
			if got := mustPut(t, dst, s); !bytes.Equal(got, want) {
				t.Errorf("Put of %#v behind %d bytes: not dst and the span's", s, len(dst))
			}
		}
	}
}

func TestP302PutOfWrongSpans(t *testing.T) {
	l := wrongs()
	for _, name := range []string{"", strings.Repeat("x", api.MaxName+1), strings.Repeat("x", 300)} {
		l = append(l, wrong{with(func(s *api.Span) { s.Service = name }), api.BadName})
		l = append(l, wrong{with(func(s *api.Span) { s.Name = name }), api.BadName})
	}
	for _, c := range l {
		for _, dst := range [][]byte{nil, []byte("dst")} {
			if got, k := span.Put(dst, c.s); len(got) != 0 || k != c.k {
				t.Errorf("Put of %#v: % x, %d, not nothing, %d", c.s, got, k, c.k)
			}
		}
	}
}

func TestP302PutLeavesItsArguments(t *testing.T) {
	for _, s := range append(spans(), wrongs()[0].s) {
		room := bytes.Repeat([]byte{5, 6, 7}, 100)
		was := bytes.Clone(room)
		got, _ := span.Put(room[:9], s)
		if !bytes.Equal(room, was) {
			t.Fatalf("Put of %#v changed what was handed in, or its spare room", s)
		}
		for i := range got[:cap(got)] {
			got[:cap(got)][i] ^= 255
		}
		if !bytes.Equal(room, was) {
			t.Fatalf("Put of %#v answered no new memory", s)
		}
	}
}

func TestP302PutKeepsNothing(t *testing.T) {
	dst := []byte("dst")
	got := mustPut(t, dst, good())
	want := bytes.Clone(got)
	clear(dst)
	other := mustPut(t, nil, good())
	clear(other[:cap(other)])
	if !bytes.Equal(got, want) {
		t.Error("what Put answered changed with what had been handed in or out")
	}
}

func TestP303CutOfOneSpan(t *testing.T) {
	for _, s := range spans() {
		for _, behind := range [][]byte{nil, {0}, {255}, []byte("behind"), written(good()), make([]byte, 5000)} {
			cutTells(t, slices.Concat(written(s), behind), s, behind)
		}
	}
}

func TestP303CutOfASpanCutOff(t *testing.T) {
	for _, s := range spans() {
		b := written(s)
		for i := range b {
			cutFails(t, "a span cut off", b[:i], api.Short)
		}
	}
	cutFails(t, "nil", nil, api.Short)
}

// fromHereOn holds Cut to BadForm of b as soon as its byte at that place is
// there, and to Short ahead of that.
func fromHereOn(t *testing.T, what string, b []byte, at int) {
	t.Helper()
	for i := range len(b) + 1 {
		want := api.Short
		if i > at {
			want = api.BadForm
		}
		cutFails(t, what, b[:i], want)
	}
}

func TestP303CutOfAByteThatIsNoTruth(t *testing.T) {
	for _, s := range []api.Span{good(), {Trace: 1, Id: 1, Service: "a", Name: "b"}} {
		b := written(s)
		for c := 2; c < 256; c++ {
			b[failAt] = byte(c)
			fromHereOn(t, "a byte that is neither 1 nor 0", b, failAt)
		}
	}
}

func TestP303CutOfALengthThatIsNoNames(t *testing.T) {
	for _, n := range []byte{0, api.MaxName + 1, api.MaxName + 2, 0x7f, 0x80, 0xff} {
		for _, name := range []int{failAt + 1, failAt + 1 + 1 + len(good().Service)} {
			b := append(written(good()), make([]byte, 300)...)
			b[name] = n
			fromHereOn(t, "a name's length", b, name)
		}
	}
}

func TestP303CutOfTheLongestNames(t *testing.T) {
	head := written(good())[:failAt+1]
	long := append([]byte{api.MaxName}, strings.Repeat("x", api.MaxName)...)
	for i := range long {
		cutFails(t, "a first name cut off", slices.Concat(head, long[:i]), api.Short)
		cutFails(t, "a second name cut off", slices.Concat(head, long, long[:i]), api.Short)
	}
	name := string(long[1:])
	want := with(func(s *api.Span) { s.Service, s.Name = name, name })
	cutTells(t, slices.Concat(head, long, long), want, nil)
	cutTells(t, slices.Concat(head, long, long, long), want, long)
}

func TestP303CutOfWrongSpans(t *testing.T) {
	for _, c := range wrongs() {
		b := written(c.s)
		for i := range b {
			cutFails(t, "a wrong span cut off", b[:i], api.Short)
		}
		cutFails(t, "a wrong span", b, c.k)
		cutFails(t, "a wrong span, and a right one", append(b, written(good())...), c.k)
	}
}

func TestP303CutAsksTheFormFirst(t *testing.T) {
	b := written(with(func(s *api.Span) { s.Trace = 0 }))
	b[failAt] = 2
	fromHereOn(t, "Trace 0 and no truth", b, failAt)

	b = written(with(func(s *api.Span) { s.Start, s.Service = math.MaxUint64, "\xff" }))
	second := len(b) - 1 - len(good().Name)
	b[second] = 0
	fromHereOn(t, "a first name that is none and a second length of 0", b, second)

	b[failAt] = 255
	fromHereOn(t, "all of these", b, failAt)
}

// mine turns every byte of a list, spare room too, and tells if others are
// turned with it.
func mine(t *testing.T, list []byte, others ...[]byte) {
	t.Helper()
	was := slices.Concat(others...)
	for i := range list[:cap(list)] {
		list[:cap(list)][i] ^= 255
	}
	if !bytes.Equal(slices.Concat(others...), was) {
		t.Error("what was handed out is no memory of its own")
	}
}

func TestP303CutAnswersNewMemory(t *testing.T) {
	for _, want := range spans() {
		for _, behind := range []int{0, 1, 30} {
			size := len(written(want)) + behind
			room := append(written(want), bytes.Repeat([]byte{9}, 100)...)
			was := bytes.Clone(room)
			s, rest, _ := span.Cut(room[:size])
			_, again, _ := span.Cut(room[:size])
			if !bytes.Equal(room, was) {
				t.Fatal("Cut changed what was handed in, or its spare room")
			}
			mine(t, rest, room, again)
			clear(room)
			if s != want || !bytes.Equal(again, was[len(written(want)):size]) {
				t.Error("what Cut answered changed with what had been handed in")
			}
		}
	}
}

func TestP304Less(t *testing.T) {
	at := func(start, id uint64) api.Span {
		return with(func(s *api.Span) { s.Start, s.Id = start, id })
	}
	rising := []api.Span{at(0, 0), at(0, 1), at(0, math.MaxUint64), at(1, 0), at(1, 2), at(2, 1),
		at(math.MaxInt64, 5), at(math.MaxInt64+1, 4), at(math.MaxUint64, 0), at(math.MaxUint64, math.MaxInt64),
		at(math.MaxUint64, math.MaxInt64+1), at(math.MaxUint64, math.MaxUint64)}
	for i, a := range rising {
		for j, b := range rising {
			if got := span.Less(a, b); got != (i < j) {
				t.Errorf("Less of (%d, %d) and (%d, %d): %t", a.Start, a.Id, b.Start, b.Id, got)
			}
		}
	}
}

// others has the good span with another one of those fields that Less does not
// ask: a greater, and a smaller one, of each.
func others() []api.Span {
	return []api.Span{
		with(func(s *api.Span) { s.Trace++ }), with(func(s *api.Span) { s.Trace = 0 }),
		with(func(s *api.Span) { s.Parent++ }), with(func(s *api.Span) { s.Parent = 0 }),
		with(func(s *api.Span) { s.Length++ }), with(func(s *api.Span) { s.Length = 0 }),
		with(func(s *api.Span) { s.Service += "z" }), with(func(s *api.Span) { s.Service = "" }),
		with(func(s *api.Span) { s.Name += "z" }), with(func(s *api.Span) { s.Name = "" }),
		with(func(s *api.Span) { s.Fail = false }),
	}
}

func TestP304LessAsksNothingElse(t *testing.T) {
	for _, s := range append(others(), good()) {
		if span.Less(s, good()) || span.Less(good(), s) {
			t.Errorf("Less of %#v and the good span: not alike", s)
		}
	}
}

// sorted is l by the chapter's words, one span after another put in ahead of
// the first one that comes behind it.
func sorted(l []api.Span) []api.Span {
	var done []api.Span
	for _, s := range l {
		at := len(done)
		for at > 0 && (done[at-1].Start > s.Start || done[at-1].Start == s.Start && done[at-1].Id > s.Id) {
			at--
		}
		done = slices.Insert(done, at, s)
	}
	return done
}

func TestP304Sort(t *testing.T) {
	if got := span.Sort(nil); len(got) != 0 {
		t.Errorf("Sort of nil: %v", got)
	}
	if got := span.Sort([]api.Span{}); len(got) != 0 {
		t.Errorf("Sort of no span: %v", got)
	}
	seed := uint32(1)
	next := func(below uint32) uint64 {
		seed = seed*1664525 + 1013904223
		return uint64((seed >> 16) % below)
	}
	for _, n := range []int{1, 2, 3, 5, 12, 13, 16, 50, 300} {
		for _, below := range []uint32{1, 2, 5, 1000} {
			var l []api.Span
			for i := range n {
				// Parent tells which one it was, those alike in both also.
				l = append(l, api.Span{Trace: next(3), Start: next(below), Id: next(below), Parent: uint64(i)})
			}
			was := slices.Clone(l)
			got := span.Sort(l)
			if !slices.Equal(got, sorted(was)) {
				t.Errorf("Sort of %d spans below %d: not in their order", n, below)
			}
			if !slices.Equal(l, was) {
				t.Fatal("Sort changed what was handed in")
			}
			if !slices.Equal(span.Sort(got), got) {
				t.Error("Sort of a sorted list: another one")
			}
		}
	}
}

func TestP304SortOfTheRangesEnds(t *testing.T) {
	l := []api.Span{
		{Start: math.MaxUint64, Id: 1}, {Start: math.MaxUint64}, {Start: math.MaxInt64 + 1, Id: 7},
		{Start: math.MaxInt64, Id: math.MaxUint64}, {Start: math.MaxInt64, Id: math.MaxInt64}, {Start: 1}, {}, {Id: math.MaxUint64},
	}
	if got, want := span.Sort(l), sorted(l); !slices.Equal(got, want) {
		t.Errorf("Sort: %v, not %v", got, want)
	}
}

func TestP304SortLeavesThoseAlikeAsTheyStood(t *testing.T) {
	l := append(others(), good())
	l = append(l, l...)
	if got := span.Sort(l); !slices.Equal(got, l) {
		t.Errorf("Sort of spans that are alike: %v, not %v", got, l)
	}
}

func TestP304SortAnswersNewMemory(t *testing.T) {
	for _, n := range []int{1, 2, 16} {
		room := slices.Repeat([]api.Span{good()}, 40)
		was := slices.Clone(room)
		got := span.Sort(room[:n])
		if len(got) != n {
			t.Fatalf("Sort of %d spans: %d", n, len(got))
		}
		clear(got[:cap(got)])
		if !slices.Equal(room, was) {
			t.Errorf("Sort of %d spans answered no new memory", n)
		}
		got = span.Sort(room[:n])
		clear(room)
		if !slices.Equal(got, was[:n]) {
			t.Errorf("what Sort of %d spans answered changed with what had been handed in", n)
		}
	}
}

func TestP304Same(t *testing.T) {
	for _, s := range append(spans(), api.Span{}) {
		again := s
		again.Service, again.Name = strings.Clone(s.Service), strings.Clone(s.Name)
		if !span.Same(s, again) {
			t.Errorf("Same of %#v and itself: false", s)
		}
	}
	l := append(others(), with(func(s *api.Span) { s.Id++ }), with(func(s *api.Span) { s.Start++ }),
		with(func(s *api.Span) { s.Service, s.Name = s.Name, s.Service }), api.Span{})
	for _, s := range l {
		if span.Same(s, good()) || span.Same(good(), s) {
			t.Errorf("Same of %#v and the good span: true", s)
		}
	}
}

func TestP305WhatWasPutIsCut(t *testing.T) {
	for _, s := range spans() {
		b := mustPut(t, nil, s)
		cutTells(t, b, s, nil)
		cutTells(t, append(b, "behind"...), s, []byte("behind"))
		for i := range b {
			cutFails(t, "what was put, cut off", b[:i], api.Short)
		}
	}
}

func TestP305AListThatWasPutIsCut(t *testing.T) {
	var b []byte
	for _, s := range spans() {
		b = mustPut(t, b, s)
	}
	for _, want := range spans() {
		s, rest, k := span.Cut(b)
		if !span.Same(s, want) || k != api.OK {
			t.Fatalf("Cut of a list: %#v, %d, not %#v", s, k, want)
		}
		b = rest
	}
	if len(b) != 0 {
		t.Errorf("behind a list: % x", b)
	}
}

func TestP305WhatIsCutIsPutAsItWas(t *testing.T) {
	seen := 0
	for _, s := range spans() {
		right := append(written(s), 1, 2, 3)
		for at := range right {
			for c := range 256 {
				b := bytes.Clone(right)
				b[at] = byte(c)
				s, rest, k := span.Cut(b)
				if k != api.OK {
					continue
				}
				seen++
				if again := append(mustPut(t, nil, s), rest...); !bytes.Equal(again, b) {
					t.Errorf("Cut of % x: put again it is % x", b, again)
				}
			}
		}
	}
	if seen < 10000 {
		t.Errorf("only %d spans were cut", seen)
	}
}
