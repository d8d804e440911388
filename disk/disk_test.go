package disk_test

import (
	"bytes"
	"math"
	"math/rand"
	"slices"
	"testing"

	"winnow/api"
	"winnow/disk"
)

// empty is a new disk of that room.
func empty(t *testing.T, room int) *disk.Disk {
	t.Helper()
	d, k := disk.New(room)
	if d == nil || k != api.OK {
		t.Fatalf("New of %d: %v %d, not a disk and 0", room, d, k)
	}
	return d
}

// downed is a disk of room 9 that is down: file 2 has `ab`, fast, and `cd`, loose.
func downed(t *testing.T) *disk.Disk {
	t.Helper()
	d := empty(t, 9)
	answers(t, "Append", d.Append(2, []byte("ab")), api.OK)
	answers(t, "Sync", d.Sync(2), api.OK)
	d.Arm(2)
	answers(t, "Append beyond", d.Append(2, []byte("cde")), api.Down)
	return d
}

// answers holds a kind to the one that should be.
func answers(t *testing.T, what string, got, want api.Kind) {
	t.Helper()
	if got != want {
		t.Errorf("%s: %d, not %d", what, got, want)
	}
}

// reads holds what the file has to that text.
func reads(t *testing.T, d *disk.Disk, file int, want string) {
	t.Helper()
	if b, k := d.Read(file); string(b) != want || k != api.OK {
		t.Errorf("Read of %d: %q %d, not %q 0", file, b, k, want)
	}
}

// readFails holds Read of the file to that kind, and nothing beside it.
func readFails(t *testing.T, d *disk.Disk, file int, want api.Kind) {
	t.Helper()
	if b, k := d.Read(file); len(b) != 0 || k != want {
		t.Errorf("Read of %d: %q %d, not nothing and %d", file, b, k, want)
	}
}

// stands holds what can be asked of d, down or not, to what should be.
func stands(t *testing.T, d *disk.Disk, files []int, used int, down bool) {
	t.Helper()
	if l := d.Files(); !slices.Equal(l, files) {
		t.Errorf("Files: %v, not %v", l, files)
	}
	if n := d.Used(); n != used {
		t.Errorf("Used: %d, not %d", n, used)
	}
	if is := d.Down(); is != down {
		t.Errorf("Down: %t, not %t", is, down)
	}
}

// laid is an empty disk on which the calls were made that the text tells, a
// letter each: a lower one is appended to file 1, an upper one to file 2, and
// '1', '2' sync these.
func laid(t *testing.T, calls string) *disk.Disk {
	t.Helper()
	d := empty(t, 100)
	for _, c := range []byte(calls) {
		switch {
		case c == '1' || c == '2':
			answers(t, "Sync", d.Sync(int(c-'0')), api.OK)
		case c >= 'a':
			answers(t, "Append", d.Append(1, []byte{c}), api.OK)
		default:
			answers(t, "Append", d.Append(2, []byte{c}), api.OK)
		}
	}
	return d
}

func TestP601New(t *testing.T) {
	for _, room := range []int{1, 2, 4096, api.MaxFile - 1, api.MaxFile} {
		d := empty(t, room)
		stands(t, d, nil, 0, false)
		answers(t, "Append of all", d.Append(0, make([]byte, room)), api.OK)
		answers(t, "Append of one more", d.Append(0, make([]byte, 1)), api.Full)
		stands(t, d, []int{0}, room, false)
	}
	for _, room := range []int{0, -1, api.MaxFile + 1, math.MinInt, math.MaxInt} {
		if d, k := disk.New(room); d != nil || k != api.BadArg {
			t.Errorf("New of %d: %v %d, not nil and 1", room, d, k)
		}
	}
}

func TestP601TwoDisksShareNothing(t *testing.T) {
	one, other := empty(t, 9), empty(t, 9)
	answers(t, "Append", one.Append(1, []byte("ab")), api.OK)
	one.Arm(0)
	answers(t, "Append beyond", one.Append(1, []byte("c")), api.Down)
	stands(t, other, nil, 0, false)
	answers(t, "Append to the other", other.Append(1, []byte("xyz")), api.OK)
	reads(t, other, 1, "xyz")
	stands(t, one, []int{1}, 2, true)
}

func TestP602AppendComesBehind(t *testing.T) {
	d := empty(t, 100)
	answers(t, "Append", d.Append(5, []byte("ab")), api.OK)
	answers(t, "Append", d.Append(0, []byte("x")), api.OK)
	answers(t, "Append", d.Append(api.MaxFiles-1, []byte("yz")), api.OK)
	answers(t, "Append", d.Append(5, []byte("cde")), api.OK)
	reads(t, d, 5, "abcde")
	reads(t, d, 0, "x")
	reads(t, d, api.MaxFiles-1, "yz")
	stands(t, d, []int{0, 5, api.MaxFiles - 1}, 8, false)
	d.Crash(nil)
	stands(t, d, []int{0, 5, api.MaxFiles - 1}, 0, false) // all was loose; the files stay
}

func TestP602AppendOfNoSuchNumber(t *testing.T) {
	d := empty(t, 2)
	for _, file := range []int{-1, api.MaxFiles, math.MinInt, math.MaxInt} {
		for _, b := range []string{"", "a", "more than the room"} {
			answers(t, "Append", d.Append(file, []byte(b)), api.BadArg)
		}
	}
	d.Arm(0)
	answers(t, "Append beyond, of no number", d.Append(-1, []byte("a")), api.BadArg)
	stands(t, d, nil, 0, false)
}

func TestP602AppendOfNoBytes(t *testing.T) {
	d := empty(t, 1)
	answers(t, "Append of nil", d.Append(7, nil), api.OK)
	stands(t, d, []int{7}, 0, false)
	reads(t, d, 7, "")
	answers(t, "Append", d.Append(7, []byte("a")), api.OK)
	answers(t, "Append of nothing to a full one", d.Append(3, []byte{}), api.OK)
	stands(t, d, []int{3, 7}, 1, false)
	d.Crash(nil)
	stands(t, d, []int{3, 7}, 0, false)
}

func TestP602AppendFull(t *testing.T) {
	d := empty(t, 5)
	answers(t, "Append", d.Append(1, []byte("ab")), api.OK)
	answers(t, "Append", d.Append(2, []byte("c")), api.OK)
	answers(t, "Append of too much", d.Append(1, []byte("def")), api.Full)
	answers(t, "Append of too much to a new one", d.Append(3, []byte("def")), api.Full)
	stands(t, d, []int{1, 2}, 3, false)
	reads(t, d, 1, "ab")
	answers(t, "Append of just the room", d.Append(3, []byte("de")), api.OK)
	stands(t, d, []int{1, 2, 3}, 5, false)
	answers(t, "Append to a full one", d.Append(1, []byte("f")), api.Full)
	// Room comes back with what goes: by Remove, Cut, Crash.
	answers(t, "Remove", d.Remove(2), api.OK)
	answers(t, "Append", d.Append(4, []byte("g")), api.OK)
	answers(t, "Cut", d.Cut(1, 1), api.OK)
	answers(t, "Append", d.Append(4, []byte("h")), api.OK)
	answers(t, "Append", d.Append(4, []byte("i")), api.Full)
	d.Crash(nil)
	answers(t, "Append", d.Append(4, []byte("jklm")), api.OK)
	stands(t, d, []int{1, 3, 4}, 5, false)
}

func TestP602SyncMakesFast(t *testing.T) {
	d := laid(t, "abABcd1CD")
	answers(t, "Sync of what is fast", d.Sync(1), api.OK)
	stands(t, d, []int{1, 2}, 8, false)
	d.Crash(nil)
	reads(t, d, 1, "abcd")
	reads(t, d, 2, "")
	answers(t, "Append", d.Append(2, nil), api.OK)
	answers(t, "Sync of no bytes", d.Sync(2), api.OK)
}

func TestP602P603Missing(t *testing.T) {
	d := laid(t, "a")
	for _, file := range []int{0, 2, -1, api.MaxFiles - 1, api.MaxFiles, math.MinInt, math.MaxInt} {
		answers(t, "Sync", d.Sync(file), api.Missing)
		answers(t, "Cut", d.Cut(file, 0), api.Missing)
		answers(t, "Cut of a wrong size", d.Cut(file, -1), api.Missing)
		answers(t, "Remove", d.Remove(file), api.Missing)
		readFails(t, d, file, api.Missing)
	}
	stands(t, d, []int{1}, 1, false)
}

func TestP603Cut(t *testing.T) {
	for _, calls := range []string{"abcd", "a1bcd", "abc1d", "abcd1"} {
		for size := range 5 {
			d := laid(t, calls+"AB")
			answers(t, "Cut", d.Cut(1, size), api.OK)
			reads(t, d, 1, "abcd"[:size])
			stands(t, d, []int{1, 2}, size+2, false)
			answers(t, "Append", d.Append(1, []byte("xy")), api.OK)
			reads(t, d, 1, "abcd"[:size]+"xy")
			d.Crash([]int{1, 1})
			reads(t, d, 1, "abcd"[:size]+"x") // what was cut is fast, what came behind it is loose
			reads(t, d, 2, "A")
		}
		d := laid(t, calls)
		for _, size := range []int{-1, 5, math.MinInt, math.MaxInt} {
			answers(t, "Cut", d.Cut(1, size), api.BadArg)
		}
		reads(t, d, 1, "abcd")
	}
	d := laid(t, "ab")
	answers(t, "Cut", d.Cut(1, 3), api.BadArg)
	d.Crash(nil)
	reads(t, d, 1, "") // a wrong Cut makes nothing fast
}

func TestP603Remove(t *testing.T) {
	d := laid(t, "ab1cAB2")
	answers(t, "Remove", d.Remove(1), api.OK)
	stands(t, d, []int{2}, 2, false)
	readFails(t, d, 1, api.Missing)
	answers(t, "Remove again", d.Remove(1), api.Missing)
	d.Crash([]int{9, 9})
	readFails(t, d, 1, api.Missing)
	answers(t, "Append", d.Append(1, []byte("xyz")), api.OK)
	reads(t, d, 1, "xyz")
	d.Crash(nil)
	reads(t, d, 1, "") // nothing of the one that went is fast
	reads(t, d, 2, "AB")
}

func TestP603Files(t *testing.T) {
	d := empty(t, api.MaxFiles)
	var all []int
	for i := range api.MaxFiles {
		answers(t, "Append", d.Append(i*29%api.MaxFiles, []byte("a")), api.OK)
		all = append(all, i)
	}
	stands(t, d, all, api.MaxFiles, false)
	for i := 0; i < api.MaxFiles; i += 2 {
		answers(t, "Remove", d.Remove(i), api.OK)
	}
	stands(t, d, slices.DeleteFunc(all, func(i int) bool { return i%2 == 0 }), api.MaxFiles/2, false)
}

func TestP603WhatComesInAndOutIsNotShared(t *testing.T) {
	d := empty(t, 20)
	b := append(make([]byte, 0, 8), "abspare!"...)
	answers(t, "Append", d.Append(1, b[:2]), api.OK)
	answers(t, "Append", d.Append(1, []byte("cd")), api.OK)
	if string(b) != "abspare!" {
		t.Errorf("Append changed what it was given: %q", b)
	}
	b[0] = 'X'
	reads(t, d, 1, "abcd")
	out, _ := d.Read(1)
	out = append(out, "behind"...)
	out[0] = 'Y'
	reads(t, d, 1, "abcd")
	answers(t, "Cut", d.Cut(1, 3), api.OK)
	out, _ = d.Read(1)
	answers(t, "Append", d.Append(1, []byte("e")), api.OK)
	if all := out[:cap(out)]; string(out) != "abc" || bytes.ContainsRune(all, 'e') {
		t.Errorf("Append changed what was read: %q", all)
	}
	files := append(d.Files(), 5)
	files[0] = 9
	stands(t, d, []int{1}, 4, false)
	keep := []int{1, -1, 7}
	d.Crash(keep)
	if !slices.Equal(keep, []int{1, -1, 7}) {
		t.Errorf("Crash changed what it was given: %v", keep)
	}
	reads(t, d, 1, "abce")
}

func TestP604ArmLetsSoManyBytes(t *testing.T) {
	for can := range 6 {
		d := laid(t, "ab1")
		d.Arm(can)
		for i := range can {
			answers(t, "Append", d.Append(1+i%2, []byte{"vwxyz"[i]}), api.OK)
		}
		answers(t, "Append of nothing", d.Append(3, nil), api.OK)
		stands(t, d, d.Files(), 2+can, false)
		answers(t, "Append beyond", d.Append(4, []byte("!")), api.Down)
		readFails(t, d, 4, api.Down)
		if files := d.Files(); !slices.Contains(files, 4) {
			t.Errorf("Files: %v, without 4", files)
		}
		stands(t, d, d.Files(), 2+can, true)
	}
}

func TestP604WhatGoesBeyondIsCutOff(t *testing.T) {
	for can := range 4 {
		d := laid(t, "ab1")
		d.Arm(can)
		answers(t, "Append beyond", d.Append(1, []byte("cdef")), api.Down)
		stands(t, d, []int{1}, 2+can, true)
		d.Crash([]int{9})
		reads(t, d, 1, "abcdef"[:2+can])
		d = laid(t, "ab1")
		d.Arm(can)
		answers(t, "Append beyond to a new one", d.Append(2, []byte("cdef")), api.Down)
		stands(t, d, []int{1, 2}, 2+can, true)
		d.Crash([]int{9, 9})
		reads(t, d, 1, "ab")
		reads(t, d, 2, "cdef"[:can])
		d = laid(t, "ab1")
		d.Arm(can)
		answers(t, "Append beyond", d.Append(1, []byte("cdef")), api.Down)
		d.Crash(nil)
		reads(t, d, 1, "ab") // what came of it was loose
	}
	d := laid(t, "ab")
	d.Arm(4)
	answers(t, "Append of just as many", d.Append(1, []byte("cdef")), api.OK)
	stands(t, d, []int{1}, 6, false)
}

func TestP604ArmAgain(t *testing.T) {
	d := empty(t, 1000)
	d.Arm(1)
	d.Arm(3)
	answers(t, "Append", d.Append(1, []byte("abc")), api.OK)
	d.Arm(2) // from now on, whatever was appended ahead
	answers(t, "Append", d.Append(1, []byte("de")), api.OK)
	for _, any := range []int{-1, -2, math.MinInt} {
		d.Arm(0)
		d.Arm(any)
		answers(t, "Append", d.Append(1, make([]byte, 100)), api.OK)
	}
	d.Arm(math.MaxInt)
	answers(t, "Append", d.Append(1, make([]byte, 100)), api.OK)
	d.Arm(1)
	d.Crash(nil)
	answers(t, "Append to one that is armed with nothing", d.Append(1, make([]byte, 100)), api.OK)
	stands(t, d, []int{1}, 100, false)
}

func TestP604FullTakesNothingOfWhatItIsArmedWith(t *testing.T) {
	d := empty(t, 4)
	d.Arm(2)
	answers(t, "Append of too much", d.Append(1, []byte("abcde")), api.Full)
	stands(t, d, nil, 0, false)
	answers(t, "Append", d.Append(1, []byte("ab")), api.OK)
	answers(t, "Append of too much", d.Append(1, []byte("cde")), api.Full)
	answers(t, "Append beyond", d.Append(1, []byte("cd")), api.Down)
	stands(t, d, []int{1}, 2, true)
}

func TestP604CrashKeepsOfWhatIsLoose(t *testing.T) {
	for _, c := range []struct {
		keep     []int
		one, two string
	}{
		{nil, "ab", ""},
		{[]int{}, "ab", ""},
		{[]int{0, 0}, "ab", ""},
		{[]int{-1, math.MinInt}, "ab", ""},
		{[]int{1}, "abc", ""},
		{[]int{0, 1}, "ab", "A"},
		{[]int{2, 1}, "abcd", "A"},
		{[]int{3, 2}, "abcde", "AB"},
		{[]int{4, 3}, "abcde", "AB"},
		{[]int{math.MaxInt, math.MaxInt}, "abcde", "AB"},
		{[]int{-5, 2, 7, 7}, "ab", "AB"},
	} {
		d := laid(t, "ab1AcBde")
		d.Crash(c.keep)
		reads(t, d, 1, c.one)
		reads(t, d, 2, c.two)
		stands(t, d, []int{1, 2}, len(c.one)+len(c.two), false)
		d.Crash(nil)
		reads(t, d, 1, c.one) // what stayed is fast
		reads(t, d, 2, c.two)
	}
}

func TestP604CrashCountsTheFilesThatAreThere(t *testing.T) {
	d := empty(t, 100)
	for _, file := range []int{40, 3, 17, 0} {
		answers(t, "Append", d.Append(file, []byte("abcdef")), api.OK)
	}
	answers(t, "Remove", d.Remove(3), api.OK)
	d.Crash([]int{1, 2, 3})
	reads(t, d, 0, "a")
	reads(t, d, 17, "ab")
	reads(t, d, 40, "abc")
}

func TestP604ADiskThatIsDown(t *testing.T) {
	d := downed(t)
	for range 2 {
		for _, file := range []int{2, 3, -1, api.MaxFiles} {
			for _, b := range []string{"", "x", "more than the room"} {
				answers(t, "Append", d.Append(file, []byte(b)), api.Down)
			}
			answers(t, "Sync", d.Sync(file), api.Down)
			answers(t, "Cut", d.Cut(file, 1), api.Down)
			answers(t, "Cut of a wrong size", d.Cut(file, -1), api.Down)
			answers(t, "Remove", d.Remove(file), api.Down)
			readFails(t, d, file, api.Down)
		}
		stands(t, d, []int{2}, 4, true)
		d.Arm(-1) // brings none up
		stands(t, d, []int{2}, 4, true)
	}
	d.Arm(0)
	d.Crash([]int{1})
	stands(t, d, []int{2}, 3, false)
	reads(t, d, 2, "abc")
	answers(t, "Append", d.Append(2, []byte("xyz")), api.OK)
	answers(t, "Sync", d.Sync(2), api.OK)
	answers(t, "Cut", d.Cut(2, 5), api.OK)
	reads(t, d, 2, "abcxy")
}

func TestP601ToP604OfNil(t *testing.T) {
	var d *disk.Disk
	for _, n := range []int{0, -1, 1, api.MaxFiles, math.MaxInt, math.MinInt} {
		answers(t, "Append", d.Append(n, []byte("a")), api.Nil)
		answers(t, "Sync", d.Sync(n), api.Nil)
		answers(t, "Cut", d.Cut(n, n), api.Nil)
		answers(t, "Remove", d.Remove(n), api.Nil)
		readFails(t, d, n, api.Nil)
		d.Arm(n)
		d.Crash([]int{n})
		stands(t, d, nil, 0, false)
	}
}

func TestP602ADiskThatNewDidNotMake(t *testing.T) {
	d := &disk.Disk{}
	stands(t, d, nil, 0, false)
	answers(t, "Append", d.Append(0, []byte("a")), api.Full)
	answers(t, "Append of nothing", d.Append(0, nil), api.OK)
	answers(t, "Remove", d.Remove(1), api.Missing)
	d.Crash([]int{1})
	stands(t, d, []int{0}, 0, false)
}

func TestExample1(t *testing.T) {
	d := laid(t, "ab1cd")
	d.Crash([]int{1})
	reads(t, d, 1, "abc")
}

// model is a disk as the chapter tells it, in another way: each file's fast
// and loose bytes stand apart, by its number.
type model struct {
	there       [api.MaxFiles]bool
	fast, loose [api.MaxFiles]string
	room, can   int // can is how many bytes it is armed with, -1 without
	down        bool
}

func (m *model) used() int {
	n := 0
	for i := range m.there {
		n += len(m.fast[i]) + len(m.loose[i])
	}
	return n
}

func (m *model) files() []int {
	var l []int
	for i, is := range m.there {
		if is {
			l = append(l, i)
		}
	}
	return l
}

// fails is the kind that every call but Append begins with.
func (m *model) fails(file int) api.Kind {
	if m.down {
		return api.Down
	}
	if file < 0 || file >= api.MaxFiles || !m.there[file] {
		return api.Missing
	}
	return api.OK
}

func (m *model) append(file int, b string) api.Kind {
	if m.down {
		return api.Down
	}
	if file < 0 || file >= api.MaxFiles {
		return api.BadArg
	}
	if m.used()+len(b) > m.room {
		return api.Full
	}
	m.there[file] = true
	if m.can >= 0 && len(b) > m.can {
		m.loose[file] += b[:m.can]
		m.down = true
		return api.Down
	}
	m.loose[file] += b
	if m.can >= 0 {
		m.can -= len(b)
	}
	return api.OK
}

func (m *model) sync(file int) api.Kind {
	if k := m.fails(file); k != api.OK {
		return k
	}
	m.fast[file], m.loose[file] = m.fast[file]+m.loose[file], ""
	return api.OK
}

func (m *model) cut(file, size int) api.Kind {
	if k := m.fails(file); k != api.OK {
		return k
	}
	all := m.fast[file] + m.loose[file]
	if size < 0 || size > len(all) {
		return api.BadArg
	}
	m.fast[file], m.loose[file] = all[:size], ""
	return api.OK
}

func (m *model) remove(file int) api.Kind {
	if k := m.fails(file); k != api.OK {
		return k
	}
	m.there[file], m.fast[file], m.loose[file] = false, "", ""
	return api.OK
}

func (m *model) crash(keep []int) {
	for i, file := range m.files() {
		if i < len(keep) && keep[i] > 0 {
			m.fast[file] += m.loose[file][:min(keep[i], len(m.loose[file]))]
		}
		m.loose[file] = ""
	}
	m.can, m.down = -1, false
}

// agree holds all that can be asked of d to the model.
func agree(t *testing.T, d *disk.Disk, m *model) {
	t.Helper()
	stands(t, d, m.files(), m.used(), m.down)
	for file := range api.MaxFiles {
		if k := m.fails(file); k != api.OK {
			readFails(t, d, file, k)
		} else {
			reads(t, d, file, m.fast[file]+m.loose[file])
		}
	}
}

func TestP605LawsOverManyCalls(t *testing.T) {
	chance := rand.New(rand.NewSource(6))
	some := func(most int) int { return chance.Intn(most+2) - 1 }
	for _, room := range []int{1, 10, 40, 400} {
		d := empty(t, room)
		m := &model{room: room, can: -1}
		for range 4000 {
			file := some(4)
			if chance.Intn(20) == 0 {
				file = some(api.MaxFiles)
			}
			switch call := chance.Intn(20); {
			case call < 10:
				b := make([]byte, chance.Intn(12))
				chance.Read(b)
				answers(t, "Append", d.Append(file, b), m.append(file, string(b)))
			case call < 13:
				answers(t, "Sync", d.Sync(file), m.sync(file))
			case call < 15:
				size := some(30)
				answers(t, "Cut", d.Cut(file, size), m.cut(file, size))
			case call < 16:
				answers(t, "Remove", d.Remove(file), m.remove(file))
			case call < 17:
				bytes := some(30)
				d.Arm(bytes)
				m.can = bytes
			case call < 18:
				keep := make([]int, chance.Intn(5))
				for i := range keep {
					keep[i] = some(12)
				}
				d.Crash(keep)
				m.crash(keep)
			}
			agree(t, d, m)
			if t.Failed() {
				return
			}
		}
	}
}

func TestP605WhatIsFastStays(t *testing.T) {
	for can := range 12 {
		for keep := -1; keep < 6; keep++ {
			d := laid(t, "ab1")
			d.Arm(can)
			d.Append(1, []byte("cde"))
			d.Append(2, []byte("xy"))
			if d.Sync(2) == api.OK {
				d.Append(1, []byte("fghi"))
			}
			d.Append(2, []byte("z"))
			d.Crash([]int{keep, keep})
			b, k := d.Read(1)
			if k != api.OK || !bytes.HasPrefix(b, []byte("ab")) || !bytes.HasPrefix([]byte("abcdefghi"), b) {
				t.Errorf("armed with %d, %d kept: %q %d, not a beginning of what was appended, with what was synced", can, keep, b, k)
			}
			if c, k := d.Read(2); can >= 5 && (k != api.OK || !bytes.HasPrefix(c, []byte("xy"))) {
				t.Errorf("armed with %d, %d kept: %q %d, without what was synced", can, keep, c, k)
			}
		}
	}
}
