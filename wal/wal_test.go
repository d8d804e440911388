package wal_test

import (
	"bytes"
	"encoding/binary"
	"hash/crc32"
	"math"
	"math/rand"
	"slices"
	"strings"
	"testing"

	"winnow/api"
	"winnow/disk"
	"winnow/wal"
)

// framed is the data's frame, told apart from package frame.
func framed(data string) string {
	b := binary.LittleEndian.AppendUint32(nil, uint32(len(data)))
	b = append(b, data...)
	return string(binary.LittleEndian.AppendUint32(b, crc32.ChecksumIEEE(b)))
}

// headed is the frame that a file begins with whose first record has the number n.
func headed(n uint64) string { return framed(string(binary.BigEndian.AppendUint64(nil, n))) }

// filed is the bytes of a file with these records, the first one of number n.
func filed(n uint64, recs ...string) string {
	b := headed(n)
	for _, rec := range recs {
		b += framed(rec)
	}
	return b
}

// long is a record of n bytes that differs from others by its letter.
func long(letter byte, n int) string { return strings.Repeat(string([]byte{letter}), n) }

// answers holds a kind to the one that should be.
func answers(t *testing.T, what string, got, want api.Kind) {
	t.Helper()
	if got != want {
		t.Errorf("%s: %d, not %d", what, got, want)
	}
}

// empty is a new disk of that room.
func empty(t *testing.T, room int) *disk.Disk {
	t.Helper()
	d, k := disk.New(room)
	if d == nil || k != api.OK {
		t.Fatalf("New of %d: %v %d", room, d, k)
	}
	return d
}

// laid is a disk with these files, all of them fast.
func laid(t *testing.T, files map[int]string) *disk.Disk {
	t.Helper()
	d := empty(t, api.MaxFile)
	for number, b := range files {
		answers(t, "Append of the disk", d.Append(number, []byte(b)), api.OK)
		answers(t, "Sync of the disk", d.Sync(number), api.OK)
	}
	return d
}

// opened is the log of the disk.
func opened(t *testing.T, d *disk.Disk, most int) *wal.Log {
	t.Helper()
	l, k := wal.Open(d, most)
	if l == nil || k != api.OK {
		t.Fatalf("Open of %d: %v %d, not a log and 0", most, l, k)
	}
	return l
}

// fails holds Open to that kind, no log, and a disk that is not changed.
func fails(t *testing.T, what string, d *disk.Disk, most int, want api.Kind) {
	t.Helper()
	was := lying(d)
	if l, k := wal.Open(d, most); l != nil || k != want {
		t.Errorf("Open of %s: %v %d, not nil and %d", what, l, k, want)
	}
	if is := lying(d); !slices.Equal(is, was) {
		t.Errorf("Open of %s changed the disk", what)
	}
}

// lying is what the disk has in each of its files, by their numbers: "-" where
// there is none, "down" where it can't be read.
func lying(d *disk.Disk) []string {
	all := slices.Repeat([]string{"-"}, api.MaxFiles)
	for _, number := range d.Files() {
		b, k := d.Read(number)
		all[number] = string(b)
		if k != api.OK {
			all[number] = "down"
		}
	}
	return all
}

// lies holds what the disk has to these files.
func lies(t *testing.T, d *disk.Disk, want map[int]string) {
	t.Helper()
	for number, b := range lying(d) {
		w, is := want[number]
		if !is {
			w = "-"
		}
		if b != w {
			t.Errorf("file %d: %q, not %q", number, b, w)
		}
	}
}

// appends lays records that all must come.
func appends(t *testing.T, l *wal.Log, recs ...string) {
	t.Helper()
	for _, rec := range recs {
		answers(t, "Append", l.Append([]byte(rec)), api.OK)
	}
}

// texts is the records as texts.
func texts(l *wal.Log) []string {
	var all []string
	for _, rec := range l.Records() {
		all = append(all, string(rec))
	}
	return all
}

// tells holds what the log tells to these.
func tells(t *testing.T, l *wal.Log, first, files int, recs ...string) {
	t.Helper()
	if n := l.First(); n != first {
		t.Errorf("First: %d, not %d", n, first)
	}
	if n := l.Files(); n != files {
		t.Errorf("Files: %d, not %d", n, files)
	}
	if all := texts(l); !slices.Equal(all, recs) {
		t.Errorf("Records: %.200q, not %.200q", all, recs)
	}
}

// three is what a log of most 64 lays for three files with two records each.
func three() map[int]string {
	return map[int]string{
		0: filed(0, "a", long('b', 40)),
		1: filed(2, "", long('d', 60)),
		2: filed(4, "e", "ef"),
	}
}

func TestP701OpenOfWrongArguments(t *testing.T) {
	for _, most := range []int{63, 0, -1, -64, math.MinInt, api.MaxFile + 1, math.MaxInt, 64, 100} {
		if l, k := wal.Open(nil, most); l != nil || k != api.Nil {
			t.Errorf("Open of no disk and %d: %v %d, not nil and 13", most, l, k)
		}
	}
	down := empty(t, 10)
	down.Arm(0)
	answers(t, "Append beyond", down.Append(5, []byte("x")), api.Down)
	wrong := laid(t, map[int]string{5: framed("no number")})
	for _, most := range []int{63, 1, 0, -1, math.MinInt, api.MaxFile + 1, math.MaxInt} {
		fails(t, "an empty disk", empty(t, 10), most, api.BadArg)
		fails(t, "a disk that is down", down, most, api.BadArg)
		fails(t, "a disk without a log", wrong, most, api.BadArg)
	}
	for _, most := range []int{64, 65, 4096, api.MaxFile - 1, api.MaxFile} {
		fails(t, "a disk that is down", down, most, api.Down)
		fails(t, "a disk without a log", wrong, most, api.BadForm)
		d := empty(t, 10)
		tells(t, opened(t, d, most), 0, 0)
		lies(t, d, nil)
	}
	wrong.Arm(0)
	answers(t, "Append beyond", wrong.Append(5, []byte("x")), api.Down)
	fails(t, "a disk that is down, without a log", wrong, 64, api.Down)
	gap := laid(t, map[int]string{0: filed(0, long('a', 60)), 2: filed(1)})
	gap.Arm(0)
	answers(t, "Append beyond", gap.Append(2, []byte("x")), api.Down)
	fails(t, "a disk that is down, with a gap", gap, 64, api.Down)
}

func TestP701OpenOfALog(t *testing.T) {
	tells(t, opened(t, laid(t, map[int]string{0: filed(0, "a")}), 64), 0, 1, "a")
	d := laid(t, three())
	for range 3 {
		tells(t, opened(t, d, 64), 0, 3, "a", long('b', 40), "", long('d', 60), "e", "ef")
		lies(t, d, three())
	}
	// The first file is the one behind the gap, wherever it lies.
	round := map[int]string{
		62: filed(62, long('a', 60)),
		63: filed(63, long('b', 60), long('c', 60)),
		0:  filed(65, long('d', 60)),
		1:  filed(66, "e"),
	}
	l := opened(t, laid(t, round), 64)
	tells(t, l, 62, 4, long('a', 60), long('b', 60), long('c', 60), long('d', 60), "e")
	appends(t, l, "f")
	tells(t, l, 62, 4, long('a', 60), long('b', 60), long('c', 60), long('d', 60), "e", "f")
}

func TestP701OpenOfALogOfGreatNumbers(t *testing.T) {
	for _, n := range []uint64{1, 255, 256, 1 << 16, 1<<31 - 9} {
		d := laid(t, map[int]string{7: filed(n, long('a', 64)), 8: filed(n+1, "b")})
		l := opened(t, d, 64)
		tells(t, l, int(n), 2, long('a', 64), "b")
		answers(t, "Drop", l.Drop(int(n)+1), api.OK)
		tells(t, l, int(n)+1, 1, "b")
	}
}

func TestP701NoLog(t *testing.T) {
	b := long('b', 60)
	seven, nine := string(make([]byte, 7)), string(make([]byte, 9))
	for what, files := range map[string]map[int]string{
		"a first frame of 7 bytes":             {0: framed(seven)},
		"a first frame of 9 bytes":             {0: framed(nine) + framed("a")},
		"a first frame of no bytes":            {0: framed("")},
		"a first frame of a record":            {0: framed("a") + headed(0)},
		"a number beyond all":                  {0: filed(math.MaxUint64, "a")},
		"a first frame of 7 bytes, ahead":      {0: framed(seven) + framed(b), 1: filed(1, "a")},
		"a first frame of 9 bytes, behind":     {0: filed(0, b), 1: framed(nine)},
		"a gap":                                {0: filed(0, b), 2: filed(1, "a")},
		"two gaps":                             {0: filed(2, b), 1: filed(3, "a"), 5: filed(0, b), 6: filed(1, b)},
		"a gap, and round":                     {63: filed(0, b), 1: filed(1, "a")},
		"a number that is 1 less":              {0: filed(0, b, b), 1: filed(1, "a")},
		"a number that is 1 more":              {0: filed(0, b, b), 1: filed(3, "a")},
		"a number that is 1 more, none behind": {0: filed(0, b, b), 1: filed(3)},
		"a number that begins again":           {0: filed(0, b), 1: filed(0, b)},
		"numbers that go back":                 {0: filed(1, b), 1: filed(0, b)},
		"numbers that go on behind the gap":    {63: filed(1, b), 0: filed(0, b)},
		"a number that is 1 more, ahead":       {0: filed(0, b), 1: filed(2, b), 2: filed(3, "a")},
		"a byte behind the frames, ahead":      {0: filed(0, b) + "x", 1: filed(1, "a")},
		"a frame that ends too soon, ahead":    {0: filed(0, b) + framed(b)[:67], 1: filed(1, "a")},
		"no whole frame, ahead":                {0: long('x', 100), 1: filed(0, "a")},
		"nothing, ahead":                       {0: "", 1: filed(0, "a")},
		"nothing, in between":                  {0: filed(0, b), 1: "", 2: filed(1, "a")},
		"a torn file ahead of a torn one":      {0: filed(0, b) + "x", 1: headed(1)[:9]},
		"a gap ahead of a torn one":            {0: filed(0, b), 2: headed(1)[:9]},
	} {
		fails(t, what, laid(t, files), 64, api.BadForm)
	}
}

func TestP701NoLogOfAllFiles(t *testing.T) {
	files := map[int]string{}
	for i := range api.MaxFiles {
		files[i] = filed(uint64(i), long('a', 60))
	}
	fails(t, "MaxFiles files", laid(t, files), 64, api.BadForm)
	delete(files, api.MaxFiles-1)
	l := opened(t, laid(t, files), 64)
	if n := l.Files(); n != api.MaxFiles-1 {
		t.Errorf("Files: %d, not %d", n, api.MaxFiles-1)
	}
}

func TestP701ATurnedByte(t *testing.T) {
	whole := three()
	recs := []string{"a", long('b', 40), "", long('d', 60), "e", "ef"}
	for number := range 3 {
		for at := range whole[number] {
			files := three()
			b := []byte(files[number])
			b[at] ^= 64
			files[number] = string(b)
			d := laid(t, files)
			if number < 2 {
				fails(t, "a turned byte ahead", d, 64, api.BadForm)
				continue
			}
			// All that is behind goes, too.
			switch {
			case at < 16:
				delete(files, 2)
				tells(t, opened(t, d, 64), 0, 2, recs[:4]...)
			case at < 25:
				files[2] = filed(4)
				tells(t, opened(t, d, 64), 0, 3, recs[:4]...)
			default:
				files[2] = filed(4, "e")
				tells(t, opened(t, d, 64), 0, 3, recs[:5]...)
			}
			lies(t, d, files)
		}
	}
}

// TestP701NoLogWouldGoOn: no log leaves a file of fewer than 64 bytes behind.
func TestP701NoLogWouldGoOn(t *testing.T) {
	fails(t, "a file ahead without a record", laid(t, map[int]string{0: filed(0), 1: filed(0, "a")}), 64, api.BadForm)
	fails(t, "a file of 63 bytes ahead", laid(t, map[int]string{0: filed(0, long('a', 39)), 1: filed(1, "b")}), 64, api.BadForm)
	tells(t, opened(t, laid(t, map[int]string{0: filed(0, long('a', 40)), 1: filed(1, "b")}), 64), 0, 2, long('a', 40), "b")
}

func TestP701TheLastFileIsCutOff(t *testing.T) {
	whole := filed(4, "e", "", "ef")
	ends := []int{16, 25, 33, 43} // of its frames
	recs := []string{"a", long('b', 40), "", long('d', 60), "e", "", "ef"}
	for n := range len(whole) + 1 {
		for _, junk := range []string{"", "\x00", "\xff\xff\xff\xff\xff", whole[:min(n, 3)]} {
			if n == len(whole) && junk == "" || len(junk) > 0 && !slices.Contains(ends, n) {
				continue
			}
			files := three()
			files[2] = whole[:n] + junk
			d := laid(t, files)
			left := 0
			for _, end := range ends {
				if end <= n {
					left++
				}
			}
			delete(files, 2)
			if left > 0 {
				files[2] = whole[:ends[left-1]]
			}
			for range 2 {
				tells(t, opened(t, d, 64), 0, len(files), recs[:4+max(left-1, 0)]...)
				lies(t, d, files)
			}
		}
	}
}

func TestP701TheLastFileIsRemoved(t *testing.T) {
	for n := range 16 {
		d := laid(t, map[int]string{0: headed(0)[:n]})
		l := opened(t, d, 64)
		lies(t, d, nil)
		tells(t, l, 0, 0)
		appends(t, l, "a")
		lies(t, d, map[int]string{0: filed(0, "a")})

		d = laid(t, map[int]string{63: filed(70, long('a', 50)), 0: headed(71)[:n]})
		l = opened(t, d, 64)
		lies(t, d, map[int]string{63: filed(70, long('a', 50))})
		tells(t, l, 70, 1, long('a', 50))
		appends(t, l, "b")
		lies(t, d, map[int]string{63: filed(70, long('a', 50)), 0: filed(71, "b")})
	}
	d := laid(t, map[int]string{9: "anything"})
	tells(t, opened(t, d, 64), 0, 0)
	lies(t, d, nil)
}

func TestP701AFileOfItsNumberAloneStays(t *testing.T) {
	d := laid(t, map[int]string{0: filed(0, long('a', 60)), 1: filed(1)})
	l := opened(t, d, 64)
	tells(t, l, 0, 2, long('a', 60))
	answers(t, "Drop", l.Drop(1), api.OK)
	tells(t, l, 1, 1)
	appends(t, l, "b")
	tells(t, l, 1, 1, "b")
	lies(t, d, map[int]string{1: filed(1, "b")})
}

func TestP701WhereNothingIsCutOffNothingIsDone(t *testing.T) {
	d := empty(t, 1000)
	l := opened(t, d, 64)
	appends(t, l, "a", "b")
	answers(t, "Sync", l.Sync(), api.OK)
	appends(t, l, "c")
	tells(t, opened(t, d, 64), 0, 1, "a", "b", "c")
	d.Crash(nil) // what is loose is not fast by having been opened
	tells(t, opened(t, d, 64), 0, 1, "a", "b")
	appends(t, opened(t, d, 64), "d")
	d.Crash([]int{8})
	tells(t, opened(t, d, 64), 0, 1, "a", "b")
	lies(t, d, map[int]string{0: filed(0, "a", "b")})
}

// TestP701OpenOfAnotherMost: a disk has a log by whoever wrote it, not by who asks.
func TestP701OpenOfAnotherMost(t *testing.T) {
	for _, most := range []int{64, 65, 100, 4096, api.MaxFile} {
		d := laid(t, three())
		l := opened(t, d, most)
		tells(t, l, 0, 3, "a", long('b', 40), "", long('d', 60), "e", "ef")
		appends(t, l, long('g', 100))
		tells(t, opened(t, d, most), 0, 3, "a", long('b', 40), "", long('d', 60), "e", "ef", long('g', 100))
	}
}

func TestP702WhatLies(t *testing.T) {
	d := empty(t, api.MaxFile)
	l := opened(t, d, 64)
	want := map[int]string{}
	put := func(number int, b, rec string) {
		t.Helper()
		answers(t, "Append", l.Append([]byte(rec)), api.OK)
		want[number] += b
		lies(t, d, want)
	}
	put(0, headed(0)+framed("a"), "a")
	put(0, framed(""), "")
	put(0, framed(long('c', 22)), long('c', 22)) // 63 bytes
	put(0, framed("d"), "d")
	put(1, headed(4)+framed(long('e', 40)), long('e', 40)) // just 64 bytes
	put(2, headed(5)+framed(long('f', 39)), long('f', 39)) // 63
	put(2, framed(long('g', api.MaxFrame)), long('g', api.MaxFrame))
	put(3, headed(7)+framed(long('h', api.MaxFrame)), long('h', api.MaxFrame))
	put(4, headed(8)+framed(""), "")
	tells(t, l, 0, 5, "a", "", long('c', 22), "d", long('e', 40), long('f', 39), long('g', api.MaxFrame), long('h', api.MaxFrame), "")
	tells(t, opened(t, d, 64), 0, 5, texts(l)...)
}

func TestP702AnotherMost(t *testing.T) {
	for _, most := range []int{64, 65, 100, 1000, 9000, api.MaxFile} {
		d := empty(t, api.MaxFile)
		l := opened(t, d, most)
		want := map[int]string{}
		number, recs := 0, 0
		for i := range 300 {
			rec := long(byte('a'+i%26), i%90)
			if len(want[number]) >= most {
				number++
			}
			if number == api.MaxFiles-1 {
				break
			}
			if want[number] == "" {
				want[number] = headed(uint64(recs))
			}
			appends(t, l, rec)
			want[number] += framed(rec)
			recs++
		}
		lies(t, d, want)
		if n := l.Files(); n != len(want) {
			t.Errorf("Files: %d, not %d", n, len(want))
		}
	}
}

func TestP702NumbersGoRound(t *testing.T) {
	d := empty(t, 1000)
	l := opened(t, d, 64)
	for i := range 3*api.MaxFiles + 5 {
		appends(t, l, long('a', 45))
		if i > 0 {
			answers(t, "Drop", l.Drop(i), api.OK)
		}
		tells(t, l, i, 1, long('a', 45))
		lies(t, d, map[int]string{i % api.MaxFiles: filed(uint64(i), long('a', 45))})
		if i%10 == 0 {
			l = opened(t, d, 64)
		}
	}
}

func TestP702TooLarge(t *testing.T) {
	d := empty(t, 100)
	l := opened(t, d, 64)
	for _, n := range []int{api.MaxFrame + 1, api.MaxFrame + 2, 100000} {
		answers(t, "Append of too much", l.Append(make([]byte, n)), api.TooLarge)
	}
	lies(t, d, nil)
	appends(t, l, "a")
	d.Arm(0)
	answers(t, "Append of too much", l.Append(make([]byte, api.MaxFrame+1)), api.TooLarge)
	answers(t, "Append beyond", l.Append(nil), api.Down)
	answers(t, "Append of too much, down", l.Append(make([]byte, api.MaxFrame+1)), api.TooLarge)
	tells(t, l, 0, 1, "a")
}

func TestP702FullOfFiles(t *testing.T) {
	d := empty(t, api.MaxFile)
	l := opened(t, d, 64)
	var recs []string
	for i := range api.MaxFiles - 1 {
		recs = append(recs, long(byte('A'+i), 60))
	}
	appends(t, l, recs[:len(recs)-1]...)
	appends(t, l, "x") // the last file has room
	appends(t, l, recs[len(recs)-1])
	recs = slices.Insert(recs, len(recs)-1, "x")
	tells(t, l, 0, api.MaxFiles-1, recs...)
	was := lying(d)
	for range 2 {
		answers(t, "Append", l.Append(nil), api.Full)
		answers(t, "Append", l.Append([]byte("y")), api.Full)
		answers(t, "Append of too much", l.Append(make([]byte, api.MaxFrame+1)), api.TooLarge)
		tells(t, l, 0, api.MaxFiles-1, recs...)
		if !slices.Equal(lying(d), was) {
			t.Error("Append that is Full changed the disk")
		}
		l = opened(t, d, 64)
	}
	d.Crash(nil) // the last file is loose: Full synced nothing
	if b := lying(d)[api.MaxFiles-2]; b != "" {
		t.Errorf("an Append that is Full synced %q", b)
	}
}

func TestP702FullOfFilesAheadOfDown(t *testing.T) {
	d := empty(t, api.MaxFile)
	l := opened(t, d, 64)
	for range api.MaxFiles - 1 {
		appends(t, l, long('a', 60))
	}
	d.Arm(0)
	answers(t, "Append beyond of the disk", d.Append(62, []byte("x")), api.Down)
	answers(t, "Append", l.Append([]byte("y")), api.Full)
	answers(t, "Sync", l.Sync(), api.Down)
	answers(t, "Drop", l.Drop(1), api.Down)
}

func TestP702FullOfFilesTillOneGoes(t *testing.T) {
	d := empty(t, api.MaxFile)
	l := opened(t, d, 64)
	for range api.MaxFiles - 1 {
		appends(t, l, long('a', 60))
	}
	answers(t, "Append", l.Append([]byte("y")), api.Full)
	answers(t, "Drop", l.Drop(1), api.OK)
	appends(t, l, long('b', 60))
	answers(t, "Append", l.Append([]byte("y")), api.Full)
	answers(t, "Drop", l.Drop(2), api.OK)
	appends(t, l, "c", "d")
	if n, is := l.First(), lying(d)[0]; n != 2 || is != filed(api.MaxFiles, "c", "d") {
		t.Errorf("First: %d, file 0: %q", n, is)
	}
	if n := l.Files(); n != api.MaxFiles-1 {
		t.Errorf("Files: %d, not %d", n, api.MaxFiles-1)
	}
}

func TestP702TheDiskIsFull(t *testing.T) {
	d := empty(t, 100)
	l := opened(t, d, 64)
	appends(t, l, long('a', 39)) // 63 bytes
	answers(t, "Append", l.Append(make([]byte, 30)), api.Full)
	tells(t, l, 0, 1, long('a', 39))
	appends(t, l, "bc") // 73
	answers(t, "Append to the next file", l.Append(make([]byte, 4)), api.Full)
	tells(t, l, 0, 1, long('a', 39), "bc")
	lies(t, d, map[int]string{0: filed(0, long('a', 39), "bc")})
	appends(t, l, "def") // just 100
	tells(t, l, 0, 2, long('a', 39), "bc", "def")
	answers(t, "Append", l.Append(nil), api.Full)
	answers(t, "Sync", l.Sync(), api.OK)
	tells(t, opened(t, d, 64), 0, 2, long('a', 39), "bc", "def")
}

func TestP702OneAppendOfTheDisk(t *testing.T) {
	// By one Append the file's number and the record are cut off where it is
	// armed, and neither is there alone where there is no room for both.
	for can := range 30 {
		d := empty(t, 1000)
		l := opened(t, d, 64)
		appends(t, l, long('a', 50))
		d.Arm(can)
		b := headed(1) + framed("bcdefg")
		answers(t, "Append beyond", l.Append([]byte("bcdefg")), api.Down)
		tells(t, l, 0, 1, long('a', 50))
		d.Crash([]int{0, 100})
		lies(t, d, map[int]string{0: filed(0, long('a', 50)), 1: b[:can]}) // file 0 was synced
		l = opened(t, d, 64)
		if can < 16 {
			tells(t, l, 0, 1, long('a', 50))
		} else {
			tells(t, l, 0, 2, long('a', 50))
		}
	}
	for room := 74; room < 104; room++ {
		d := empty(t, room)
		l := opened(t, d, 64)
		appends(t, l, long('a', 50))
		answers(t, "Append", l.Append([]byte("bcdefg")), api.Full)
		lies(t, d, map[int]string{0: filed(0, long('a', 50))})
	}
}

func TestP702OnlyTheFileThatEndsIsSynced(t *testing.T) {
	d := empty(t, 1000)
	l := opened(t, d, 64)
	appends(t, l, "a", long('b', 30))
	d.Crash(nil)
	lies(t, d, map[int]string{0: ""}) // no Append syncs what it lays
	l = opened(t, d, 64)
	appends(t, l, "a", long('b', 50), "c", "d")
	d.Crash(nil)
	lies(t, d, map[int]string{0: filed(0, "a", long('b', 50)), 1: ""})
	tells(t, opened(t, d, 64), 0, 1, "a", long('b', 50))
}

func TestP702Sync(t *testing.T) {
	d := empty(t, 1000)
	l := opened(t, d, 64)
	answers(t, "Sync of none", l.Sync(), api.OK)
	lies(t, d, nil)
	appends(t, l, "a", long('b', 50), "c")
	answers(t, "Sync", l.Sync(), api.OK)
	answers(t, "Sync again", l.Sync(), api.OK)
	appends(t, l, "d")
	d.Crash(nil)
	l = opened(t, d, 64)
	tells(t, l, 0, 2, "a", long('b', 50), "c")
	answers(t, "Sync", l.Sync(), api.OK)

	d.Arm(0)
	answers(t, "Append", l.Append([]byte("d")), api.Down)
	answers(t, "Sync", l.Sync(), api.Down)
	none := empty(t, 1000)
	l = opened(t, none, 64)
	none.Arm(0)
	answers(t, "Append", l.Append([]byte("d")), api.Down)
	answers(t, "Sync of none, down", l.Sync(), api.Down)
	tells(t, l, 0, 0)
}

func TestP702SyncOfAllFiles(t *testing.T) {
	d := empty(t, 1000)
	for number, b := range three() {
		answers(t, "Append of the disk", d.Append(number, []byte(b)), api.OK) // loose
	}
	answers(t, "Sync", opened(t, d, 64).Sync(), api.OK)
	d.Crash(nil)
	lies(t, d, three())
}

func TestP702Down(t *testing.T) {
	for can := range 9 {
		d := empty(t, 1000)
		l := opened(t, d, 64)
		appends(t, l, "a")
		d.Arm(can)
		answers(t, "Append beyond", l.Append([]byte("b")), api.Down)
		for range 2 {
			answers(t, "Append", l.Append(nil), api.Down)
			answers(t, "Append", l.Append([]byte("c")), api.Down)
			tells(t, l, 0, 1, "a")
		}
		d.Crash([]int{99})
		lies(t, d, map[int]string{0: filed(0, "a") + framed("b")[:can]})
		tells(t, opened(t, d, 64), 0, 1, "a")
		lies(t, d, map[int]string{0: filed(0, "a")})
	}
}

func TestP703WhatComesInAndOutIsNotShared(t *testing.T) {
	d := empty(t, 1000)
	l := opened(t, d, 64)
	rec := []byte("abspare!")
	answers(t, "Append", l.Append(rec[:2]), api.OK)
	if string(rec) != "abspare!" {
		t.Errorf("Append changed what it was given: %q", rec)
	}
	rec[0] = 'X'
	appends(t, l, "cd", "")
	tells(t, l, 0, 1, "ab", "cd", "")
	for _, l := range []*wal.Log{l, opened(t, d, 64)} {
		out := l.Records()
		for i := range out {
			out[i] = append(out[i], "behind"...)
			for j := range out[i][:cap(out[i])] {
				out[i][:cap(out[i])][j] = '!'
			}
		}
		out = append(out[:1], out...)
		out[0], out[1] = nil, []byte("other")
		tells(t, l, 0, 1, "ab", "cd", "")
		lies(t, d, map[int]string{0: filed(0, "ab", "cd", "")})
	}
}

func TestP703First(t *testing.T) {
	d := empty(t, 1000)
	l := opened(t, d, 64)
	tells(t, l, 0, 0)
	appends(t, l, long('a', 50), long('b', 50), "c")
	tells(t, l, 0, 3, long('a', 50), long('b', 50), "c")
	answers(t, "Drop", l.Drop(1), api.OK)
	tells(t, l, 1, 2, long('b', 50), "c")
	answers(t, "Drop", l.Drop(3), api.OK)
	tells(t, l, 2, 1, "c")
	d.Crash([]int{16})
	tells(t, opened(t, d, 64), 2, 1) // of no record: the next one's
}

func TestP704Drop(t *testing.T) {
	// The files have 2, 1, 3 and 2 records: 0 1, 2, 3 4 5, 6 7.
	recs := []string{"a", long('b', 50), long('c', 50), "d", "e", long('f', 50), "g", "h"}
	first := []int{0, 0, 2, 3, 3, 3, 6, 6, 6} // by n
	files := []int{4, 4, 3, 2, 2, 2, 1, 1, 1}
	for n := range recs {
		for _, again := range []bool{false, true} {
			d := empty(t, 1000)
			l := opened(t, d, 64)
			appends(t, l, recs...)
			if again {
				l = opened(t, d, 64)
			}
			was := lying(d)
			answers(t, "Drop", l.Drop(n), api.OK)
			tells(t, l, first[n], files[n], recs[first[n]:]...)
			for i, b := range lying(d) {
				if want := was[i]; i < 4-files[n] && b != "-" || i >= 4-files[n] && b != want {
					t.Errorf("Drop of %d: file %d is %q", n, i, b)
				}
			}
			for m := range n {
				answers(t, "Drop of fewer", l.Drop(m), api.OK)
			}
			tells(t, l, first[n], files[n], recs[first[n]:]...)
			appends(t, l, "i")
			tells(t, opened(t, d, 64), first[n], files[n], append(recs[first[n]:len(recs):len(recs)], "i")...)
		}
	}
	d := empty(t, 1000)
	l := opened(t, d, 64)
	appends(t, l, recs...)
	answers(t, "Drop of all", l.Drop(len(recs)), api.OK)
	tells(t, l, 6, 1, "g", "h") // the last file stays
	appends(t, l, long('i', 50))
	answers(t, "Drop of all", l.Drop(len(recs)+1), api.OK)
	tells(t, l, 6, 1, "g", "h", long('i', 50))
	appends(t, l, "j")
	answers(t, "Drop of all", l.Drop(len(recs)+2), api.OK)
	tells(t, l, 9, 1, "j")
}

func TestP704DropOfWrongNumbers(t *testing.T) {
	d := empty(t, 1000)
	l := opened(t, d, 64)
	answers(t, "Drop of 0", l.Drop(0), api.OK)
	for _, n := range []int{1, -1, math.MinInt, math.MaxInt} {
		answers(t, "Drop", l.Drop(n), api.BadArg)
	}
	appends(t, l, long('a', 50), long('b', 50), "c")
	for _, n := range []int{4, 5, -1, math.MinInt, math.MaxInt} {
		answers(t, "Drop", l.Drop(n), api.BadArg)
	}
	tells(t, l, 0, 3, long('a', 50), long('b', 50), "c")
	d.Arm(0)
	answers(t, "Append", l.Append(nil), api.Down)
	for _, n := range []int{4, -1, math.MinInt, math.MaxInt} {
		answers(t, "Drop, down", l.Drop(n), api.BadArg)
	}
}

func TestP704DropOfADiskThatIsDown(t *testing.T) {
	d := empty(t, 1000)
	l := opened(t, d, 64)
	appends(t, l, long('a', 50), long('b', 50), "c")
	d.Arm(0)
	answers(t, "Append", l.Append(nil), api.Down)
	for n := range 4 { // also where no file goes
		answers(t, "Drop", l.Drop(n), api.Down)
	}
	tells(t, l, 0, 3, long('a', 50), long('b', 50), "c")
	d.Crash([]int{0, 0, 99})
	tells(t, opened(t, d, 64), 0, 3, long('a', 50), long('b', 50), "c")

	none := empty(t, 1000)
	l = opened(t, none, 64)
	none.Arm(0)
	answers(t, "Append", l.Append(nil), api.Down)
	answers(t, "Drop of none, down", l.Drop(0), api.Down)
}

func TestP704Files(t *testing.T) {
	d := empty(t, 1000)
	l := opened(t, d, 64)
	for i := range 9 {
		if n := l.Files(); n != i || len(d.Files()) != i {
			t.Errorf("Files: %d, not %d", n, i)
		}
		appends(t, l, long('a', 50))
	}
	answers(t, "Drop", l.Drop(5), api.OK)
	if n := l.Files(); n != 4 || len(d.Files()) != 4 {
		t.Errorf("Files: %d, not 4", n)
	}
}

func TestP701ToP704OfNil(t *testing.T) {
	for _, l := range []*wal.Log{nil, {}} {
		for _, rec := range [][]byte{nil, []byte("a"), make([]byte, api.MaxFrame+1)} {
			answers(t, "Append", l.Append(rec), api.Nil)
		}
		answers(t, "Sync", l.Sync(), api.Nil)
		for _, n := range []int{0, -1, 1, math.MaxInt, math.MinInt} {
			answers(t, "Drop", l.Drop(n), api.Nil)
		}
		tells(t, l, 0, 0)
	}
}

func TestExample1(t *testing.T) {
	for keep := range 12 {
		d := empty(t, 1000)
		l := opened(t, d, 64)
		appends(t, l, "a")
		answers(t, "Sync", l.Sync(), api.OK)
		appends(t, l, "b")
		d.Crash([]int{keep})
		l = opened(t, d, 64)
		if keep < 9 {
			tells(t, l, 0, 1, "a")
		} else {
			tells(t, l, 0, 1, "a", "b")
		}
	}
}

// TestP705ACrashAtAnyByte: the disk goes down at each byte of what a log appends,
// and of what is loose each beginning stays.
func TestP705ACrashAtAnyByte(t *testing.T) {
	recs := []string{"a", "", long('c', 60), "d", long('e', 70), long('f', 80), "g"}
	all := 0
	for can := 0; ; can++ {
		most := 0
		for keep := 0; keep <= most; keep++ {
			d := empty(t, 10000)
			l := opened(t, d, 64)
			d.Arm(can)
			fast, came, k := 0, 0, api.OK
			for i, rec := range recs {
				if k = l.Append([]byte(rec)); k != api.OK {
					break
				}
				if came++; i%2 == 1 {
					answers(t, "Sync", l.Sync(), api.OK)
					fast = came
				}
			}
			if k == api.OK {
				all = can
			} else {
				answers(t, "Append", k, api.Down)
				answers(t, "Append behind it", l.Append([]byte("behind")), api.Down)
			}
			tells(t, l, 0, l.Files(), recs[:came]...)
			most = 90 + len(framed(""))
			d.Crash(slices.Repeat([]int{keep}, len(d.Files())))
			l = opened(t, d, 64)
			is := texts(l)
			if len(is) < fast || len(is) > came+1 || !slices.Equal(is, recs[:len(is)]) {
				t.Fatalf("armed with %d, %d kept: %.200q; %d of %d were fast", can, keep, is, fast, came)
			}
			// What is there is there again, and the log goes on behind it.
			appends(t, l, "on", long('o', 50), "on")
			d.Crash(slices.Repeat([]int{99}, api.MaxFiles))
			tells(t, opened(t, d, 64), 0, l.Files(), append(is, "on", long('o', 50), "on")...)
		}
		if all > 0 {
			return
		}
	}
}

// TestP705NoRecordIsMissingInBetween: what is ahead of the next file's first
// record is fast as soon as that one is tried.
func TestP705NoRecordIsMissingInBetween(t *testing.T) {
	recs := []string{"a", long('b', 60), "c", long('d', 60), "e", long('f', 60), "g"}
	for keeps := range 5 * 5 * 5 * 5 {
		keep := []int{keeps % 5 * 20, keeps / 5 % 5 * 20, keeps / 25 % 5 * 20, keeps / 125 * 20}
		d := empty(t, 1000)
		appends(t, opened(t, d, 64), recs...)
		d.Crash(keep)
		is := texts(opened(t, d, 64))
		if len(is) < 6 || !slices.Equal(is, recs[:len(is)]) {
			t.Fatalf("%v kept: %.200q", keep, is)
		}
	}
}

func TestP705DropAndCrash(t *testing.T) {
	d := empty(t, 1000)
	l := opened(t, d, 64)
	appends(t, l, long('a', 60), long('b', 60), "c")
	answers(t, "Sync", l.Sync(), api.OK)
	answers(t, "Drop", l.Drop(2), api.OK)
	d.Crash(nil)
	tells(t, opened(t, d, 64), 2, 1, "c")

	d = empty(t, 1000)
	l = opened(t, d, 64)
	appends(t, l, long('a', 60), "b")
	answers(t, "Drop", l.Drop(2), api.OK)
	d.Crash(nil) // all that was fast was dropped
	tells(t, opened(t, d, 64), 0, 0)
	lies(t, d, nil)
}

func TestP706OpenedAgain(t *testing.T) {
	d := empty(t, 100000)
	var want []string
	for i := range 40 {
		l := opened(t, d, 200)
		if is := texts(l); !slices.Equal(is, want) {
			t.Fatalf("opened again: %d records, not %d", len(is), len(want))
		}
		for j := range i % 4 {
			rec := long(byte('a'+i%26), i*j*7)
			appends(t, l, rec)
			want = append(want, rec)
		}
		if i%3 == 0 {
			answers(t, "Sync", l.Sync(), api.OK)
			d.Crash(nil)
		}
		if i%5 == 4 {
			first := l.First()
			answers(t, "Drop", l.Drop(first+i%9), api.OK)
			want = want[l.First()-first:]
		}
		tells(t, opened(t, d, 200), l.First(), l.Files(), want...)
	}
}

// model is a log as the chapter tells it, in another way: all of it is found
// anew, each time, in what the disk has.
type model struct {
	d    *disk.Disk
	most int
	room int
	can  int // how many bytes the disk is armed with; -1: any
}

// part is one of the log's files.
type part struct {
	number, first, size int
	recs                []string
}

// parts is the log's files. The disk must be up, and have a log.
func (m *model) parts() []part {
	there := lying(m.d)
	start := 0
	for start < api.MaxFiles && (there[start] == "-" || there[(start+api.MaxFiles-1)%api.MaxFiles] != "-") {
		start++
	}
	var all []part
	for i := start; i < start+api.MaxFiles && there[i%api.MaxFiles] != "-"; i++ {
		p := part{number: i % api.MaxFiles}
		b := there[i%api.MaxFiles]
		for n := range len(b) + 1 {
			rec, is := unframed(b[p.size:n])
			if !is {
				continue
			}
			if p.size == 0 {
				p.first = int(binary.BigEndian.Uint64([]byte(rec)))
			} else {
				p.recs = append(p.recs, rec)
			}
			p.size = n
		}
		if p.size > 0 {
			all = append(all, p)
		}
	}
	return all
}

// unframed is the data whose frame b is, if it is one.
func unframed(b string) (string, bool) {
	if len(b) < 8 || len(b)-8 != int(binary.LittleEndian.Uint32([]byte(b))) || framed(b[4:len(b)-4]) != b {
		return "", false
	}
	return b[4 : len(b)-4], true
}

// append is what Append of that record must answer.
func (m *model) append(parts []part, rec string, down bool) api.Kind {
	size := len(rec) + 8
	if len(rec) > api.MaxFrame {
		return api.TooLarge
	}
	if len(parts) == 0 || parts[len(parts)-1].size >= m.most {
		if size += 16; len(parts) == api.MaxFiles-1 {
			return api.Full
		}
	}
	if down {
		return api.Down
	}
	if size > m.room-m.d.Used() {
		return api.Full
	}
	if m.can >= 0 && size > m.can {
		return api.Down
	}
	if m.can >= 0 {
		m.can -= size
	}
	return api.OK
}

// agree holds what l tells to the parts.
func agree(t *testing.T, l *wal.Log, parts []part) {
	t.Helper()
	var recs []string
	first := 0
	for i, p := range parts {
		if i == 0 {
			first = p.first
		}
		recs = append(recs, p.recs...)
	}
	tells(t, l, first, len(parts), recs...)
}

// next is the next record's number.
func next(parts []part) int {
	if len(parts) == 0 {
		return 0
	}
	last := parts[len(parts)-1]
	return last.first + len(last.recs)
}

// dropped is the parts that Drop of n leaves.
func dropped(parts []part, n int) []part {
	for len(parts) > 1 && parts[1].first <= n {
		parts = parts[1:]
	}
	return parts
}

// TestP706ManyCalls holds many calls of a log, over crashes, to the model; with
// others, further logs of its disk that were opened ahead are asked, too.
func TestP706ManyCalls(t *testing.T) {
	for _, others := range []bool{false, true} {
		chance := rand.New(rand.NewSource(7))
		for _, room := range []int{100, 400, 3000, 20000} {
			for _, most := range []int{64, 100, 300, 5000} {
				m := &model{d: empty(t, room), most: most, room: room, can: -1}
				if manyCalls(t, chance, m, others); t.Failed() {
					t.Fatalf("room %d, most %d, others %t", room, most, others)
				}
			}
		}
	}
}

// manyCalls makes many calls by chance.
func manyCalls(t *testing.T, chance *rand.Rand, m *model, others bool) {
	t.Helper()
	logs := []*wal.Log{opened(t, m.d, m.most)}
	parts := m.parts()
	for range 800 {
		l := logs[chance.Intn(len(logs))]
		down := m.d.Down()
		switch call := chance.Intn(20); {
		case call < 10:
			rec := long(byte('a'+chance.Intn(26)), chance.Intn(1+chance.Intn(80)))
			want := m.append(parts, rec, down) // asked ahead: it looks at the disk
			answers(t, "Append", l.Append([]byte(rec)), want)
		case call < 12:
			want := api.OK
			if down {
				want = api.Down
			}
			answers(t, "Sync", l.Sync(), want)
		case call < 14:
			n := chance.Intn(next(parts)+3) - 1
			want := api.OK
			if n < 0 || n > next(parts) {
				want = api.BadArg
			} else if down {
				want = api.Down
			} else {
				parts = dropped(parts, n)
			}
			answers(t, "Drop", l.Drop(n), want)
			if !down && len(m.d.Files()) != len(parts) {
				t.Errorf("Drop of %d: %d files, not %d", n, len(m.d.Files()), len(parts))
			}
		case call < 15:
			m.can = chance.Intn(200) - 20
			m.d.Arm(m.can)
		case call < 17 || down && call < 19:
			keep := make([]int, len(m.d.Files()))
			for i := range keep {
				keep[i] = chance.Intn(60)
			}
			m.d.Crash(keep)
			m.can = -1
			if l = logs[0]; !others || chance.Intn(2) == 0 {
				l = opened(t, m.d, m.most)
				logs = append(logs, l)
			}
			if !others {
				logs = logs[len(logs)-1:]
			} else if len(logs) > 3 {
				logs = logs[1:]
			}
		}
		if !m.d.Down() {
			parts = m.parts()
		}
		for _, l := range logs {
			if !m.d.Down() || len(logs) == 1 {
				agree(t, l, parts)
			}
		}
		if !m.d.Down() {
			agree(t, opened(t, m.d, m.most), parts)
		}
		if t.Failed() {
			return
		}
	}
}

func TestTwoLogsShareNothing(t *testing.T) {
	d, other := empty(t, 1000), empty(t, 1000)
	l, m := opened(t, d, 64), opened(t, other, 64)
	appends(t, l, "a", long('b', 60), "c")
	appends(t, m, "x")
	d.Arm(0)
	answers(t, "Append", l.Append(nil), api.Down)
	appends(t, m, "y")
	answers(t, "Sync", m.Sync(), api.OK)
	tells(t, l, 0, 2, "a", long('b', 60), "c")
	tells(t, m, 0, 1, "x", "y")
}

// TestP705ALogGoesOnBehindACrash: also one that was opened ahead of it goes on
// from what is left, so that the disk still has a log.
func TestP705ALogGoesOnBehindACrash(t *testing.T) {
	for can := range 60 {
		for keep := range 60 {
			d := empty(t, 1000)
			l := opened(t, d, 64)
			appends(t, l, "a")
			answers(t, "Sync", l.Sync(), api.OK)
			appends(t, l, "b")
			d.Arm(can)
			l.Append([]byte(long('c', 30)))
			l.Append([]byte(long('d', 10)))
			d.Crash([]int{keep, keep})
			appends(t, l, "e", long('f', 60), "g", long('h', 60), "i")
			is := texts(l)
			tells(t, opened(t, d, 64), 0, l.Files(), is...)
			if len(is) < 6 || is[0] != "a" || !slices.Equal(is[len(is)-5:], []string{"e", long('f', 60), "g", long('h', 60), "i"}) {
				t.Fatalf("armed with %d, %d kept: %.200q", can, keep, is)
			}
		}
	}
}

func TestP706TwoLogsOfOneDisk(t *testing.T) {
	d := empty(t, 10000)
	l, m := opened(t, d, 64), opened(t, d, 64)
	var want []string
	for i := range 30 {
		rec := long(byte('a'+i%26), 11*(i%7))
		appends(t, l, rec)
		want = append(want, rec)
		tells(t, m, 0, l.Files(), want...)
		l, m = m, l
	}
	answers(t, "Drop", l.Drop(20), api.OK)
	want = want[l.First():]
	tells(t, m, l.First(), l.Files(), want...)
	tells(t, opened(t, d, 64), l.First(), l.Files(), want...)
	// As many bytes by another log, behind a crash, are other ones, too.
	appends(t, l, long('!', 60))
	answers(t, "Sync", l.Sync(), api.OK)
	want = append(want, long('!', 60))
	appends(t, l, "x", "y")
	d.Crash(nil)
	appends(t, opened(t, d, 64), long('z', 10))
	tells(t, l, l.First(), l.Files(), append(want, long('z', 10))...)
}

func TestALogThatIsNoMoreIsNotTaken(t *testing.T) {
	d := empty(t, 1000)
	l := opened(t, d, 64)
	appends(t, l, long('a', 60), "b")
	answers(t, "Append of the disk", d.Append(40, bytes.Repeat([]byte("x"), 10)), api.OK)
	tells(t, l, 0, 2, long('a', 60), "b")
	answers(t, "Remove of the disk", d.Remove(40), api.OK)
	appends(t, l, "c")
	tells(t, opened(t, d, 64), 0, 2, long('a', 60), "b", "c")
}
