package wal

import (
	"bytes"
	"math"

	"winnow/api"
	"winnow/disk"
	"winnow/frame"
)

// headSize is how many bytes the number of a file's first record takes.
const headSize = 8

// file is one of a log's, parted.
type file struct {
	number int    // on the disk
	first  uint64 // the number of its first record
	recs   [][]byte
	all    []byte // the bytes of its whole frames
	torn   int    // how many bytes are behind these, till they are cut off
}

// next is the number of the record behind the file's.
func (f *file) next() uint64 { return f.first + uint64(len(f.recs)) }

// loadLast reads the log's last file, of which a crash may have left any
// beginning.
func (f *file) loadLast(d *disk.Disk) api.Kind {
	b, k := d.Read(f.number)
	if k != api.OK {
		return k
	}
	frames, whole, _ := frame.All(b)
	f.all, f.torn = b[:whole], len(b)-whole
	if len(frames) == 0 {
		return api.OK
	}
	f.first, k = number(frames[0])
	f.recs = frames[1:]
	return k
}

// loadAhead reads a file ahead of the last one: that one only began when this
// one had most bytes or more, all of them fast.
func (f *file) loadAhead(d *disk.Disk) api.Kind {
	k := f.loadLast(d)
	if k == api.OK && (f.torn > 0 || len(f.all) < leastMost) {
		return api.BadForm
	}
	return k
}

// follows tells whether f's records go on where those of the file ahead end; a
// file without a whole frame has none that could not.
func (f *file) follows(ahead *file) bool { return len(f.all) == 0 || f.first == ahead.next() }

// mend cuts off what is behind the last file's whole frames, and removes it,
// answering false, if it has none.
func (f *file) mend(d *disk.Disk) (whole bool, k api.Kind) {
	if len(f.all) == 0 {
		return false, d.Remove(f.number)
	}
	if f.torn == 0 { // a Cut would make fast what is loose
		return true, api.OK
	}
	f.torn = 0
	return true, d.Cut(f.number, len(f.all))
}

// write lays the bytes ahead and the record's frame behind the file, by one
// Append, so that a crash leaves a beginning of both.
func (f *file) write(d *disk.Disk, ahead, rec []byte) api.Kind {
	b, k := frame.Put(ahead, rec)
	if k != api.OK {
		return k
	}
	if k := d.Append(f.number, b); k != api.OK {
		return k
	}
	f.all = append(f.all, b...)
	f.recs = append(f.recs, bytes.Clone(rec))
	return api.OK
}

// parted is the files of the log that lies on the disk, the first one first.
func parted(d *disk.Disk) ([]*file, api.Kind) {
	files, k := row(d.Files())
	if k != api.OK {
		return nil, k
	}
	for i, f := range files {
		load := f.loadAhead
		if i == len(files)-1 {
			load = f.loadLast
		}
		if k := load(d); k != api.OK {
			return nil, k
		}
		if i > 0 && !f.follows(files[i-1]) {
			return nil, api.BadForm
		}
	}
	return files, api.OK
}

// row is files of those numbers, which rise, in the order in which a log begins
// them: round, with 0 behind the highest one.
func row(numbers []int) ([]*file, api.Kind) {
	if len(numbers) >= api.MaxFiles {
		return nil, api.BadForm
	}
	start := 0 // the log's first file is the one behind a gap
	for i := 1; i < len(numbers); i++ {
		if numbers[i] != numbers[i-1]+1 {
			start = i
		}
	}
	var files []*file
	for i := range numbers {
		f := &file{number: numbers[(start+i)%len(numbers)]}
		if i > 0 && f.number != (files[i-1].number+1)%api.MaxFiles {
			return nil, api.BadForm
		}
		files = append(files, f)
	}
	return files, api.OK
}

// head is a record's number as a file begins with it, the highest byte first.
func head(n uint64) []byte {
	b := make([]byte, headSize)
	for i := range b {
		b[len(b)-1-i] = byte(n)
		n >>= 8
	}
	return b
}

// number is the one that head made the bytes of.
func number(b []byte) (uint64, api.Kind) {
	if len(b) != headSize {
		return 0, api.BadForm
	}
	var n uint64
	for _, one := range b {
		n = n<<8 | uint64(one)
	}
	if n > math.MaxInt { // First could not tell it
		return 0, api.BadForm
	}
	return n, api.OK
}
