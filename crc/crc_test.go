package crc_test

import (
	"bytes"
	"hash/crc32"
	"math"
	"testing"

	"winnow/api"
	"winnow/crc"
)

// mixed gives n bytes, always the same ones, without an order that a sum could
// be blind to.
func mixed(n int, seed uint32) []byte {
	b := make([]byte, n)
	for i := range b {
		seed = seed*1664525 + 1013904223
		b[i] = byte(seed >> 24)
	}
	return b
}

// sums has sums that come of bytes, and ends of the range that a caller may
// hand in all the same.
func sums() []uint32 {
	return []uint32{0, 1, 0x80000000, 0xedb88320, 0xcbf43926, 0xdeadbeef, math.MaxUint32}
}

// behind is what P102 says of a join, word for word: the sum of what had a, and
// that of nothing, each with n bytes 0 behind it, and b.
func behind(a, b uint32, n int) uint32 {
	noughts := make([]byte, n)
	return crc.More(a, noughts) ^ crc.Sum(noughts) ^ b
}

func TestP101Sum(t *testing.T) {
	known := []struct {
		text string
		sum  uint32
	}{
		{"", 0},
		{"\x00", 0xd202ef8d},
		{"\xff", 0xff000000},
		{"a", 0xe8b7be43},
		{"abc", 0x352441c2},
		{"123456789", 0xcbf43926},
		{"\x00\x00\x00\x00", 0x2144df1c},
		{"\xff\xff\xff\xff", 0xffffffff},
		{"The quick brown fox jumps over the lazy dog", 0x414fa339},
	}
	for _, c := range known {
		if got := crc.Sum([]byte(c.text)); got != c.sum {
			t.Errorf("Sum of %q: %08x, not %08x", c.text, got, c.sum)
		}
	}
	if got := crc.Sum(nil); got != 0 {
		t.Errorf("Sum of nil: %08x, not 0", got)
	}
}

func TestP101SumIsThatOfZipFiles(t *testing.T) {
	for c := range 256 {
		b := []byte{byte(c)}
		if got, want := crc.Sum(b), crc32.ChecksumIEEE(b); got != want {
			t.Errorf("Sum of byte %02x: %08x, not %08x", c, got, want)
		}
	}
	for _, n := range []int{2, 3, 4, 5, 31, 32, 33, 255, 256, 257, api.MaxFrame, api.MaxFile, api.MaxFile + 1} {
		b := mixed(n, uint32(n))
		if got, want := crc.Sum(b), crc32.ChecksumIEEE(b); got != want {
			t.Errorf("Sum of %d bytes: %08x, not %08x", n, got, want)
		}
	}
}

func TestP101MoreAtEveryParting(t *testing.T) {
	b := mixed(100, 7)
	want := crc32.ChecksumIEEE(b)
	for i := range len(b) + 1 {
		if got := crc.More(crc.Sum(b[:i]), b[i:]); got != want {
			t.Errorf("More, parted at %d: %08x, not %08x", i, got, want)
		}
	}
	var got uint32
	for _, c := range b {
		got = crc.More(got, []byte{c})
	}
	if got != want {
		t.Errorf("More, byte by byte: %08x, not %08x", got, want)
	}
}

func TestP101MoreOfAnySum(t *testing.T) {
	b := mixed(40, 3)
	for _, s := range sums() {
		if got := crc.More(s, nil); got != s {
			t.Errorf("More of %08x and nil: %08x", s, got)
		}
		if got := crc.More(s, []byte{}); got != s {
			t.Errorf("More of %08x and no bytes: %08x", s, got)
		}
		if got, want := crc.More(s, b), crc32.Update(s, crc32.IEEETable, b); got != want {
			t.Errorf("More of %08x: %08x, not %08x", s, got, want)
		}
	}
}

func TestP101BytesStayAsTheyWere(t *testing.T) {
	room := mixed(64, 5)
	was := bytes.Clone(room)
	first := crc.Sum(room[8:24])
	more := crc.More(first, room[24:40])
	if !bytes.Equal(room, was) {
		t.Error("bytes that were handed in were changed")
	}
	if crc.Sum(room[8:24]) != first || crc.More(first, room[24:40]) != more {
		t.Error("a second call answers something else")
	}
}

func TestP102JoinAtEveryParting(t *testing.T) {
	for _, n := range []int{0, 1, 2, 9, 70} {
		b := mixed(n, uint32(n)+1)
		want := crc.Sum(b)
		for i := range n + 1 {
			got, k := crc.Join(crc.Sum(b[:i]), crc.Sum(b[i:]), n-i)
			if got != want || k != api.OK {
				t.Errorf("Join of %d bytes, parted at %d: %08x %d, not %08x 0", n, i, got, k, want)
			}
		}
	}
}

func TestP102JoinOfLongBytes(t *testing.T) {
	first := crc.Sum(mixed(50, 1))
	for _, n := range []int{255, 256, 257, api.MaxFrame, 0xaaaaa, api.MaxFile - 1, api.MaxFile} {
		b := mixed(n, uint32(n))
		got, k := crc.Join(first, crc.Sum(b), n)
		if want := crc.More(first, b); got != want || k != api.OK {
			t.Errorf("Join with %d bytes: %08x %d, not %08x 0", n, got, k, want)
		}
	}
}

func TestP102JoinOfAnySums(t *testing.T) {
	for _, a := range sums() {
		for _, b := range sums() {
			for _, n := range []int{0, 1, 2, 3, 4, 5, 100, 4097} {
				got, k := crc.Join(a, b, n)
				if want := behind(a, b, n); got != want || k != api.OK {
					t.Errorf("Join of %08x %08x %d: %08x %d, not %08x 0", a, b, n, got, k, want)
				}
			}
		}
	}
}

func TestP102JoinWithNothing(t *testing.T) {
	for _, a := range sums() {
		if got, k := crc.Join(a, 0, 0); got != a || k != api.OK {
			t.Errorf("Join of %08x and nothing: %08x %d", a, got, k)
		}
		// No bytes have the sum 0 only, but b counts whatever it is.
		if got, k := crc.Join(a, 0xff, 0); got != a^0xff || k != api.OK {
			t.Errorf("Join of %08x, ff and no bytes: %08x %d, not %08x 0", a, got, k, a^0xff)
		}
	}
}

func TestP102JoinAtTheLimit(t *testing.T) {
	const a, b = 0xcbf43926, 0xdeadbeef
	got, k := crc.Join(a, b, api.MaxFile)
	if want := behind(a, b, api.MaxFile); got != want || k != api.OK {
		t.Errorf("Join at MaxFile: %08x %d, not %08x 0", got, k, want)
	}
	for _, n := range []int{-1, -2, -api.MaxFile, math.MinInt, api.MaxFile + 1, 2 * api.MaxFile, math.MaxInt} {
		if got, k := crc.Join(a, b, n); got != 0 || k != api.BadArg {
			t.Errorf("Join with n of %d: %08x %d, not 0 and BadArg", n, got, k)
		}
	}
}

// turn adds the bits of mask to b, the lowest one at the place at, counted as
// the register takes the bits in: of each byte the lowest first. (Counted from
// the highest one, bits within 32 places can lie 40 apart for the register, and
// some of those, 05 8f f4 6a 70, are not seen by any sum of this kind.)
func turn(b []byte, at int, mask uint32) {
	for i := range 32 {
		if mask>>i&1 == 1 {
			b[(at+i)/8] ^= 1 << ((at + i) % 8)
		}
	}
}

func TestP103OneBitIsSeen(t *testing.T) {
	for _, n := range []int{1, 2, 9, 64, 500} {
		b := mixed(n, uint32(n))
		was := crc.Sum(b)
		for at := range 8 * n {
			turn(b, at, 1)
			if crc.Sum(b) == was {
				t.Errorf("bit %d of %d bytes was turned: not seen", at, n)
			}
			turn(b, at, 1)
		}
	}
}

func TestP103OneBitOfManyIsSeen(t *testing.T) {
	b := mixed(api.MaxFrame, 2)
	was := crc.Sum(b)
	for _, at := range []int{0, 7, 8, 4 * api.MaxFrame, 8*api.MaxFrame - 8, 8*api.MaxFrame - 1} {
		turn(b, at, 1)
		if crc.Sum(b) == was {
			t.Errorf("bit %d of MaxFrame bytes was turned: not seen", at)
		}
		turn(b, at, 1)
	}
}

func TestP103BitsWithin32PlacesAreSeen(t *testing.T) {
	masks := []uint32{3, 0x80000001, 0xedb88320, 0xffffffff, 0xff, 0xffff, 0x55555555}
	for i := range 32 {
		masks = append(masks, 1<<i|1)
	}
	seed := uint32(1)
	for range 100 {
		seed = seed*1664525 + 1013904223
		masks = append(masks, seed|1)
	}
	b := mixed(24, 4)
	was := crc.Sum(b)
	for _, mask := range masks {
		for at := range 8*len(b) - 31 {
			turn(b, at, mask)
			if crc.Sum(b) == was {
				t.Errorf("bits %08x at %d were turned: not seen", mask, at)
			}
			turn(b, at, mask)
		}
	}
}
