package frame_test

import (
	"bytes"
	"encoding/binary"
	"hash/crc32"
	"math"
	"slices"
	"testing"

	"winnow/api"
	"winnow/frame"
)

// mixed gives n bytes, always the same ones, without an order.
func mixed(n int, seed uint32) []byte {
	b := make([]byte, n)
	for i := range b {
		seed = seed*1664525 + 1013904223
		b[i] = byte(seed >> 24)
	}
	return b
}

// framed is the frame of data as the chapter has it, whatever length is told.
func framed(length uint32, data []byte) []byte {
	b := binary.LittleEndian.AppendUint32(nil, length)
	b = append(b, data...)
	return binary.LittleEndian.AppendUint32(b, crc32.ChecksumIEEE(b))
}

// whole is the frame of data.
func whole(data []byte) []byte { return framed(uint32(len(data)), data) }

// lengths has those at which something could change: none, those whose number
// needs another byte, the limit.
func lengths() []int {
	return []int{0, 1, 2, 3, 4, 5, 8, 127, 128, 255, 256, 257, 4095, 4096, api.MaxFrame - 1, api.MaxFrame}
}

// some has the data of a few frames, of no bytes also, and the frames behind
// one another.
func some() (l [][]byte, b []byte) {
	l = [][]byte{[]byte("a"), {}, []byte("frames"), {0}, mixed(40, 9), {}, {255, 255, 255, 255}}
	for _, data := range l {
		b = append(b, whole(data)...)
	}
	return l, b
}

func mustPut(t *testing.T, dst, data []byte) []byte {
	t.Helper()
	b, k := frame.Put(dst, data)
	if k != api.OK {
		t.Fatalf("Put of %d bytes: %d, not 0", len(data), k)
	}
	return b
}

func mustCut(t *testing.T, b []byte) (data, rest []byte) {
	t.Helper()
	data, rest, k := frame.Cut(b)
	if k != api.OK {
		t.Fatalf("Cut of %d bytes: %d, not 0", len(b), k)
	}
	return data, rest
}

// cutFails holds Cut of b to that kind, and to nothing beside it.
func cutFails(t *testing.T, what string, b []byte, want api.Kind) {
	t.Helper()
	data, rest, k := frame.Cut(b)
	if k != want || len(data) != 0 || len(rest) != 0 {
		t.Errorf("Cut of %s: %d bytes, %d behind, kind %d, not 0, 0, %d", what, len(data), len(rest), k, want)
	}
}

// allTells holds All of b to these data, bytes and kind.
func allTells(t *testing.T, what string, b []byte, want [][]byte, most int, kind api.Kind) {
	t.Helper()
	l, used, k := frame.All(b)
	if !slices.EqualFunc(l, want, bytes.Equal) || used != most || k != kind {
		t.Errorf("All of %s: %q %d %d, not %q %d %d", what, l, used, k, want, most, kind)
	}
}

func TestP201PutOfKnownData(t *testing.T) {
	known := []struct {
		data  string
		frame []byte
	}{
		{"", []byte{0, 0, 0, 0, 0x1c, 0xdf, 0x44, 0x21}},
		{"a", []byte{1, 0, 0, 0, 'a', 0x63, 0x8f, 0xf7, 0xc1}},
		{"abc", []byte{3, 0, 0, 0, 'a', 'b', 'c', 0x33, 0x5d, 0xe1, 0x66}},
	}
	for _, c := range known {
		if got := mustPut(t, nil, []byte(c.data)); !bytes.Equal(got, c.frame) {
			t.Errorf("Put of %q: % x, not % x", c.data, got, c.frame)
		}
	}
	if got := mustPut(t, nil, nil); !bytes.Equal(got, known[0].frame) {
		t.Errorf("Put of nil: % x, not % x", got, known[0].frame)
	}
}

func TestP201PutBehindWhatIsThere(t *testing.T) {
	_, frames := some()
	for _, dst := range [][]byte{nil, {}, {7}, []byte("no frame at all"), frames, mixed(3*api.MaxFrame, 1)} {
		for _, n := range lengths() {
			data := mixed(n, uint32(n))
			want := slices.Concat(dst, whole(data))
			if got := mustPut(t, dst, data); !bytes.Equal(got, want) {
				t.Errorf("Put of %d bytes behind %d: not dst and the frame", n, len(dst))
			}
		}
	}
}

func TestP201PutOfTooMuch(t *testing.T) {
	for _, n := range []int{api.MaxFrame + 1, api.MaxFrame + 2, 2 * api.MaxFrame, 1 << 16, api.MaxFile} {
		for _, dst := range [][]byte{nil, []byte("dst")} {
			got, k := frame.Put(dst, mixed(n, 1))
			if len(got) != 0 || k != api.TooLarge {
				t.Errorf("Put of %d bytes behind %d: %d bytes, kind %d, not 0 and TooLarge", n, len(dst), len(got), k)
			}
		}
	}
}

func TestP201PutLeavesItsArguments(t *testing.T) {
	for _, n := range []int{0, 1, 30, api.MaxFrame, api.MaxFrame + 1} {
		room := mixed(64+2*n, 3)
		was := bytes.Clone(room)
		dst, data := room[:16], room[32:32+n]
		got, _ := frame.Put(dst, data)
		if !bytes.Equal(room, was) {
			t.Fatalf("Put of %d bytes changed what was handed in, or its spare room", n)
		}
		for i := range got[:cap(got)] {
			got[:cap(got)][i] ^= 255
		}
		if !bytes.Equal(room, was) {
			t.Fatalf("Put of %d bytes answered no new memory", n)
		}
	}
}

func TestP201PutKeepsNothing(t *testing.T) {
	dst, data := []byte("dst"), []byte("data")
	got := mustPut(t, dst, data)
	want := bytes.Clone(got)
	clear(dst)
	clear(data)
	if !bytes.Equal(got, want) {
		t.Error("what Put answered changed with what had been handed in")
	}
}

func TestP201PutOfBytesThatDstHas(t *testing.T) {
	room := mixed(40, 6)
	parts := [][2][]byte{
		{room[:10], room[:10]},
		{room[:10], room[10:30]}, // in dst's spare room
		{room[:10], room[5:20]},
		{room[:0], room},
		{room[20:30], room[:25]},
	}
	for i, p := range parts {
		want := slices.Concat(p[0], whole(p[1]))
		if got := mustPut(t, p[0], p[1]); !bytes.Equal(got, want) {
			t.Errorf("Put %d of bytes that lie in dst: % x, not % x", i, got, want)
		}
	}
}

func TestP202CutOfOneFrame(t *testing.T) {
	for _, n := range lengths() {
		data := mixed(n, uint32(n))
		for _, behind := range [][]byte{nil, {0}, []byte("behind"), whole([]byte("next")), mixed(api.MaxFrame, 5)} {
			got, rest := mustCut(t, append(whole(data), behind...))
			if !bytes.Equal(got, data) || !bytes.Equal(rest, behind) {
				t.Errorf("Cut of %d bytes and %d behind: not these", n, len(behind))
			}
		}
	}
}

func TestP202CutOfFewerThanFourBytes(t *testing.T) {
	for _, b := range [][]byte{nil, {}, {0}, {255}, {0, 0}, {255, 255}, {0, 0, 0}, {1, 0, 0}, {255, 255, 255}} {
		cutFails(t, "a few bytes", b, api.Short)
	}
}

func TestP202CutOfAFrameCutOff(t *testing.T) {
	for _, n := range []int{0, 1, 2, 9, 300} {
		b := whole(mixed(n, 2))
		for i := range b {
			cutFails(t, "a frame cut off", b[:i], api.Short)
		}
	}
	b := whole(mixed(api.MaxFrame, 2))
	for _, i := range []int{0, 3, 4, 5, api.MaxFrame, api.MaxFrame + 4, api.MaxFrame + 7} {
		cutFails(t, "the longest frame cut off", b[:i], api.Short)
	}
}

func TestP202CutLeavesTheSumTillTheFrameIsThere(t *testing.T) {
	b := whole([]byte("turned"))
	b[5] ^= 1
	for i := range b {
		cutFails(t, "a turned frame cut off", b[:i], api.Short)
	}
	cutFails(t, "a turned frame", b, api.BadFrame)
}

func TestP202CutOfALengthAboveTheLimit(t *testing.T) {
	longs := []uint32{api.MaxFrame + 1, api.MaxFrame + 2, 1 << 14, 1 << 16, 1 << 24, 1<<24 | 1,
		math.MaxInt32 - 7, math.MaxInt32, 1 << 31, 1<<31 | 1, math.MaxUint32 - 7, math.MaxUint32 - 3, math.MaxUint32}
	for _, n := range longs {
		four := binary.LittleEndian.AppendUint32(nil, n)
		for i := range four {
			cutFails(t, "a beginning of a length above MaxFrame", four[:i], api.Short)
		}
		cutFails(t, "a length above MaxFrame", four, api.BadFrame)
		cutFails(t, "a length above MaxFrame and some bytes", append(four, mixed(20, 1)...), api.BadFrame)
	}
	for _, n := range longs[:4] {
		cutFails(t, "a whole frame above MaxFrame", whole(mixed(int(n), 1)), api.BadFrame)
	}
	four := binary.LittleEndian.AppendUint32(nil, api.MaxFrame)
	cutFails(t, "the length MaxFrame", four, api.Short)
}

func TestP202CutOfAnotherSum(t *testing.T) {
	data := []byte("data")
	right := whole(data)
	body := right[:len(right)-4]
	sums := [][]byte{
		binary.BigEndian.AppendUint32(nil, crc32.ChecksumIEEE(body)),
		binary.LittleEndian.AppendUint32(nil, crc32.ChecksumIEEE(data)), // without the length's bytes
		binary.LittleEndian.AppendUint32(nil, ^crc32.ChecksumIEEE(body)),
		{0, 0, 0, 0},
		{255, 255, 255, 255},
	}
	for _, sum := range sums {
		cutFails(t, "another sum", slices.Concat(body, sum), api.BadFrame)
		cutFails(t, "another sum, and a frame behind", slices.Concat(body, sum, right), api.BadFrame)
	}
	cutFails(t, "8 bytes 0", make([]byte, 8), api.BadFrame)
	cutFails(t, "a length that is 1 less", framed(3, data), api.BadFrame)
	cutFails(t, "a length that is 1 more", framed(5, data), api.Short)
	cutFails(t, "a length that is the highest byte first", slices.Concat([]byte{0, 0, 0, 1}, right[4:]), api.BadFrame)
}

// mine turns every byte of each of the lists, spare room too, and tells of the
// first one in which another list's bytes were turned.
func mine(t *testing.T, in []byte, out [][]byte) {
	t.Helper()
	was := bytes.Clone(in)
	for i, l := range out {
		others := slices.Concat(out[:i:i], out[i+1:])
		before := slices.Concat(others...)
		for j := range l[:cap(l)] {
			l[:cap(l)][j] ^= 255
		}
		if !bytes.Equal(in, was) || !bytes.Equal(slices.Concat(others...), before) {
			t.Errorf("list %d of %d is no memory of its own", i, len(out))
		}
	}
}

func TestP202CutAnswersNewMemory(t *testing.T) {
	for _, n := range []int{0, 1, 50, api.MaxFrame} {
		room := append(whole(mixed(n, 8)), mixed(60, 1)...)
		was := bytes.Clone(room)
		b := room[:n+8+30] // 30 more are its spare room
		data, rest := mustCut(t, b)
		if !bytes.Equal(room, was) {
			t.Fatal("Cut changed what was handed in, or its spare room")
		}
		mine(t, room, [][]byte{data, rest})

		data, rest = mustCut(t, b)
		clear(room)
		if !bytes.Equal(data, was[4:4+n]) || !bytes.Equal(rest, was[n+8:n+38]) {
			t.Error("what Cut answered changed with what had been handed in")
		}
	}
}

func TestP203AllOfNone(t *testing.T) {
	allTells(t, "nil", nil, nil, 0, api.OK)
	allTells(t, "no bytes", []byte{}, nil, 0, api.OK)
}

func TestP203AllOfAList(t *testing.T) {
	want, b := some()
	allTells(t, "some frames", b, want, len(b), api.OK)
	used := 0
	for i, data := range want {
		allTells(t, "the first frames", b[:used], want[:i], used, api.OK)
		used += len(data) + 8
	}
	for _, n := range lengths() {
		data := mixed(n, uint32(n))
		allTells(t, "one frame", whole(data), [][]byte{data}, n+8, api.OK)
	}
}

func TestP203AllTillWhatIsNoFrame(t *testing.T) {
	want, b := some()
	turned := whole([]byte("turned"))
	turned[4] ^= 1
	ends := []struct {
		end  []byte
		kind api.Kind
	}{
		{[]byte{0}, api.Short},
		{[]byte{255, 255, 255}, api.Short},
		{[]byte{0, 0, 0, 0}, api.Short},
		{[]byte{255, 255, 255, 255}, api.BadFrame},
		{[]byte{1, 32, 0, 0}, api.BadFrame}, // MaxFrame and 1
		{[]byte{0, 32, 0, 0}, api.Short},
		{make([]byte, 8), api.BadFrame},
		{turned, api.BadFrame},
		{turned[:len(turned)-1], api.Short},
		{whole(make([]byte, api.MaxFrame+1)), api.BadFrame},
		{slices.Concat(turned, b), api.BadFrame}, // what is behind doesn't count
	}
	for i, c := range ends {
		allTells(t, "no frame", c.end, nil, 0, c.kind)
		if l, used, k := frame.All(slices.Concat(b, c.end)); !slices.EqualFunc(l, want, bytes.Equal) || used != len(b) || k != c.kind {
			t.Errorf("All of frames and end %d: %d, %d bytes, kind %d, not %d, %d, %d", i, len(l), used, k, len(want), len(b), c.kind)
		}
		_, _, cut := frame.Cut(c.end)
		if cut != c.kind {
			t.Errorf("Cut of end %d: %d, not %d as All", i, cut, c.kind)
		}
	}
}

func TestP203AllOfMany(t *testing.T) {
	const many = 100000
	empty := whole(nil)
	l, used, k := frame.All(bytes.Repeat(empty, many))
	if len(l) != many || used != many*len(empty) || k != api.OK {
		t.Errorf("All of %d frames: %d, %d bytes, kind %d", many, len(l), used, k)
	}
}

func TestP203AllAnswersNewMemory(t *testing.T) {
	want, b := some()
	end := len(b)
	room := append(b, mixed(60, 1)...)
	was := bytes.Clone(room)
	l, _, _ := frame.All(room[:end])
	if !bytes.Equal(room, was) {
		t.Fatal("All changed what was handed in, or its spare room")
	}
	mine(t, room, l)

	l, _, _ = frame.All(room[:end])
	clear(room)
	if !slices.EqualFunc(l, want, bytes.Equal) {
		t.Error("what All answered changed with what had been handed in")
	}
}

func TestP204WhatWasPutIsCut(t *testing.T) {
	for _, n := range lengths() {
		data := mixed(n, 1)
		b := mustPut(t, mustPut(t, nil, data), []byte("behind"))
		got, rest := mustCut(t, b)
		if !bytes.Equal(got, data) {
			t.Errorf("Cut of what was put of %d bytes: other ones", n)
		}
		last, rest := mustCut(t, rest)
		if string(last) != "behind" || len(rest) != 0 {
			t.Errorf("Cut of what was put behind %d bytes: %q, %d behind", n, last, len(rest))
		}
		allTells(t, "what was put", b, [][]byte{data, last}, len(b), api.OK)
	}
}

func TestP204WhatIsCutWasPut(t *testing.T) {
	seen := 0
	for seed := range uint32(2000) {
		b := mixed(12, seed)
		b[0], b[1], b[2], b[3] = b[0]%6, 0, 0, 0
		if seed%2 == 0 {
			copy(b, whole(b[4:4+b[0]%5]))
		}
		data, rest, k := frame.Cut(b)
		if k != api.OK {
			continue
		}
		seen++
		if again := append(mustPut(t, nil, data), rest...); !bytes.Equal(again, b) {
			t.Errorf("Cut of % x: put again it is % x", b, again)
		}
	}
	if seen < 1000 {
		t.Errorf("%d frames of 1000 were cut", seen)
	}
}

func TestP204AListCutOffAnywhere(t *testing.T) {
	var want [][]byte
	var b []byte
	l, _ := some()
	for _, data := range l {
		start := len(b)
		b = mustPut(t, b, data)
		for i := start + 1; i < len(b); i++ {
			allTells(t, "a list cut off", b[:i], want, start, api.Short)
		}
		want = append(want, data)
		allTells(t, "a list", b, want, len(b), api.OK)
	}
}

func TestP204ATurnedByteIsSeen(t *testing.T) {
	for _, n := range []int{0, 1, 5, 64} {
		b := mustPut(t, nil, mixed(n, 3))
		for at := 4; at < len(b); at++ {
			for mask := 1; mask < 256; mask++ {
				b[at] ^= byte(mask)
				if _, _, k := frame.Cut(b); k != api.BadFrame {
					t.Errorf("byte %d of %d was turned by %02x: kind %d", at, len(b), mask, k)
				}
				b[at] ^= byte(mask)
			}
		}
	}
}

func TestP204ATurnedByteOfTheLongestFrameIsSeen(t *testing.T) {
	b := mustPut(t, nil, mixed(api.MaxFrame, 3))
	for _, at := range []int{4, 5, 4000, len(b) - 6, len(b) - 5, len(b) - 4, len(b) - 3, len(b) - 2, len(b) - 1} {
		for _, mask := range []byte{1, 2, 128, 255} {
			b[at] ^= mask
			cutFails(t, "the longest frame with a turned byte", b, api.BadFrame)
			b[at] ^= mask
		}
	}
}

func TestP204ATurnedByteOfAListIsSeen(t *testing.T) {
	want, b := some()
	start := 0
	for i, data := range want {
		for at := start + 4; at < start+len(data)+8; at++ {
			b[at] ^= 16
			allTells(t, "a list with a turned byte", b, want[:i], start, api.BadFrame)
			b[at] ^= 16
		}
		start += len(data) + 8
	}
}
