package replica

import (
	"winnow/api"
	"winnow/disk"
	"winnow/register"
)

// A record has the trace, and N and Node of two ballots, then the verdict.
const (
	numbers    = 5
	numberSize = 8
	recordSize = numbers*numberSize + 1
)

// record is the trace's register as a record.
func record(trace uint64, reg register.Reg) []byte {
	all := [numbers]uint64{trace, reg.Promised.N, reg.Promised.Node, reg.Taken.N, reg.Taken.Node}
	b := make([]byte, 0, recordSize)
	for _, n := range all {
		for shift := 8 * (numberSize - 1); shift >= 0; shift -= 8 {
			b = append(b, byte(n>>shift))
		}
	}
	return append(b, byte(reg.V))
}

// parted is the trace and the register that the record tells.
func parted(rec []byte) (trace uint64, reg register.Reg, k api.Kind) {
	if len(rec) != recordSize {
		return 0, register.Reg{}, api.BadForm
	}
	var all [numbers]uint64
	for i, b := range rec[:numbers*numberSize] {
		all[i/numberSize] = all[i/numberSize]<<8 | uint64(b)
	}
	reg = register.Reg{
		Promised: api.Ballot{N: all[1], Node: all[2]},
		Taken:    api.Ballot{N: all[3], Node: all[4]},
		V:        api.Verdict(rec[numbers*numberSize]),
	}
	if all[0] == 0 || !register.Right(reg) {
		return 0, register.Reg{}, api.BadForm
	}
	return all[0], reg, api.OK
}

// told is the registers that the records tell: of a trace that of the last one.
func told(recs [][]byte) (map[uint64]register.Reg, api.Kind) {
	regs := map[uint64]register.Reg{}
	for _, rec := range recs {
		trace, reg, k := parted(rec)
		if k != api.OK {
			return nil, k
		}
		regs[trace] = reg
	}
	return regs, api.OK
}

// twin is a disk that has the same in its files; d itself, if that can't be
// read.
func twin(d *disk.Disk) *disk.Disk {
	if d == nil || d.Down() {
		return d
	}
	same, _ := disk.New(api.MaxFile) // no disk has more room
	for _, number := range d.Files() {
		b, _ := d.Read(number)
		same.Append(number, b)
	}
	return same
}
