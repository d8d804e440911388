package buffer

import (
	"maps"
	"slices"

	"winnow/api"
	"winnow/timers"
)

// waiting is the traces that are there, and when each is due, by the heap. The
// heap is embedded here, not in Buffer: what it promotes would be everybody's
// there, who could have a trace due that has no span, or a trace wait for ever.
type waiting struct {
	timers.Heap
	traces map[uint64]trace
}

// trace is what is there of one.
type trace struct {
	spans []api.Span // as they came
	over  bool
}

// has tells whether the trace has a span of that Id.
func (t *trace) has(id uint64) bool {
	return slices.ContainsFunc(t.spans, func(s api.Span) bool { return s.Id == id })
}

// lay has s be the last span, if there are fewer than most; else the trace is
// over.
func (t *trace) lay(s api.Span, most int) api.Kind {
	if len(t.spans) >= most {
		t.over = true
		return api.Full
	}
	t.spans = append(t.spans, s)
	return api.OK
}

// due is the traces due at now or before, in order. The heap tells more than
// the first one only if that one goes, so they go, and come back.
func (w *waiting) due(now uint64) []uint64 {
	var l, times []uint64
	for id, at, is := w.Next(); is && at <= now; id, at, is = w.Next() {
		l, times = append(l, id), append(times, at)
		w.Del(id)
	}
	for i, id := range l {
		w.Set(id, times[i])
	}
	return l
}

// delay has the trace be due at until, if it is there.
func (w *waiting) delay(id, until uint64) bool {
	_, is := w.At(id)
	if is {
		w.Set(id, until)
	}
	return is
}

// take is the trace, which goes.
func (w *waiting) take(id uint64) trace {
	t := w.traces[id]
	w.Del(id)
	delete(w.traces, id)
	return t
}

// all is the traces, rising.
func (w *waiting) all() []uint64 { return slices.Sorted(maps.Keys(w.traces)) }
