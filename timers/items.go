package timers

// item is a key that is due, and its place in the order, so that it is found
// there when it is set anew, or deleted.
type item struct {
	key, at uint64
	place   int
}

// items are laid out as container/heap does it, which calls their methods.
type items []*item

// Len is how many there are.
func (l items) Len() int { return len(l) }

// Less tells whether the one at i is due ahead of the one at j. No two are
// alike in it, as no two have one key: what comes out hangs on no layout.
func (l items) Less(i, j int) bool {
	a, b := l[i], l[j]
	return a.at < b.at || a.at == b.at && a.key < b.key
}

// Swap has the two change places, and know it.
func (l items) Swap(i, j int) {
	l[i], l[j] = l[j], l[i]
	l[i].place, l[j].place = i, j
}

// Push lays an item behind the others.
func (l *items) Push(x any) {
	if i, is := x.(*item); is {
		i.place = len(*l)
		*l = append(*l, i)
	}
}

// Pop takes the hindmost item off, and leaves nothing of it in the spare room.
func (l *items) Pop() any {
	end := len(*l) - 1
	last := (*l)[end]
	(*l)[end] = nil
	*l = (*l)[:end]
	return last
}
