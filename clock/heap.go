package clock

import "slices"

// timer is one that runs: at which tick it is over, and its name.
type timer struct{ end, name int }

// before: is a over ahead of b? Of those that one tick ends the lesser name comes first, as Tick tells them.
func before(a, b timer) bool {
	if a.end != b.end {
		return a.end < b.end
	}
	return a.name < b.name
}

// heap is timers none of which is before the one above it, which stands at half its index; so the first one is before all others.
type heap []timer

func above(i int) int { return (i - 1) / 2 }

func (h *heap) push(t timer) {
	*h = append(*h, t)
	h.rise(len(*h) - 1)
}

// remove takes t away, if it is there.
func (h *heap) remove(t timer) {
	i := slices.IndexFunc(*h, func(other timer) bool { return other == t })
	if i < 0 {
		return
	}
	last := len(*h) - 1
	(*h)[i] = (*h)[last]
	*h = (*h)[:last]
	if i < last { // the last one may belong on either side of where it stands now
		h.rise(i)
		h.sink(i)
	}
}

// rise changes the timer at i with those above it that it is before.
func (h heap) rise(i int) {
	for i > 0 && before(h[i], h[above(i)]) {
		h[i], h[above(i)] = h[above(i)], h[i]
		i = above(i)
	}
}

// sink changes the timer at i with those below it that are before it.
func (h heap) sink(i int) {
	for {
		first := h.first(i)
		if first == i {
			return
		}
		h[i], h[first] = h[first], h[i]
		i = first
	}
}

// first: where the first one stands of the timer at i and the two below it.
func (h heap) first(i int) int {
	first := i
	for below := 2*i + 1; below <= 2*i+2 && below < len(h); below++ {
		if before(h[below], h[first]) {
			first = below
		}
	}
	return first
}
