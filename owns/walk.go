package owns

import "slices"

// deepest is how far a walk calls itself: a chain may be as long as its table, and longer than there is room for calls.
const deepest = 1 << 10

// reach answers all places that i leads to by one step or more; next tells where one step leads.
func reach(i int, next func(int) []int) map[int]struct{} {
	reached := map[int]struct{}{}
	later := []int{i}
	var walk func(i, deep int)
	walk = func(i, deep int) {
		if deep == deepest {
			later = append(later, i)
			return
		}
		for _, j := range next(i) {
			if _, is := reached[j]; !is {
				reached[j] = struct{}{}
				walk(j, deep+1)
			}
		}
	}
	for len(later) > 0 {
		last := len(later) - 1
		from := later[last]
		later = later[:last]
		walk(from, 0)
	}
	return reached
}

// stop is a place on a way, with where it leads that was not tried yet.
type stop struct {
	at   int
	left []int
}

// order answers the starts, and all that they lead to, each once, and behind all that it leads to but what leads back to it.
func order(starts []int, next func(int) []int) []int {
	var out []int
	var way []stop
	seen := map[int]struct{}{}
	enter := func(i int) {
		if _, is := seen[i]; !is {
			seen[i] = struct{}{}
			way = append(way, stop{i, next(i)})
		}
	}
	for _, start := range starts {
		enter(start)
		for len(way) > 0 {
			top := &way[len(way)-1]
			if len(top.left) == 0 {
				out = append(out, top.at)
				way = way[:len(way)-1]
				continue
			}
			to := top.left[0]
			top.left = top.left[1:]
			enter(to)
		}
	}
	return out
}

// circles answers which of the n places lead to themselves, by one step or more; back tells from where next leads to one.
func circles(n int, next, back func(int) []int) map[int]struct{} {
	out := map[int]struct{}{}
	done := map[int]struct{}{}
	left := func(i int) []int {
		return slices.DeleteFunc(slices.Clone(back(i)), func(j int) bool { _, is := done[j]; return is })
	}
	// Backwards through the order, whoever leads to a place without being led back to is done ahead of it: what still leads to it is its circle.
	for _, i := range slices.Backward(order(places(n), next)) {
		if _, is := done[i]; is {
			continue
		}
		circle := reach(i, left)
		done[i] = struct{}{}
		for j := range circle {
			done[j], out[j] = struct{}{}, struct{}{}
		}
	}
	return out
}

// places answers all numbers from 0 to one below n.
func places(n int) []int {
	out := make([]int, n)
	for i := range out {
		out[i] = i
	}
	return out
}
