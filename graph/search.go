package graph

import "slices"

// ahead returns, for each node, the nodes to which edges lead from it, ascending.
func ahead(n int, edges [][2]int) [][]int {
	return neighbours(n, edges, 0)
}

// behind returns, for each node, the nodes from which edges lead to it, ascending.
func behind(n int, edges [][2]int) [][]int {
	return neighbours(n, edges, 1)
}

// neighbours returns, for each node, the other ends of the edges that have it as their end of the index end, ascending.
func neighbours(n int, edges [][2]int, end int) [][]int {
	near := make([][]int, n)
	for _, e := range edges {
		near[e[end]] = append(near[e[end]], e[1-end])
	}
	for _, l := range near {
		slices.Sort(l)
	}
	return near
}

// search looks for what can be reached from one node after the other, the nearest nodes first.
type search struct {
	near  [][]int // by node: where one gets from it in one step
	steps []int   // by node: of how many nodes a shortest walk to it consists, 0 if there is none
	queue []int   // what has been reached, in this order
}

// newSearch returns a search that has not looked for anything yet.
func newSearch(near [][]int) *search {
	return &search{near: near, steps: make([]int, len(near)), queue: make([]int, 0, len(near))}
}

// from looks for what can be reached from a node.
func (s *search) from(start int) {
	clear(s.steps)
	s.steps[start] = 1
	s.queue = append(s.queue[:0], start)
	for i := 0; i < len(s.queue); i++ {
		v := s.queue[i]
		for _, w := range s.near[v] {
			if s.steps[w] == 0 {
				s.steps[w] = s.steps[v] + 1
				s.queue = append(s.queue, w)
			}
		}
	}
}

// reached reports whether a node can be reached from the one that was searched from last.
func (s *search) reached(v int) bool {
	return s.steps[v] > 0
}

// shortestThrough returns, of the shortest cycles through v, the least list that begins with v. The nodes next lie ahead of each node, and the search goes back.
func shortestThrough(v int, next [][]int, back *search) []int {
	back.from(v)
	length := 0
	for _, w := range next[v] {
		if k := back.steps[w]; k > 0 && (length == 0 || k < length) {
			length = k
		}
	}
	if length == 0 {
		return nil
	}
	cycle := []int{v}
	// As each step gets nearer to v, no node comes twice.
	for left := length; left > 1; left-- {
		last := cycle[len(cycle)-1]
		i := slices.IndexFunc(next[last], func(w int) bool { return back.steps[w] == left })
		cycle = append(cycle, next[last][i])
	}
	return cycle
}
