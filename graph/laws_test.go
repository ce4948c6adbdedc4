package graph_test

import (
	"math/rand"
	"slices"
	"sync"
	"testing"

	"allonge/graph"
)

// table tells for each pair of nodes whether something leads from the first one to the second one.
type table [][]bool

func newTable(n int) table {
	t := make(table, n)
	for v := range t {
		t[v] = make([]bool, n)
	}
	return t
}

// steps tells where an edge leads.
func steps(n int, edges [][2]int) table {
	t := newTable(n)
	for _, e := range edges {
		t[e[0]][e[1]] = true
	}
	return t
}

// walks tells where a walk leads: the closure of what the edges say.
func walks(n int, edges [][2]int) table {
	t := steps(n, edges)
	for v := range n {
		t[v][v] = true
	}
	for mid := range n {
		for a := range n {
			for b := range n {
				t[a][b] = t[a][b] || t[a][mid] && t[mid][b]
			}
		}
	}
	return t
}

// after tells where one gets from a node by a further step after those that a table tells of.
func (t table) after(step table) table {
	next := newTable(len(t))
	for a := range t {
		for b := range t {
			for c := range t {
				next[a][c] = next[a][c] || t[a][b] && step[b][c]
			}
		}
	}
	return next
}

// closed reports whether something leads from a node to itself.
func (t table) closed() bool {
	for v := range t {
		if t[v][v] {
			return true
		}
	}
	return false
}

// orderOf tells what Order returns, by the definition: it tries all lists, the least ones first.
func orderOf(step table, placed []int) ([]int, bool) {
	n := len(step)
	if len(placed) == n {
		return placed, true
	}
	for v := range n {
		if slices.Contains(placed, v) || !isFree(step, placed, v) {
			continue
		}
		if order, ok := orderOf(step, append(slices.Clone(placed), v)); ok {
			return order, true
		}
	}
	return nil, false
}

// isFree reports whether all edges to v lead from nodes that are placed.
func isFree(step table, placed []int, v int) bool {
	for w := range step {
		if step[w][v] && !slices.Contains(placed, w) {
			return false
		}
	}
	return true
}

// cycleOf tells what Cycle returns, by the definition: it goes through all walks of different nodes that begin with their least one.
func cycleOf(step table) []int {
	var best []int
	var walk func(nodes []int)
	walk = func(nodes []int) {
		last := nodes[len(nodes)-1]
		if step[last][nodes[0]] && (best == nil || len(nodes) < len(best) || len(nodes) == len(best) && slices.Compare(nodes, best) < 0) {
			best = slices.Clone(nodes)
		}
		for v := nodes[0] + 1; v < len(step); v++ {
			if step[last][v] && !slices.Contains(nodes, v) {
				walk(append(slices.Clone(nodes), v))
			}
		}
	}
	for v := range step {
		walk([]int{v})
	}
	return best
}

// groupsOf tells what Groups returns, by the definition.
func groupsOf(walk table) [][]int {
	var groups [][]int
	for v := range walk {
		var group []int
		for w := range walk {
			if walk[v][w] && walk[w][v] {
				group = append(group, w)
			}
		}
		if group[0] == v {
			groups = append(groups, group)
		}
	}
	return groups
}

// checkAll checks the answers about a right graph against the definitions.
func checkAll(t *testing.T, n int, edges [][2]int) {
	t.Helper()
	step, walk := steps(n, edges), walks(n, edges)
	for from := range n {
		checkReach(t, n, edges, from, walk[from])
	}
	order, ok := orderOf(step, nil)
	checkOrder(t, n, edges, order, ok)
	checkCycle(t, n, edges, cycleOf(step))
	checkGroups(t, n, edges, groupsOf(walk))
}

// dice makes graphs by chance, always the same ones.
type dice struct{ *rand.Rand }

func newDice(seed int64) dice {
	return dice{rand.New(rand.NewSource(seed))}
}

// edges returns up to most edges between n nodes, in any order, some of them more than once.
func (d dice) edges(n, most int) [][2]int {
	var l [][2]int
	for range d.Intn(most + 1) {
		if len(l) > 0 && d.Intn(8) == 0 {
			l = append(l, l[d.Intn(len(l))])
		} else {
			l = append(l, [2]int{d.Intn(n), d.Intn(n)})
		}
	}
	return l
}

// sloped returns edges of which most lead to a greater node of a shuffled list, so that cycles are rare and long.
func (d dice) sloped(n, most int) [][2]int {
	rank := d.Perm(n)
	l := d.edges(n, most)
	for i, e := range l {
		if rank[e[0]] >= rank[e[1]] && d.Intn(12) > 0 {
			l[i] = [2]int{e[1], e[0]}
		}
	}
	return slices.DeleteFunc(l, func(e [2]int) bool { return e[0] == e[1] && d.Intn(10) > 0 })
}

// P6.1 to P6.4: all graphs of up to three nodes, and those of four nodes without edges from a node to itself.
func TestSmallGraphs(t *testing.T) {
	for n := range 5 {
		var pairs [][2]int
		for a := range n {
			for b := range n {
				if a != b || n < 4 {
					pairs = append(pairs, [2]int{a, b})
				}
			}
		}
		for set := range 1 << len(pairs) {
			var edges [][2]int
			for i, e := range pairs {
				if set>>i&1 == 1 {
					edges = append(edges, e)
				}
			}
			checkAll(t, n, edges)
		}
	}
}

// P6.1 to P6.4: graphs of five to eight nodes.
func TestByDefinition(t *testing.T) {
	d := newDice(6)
	for range 6000 {
		n := 5 + d.Intn(4)
		checkAll(t, n, d.edges(n, 3*n))
		checkAll(t, n, d.sloped(n, 4*n))
	}
}

// P6.6: what is reached has the node from, is closed under edges, and is the least such set.
func TestLeastSet(t *testing.T) {
	d := newDice(66)
	for range 300 {
		n := 1 + d.Intn(300)
		edges := d.edges(n, 2*n)
		from := d.Intn(n)
		reached := graph.Reach(n, edges, from)
		if len(reached) != n || !reached[from] {
			t.Fatalf("Reach(%d, %v, %d) = %v, without the node itself", n, edges, from, reached)
		}
		for _, e := range edges {
			if reached[e[0]] && !reached[e[1]] {
				t.Errorf("Reach(%d, %v, %d) has %d, but not %d", n, edges, from, e[0], e[1])
			}
		}
		least := marks(n, from)
		for range n {
			for _, e := range edges {
				least[e[1]] = least[e[1]] || least[e[0]]
			}
		}
		checkReach(t, n, edges, from, least)
	}
}

// P6.7: there is an order exactly if there is no cycle; edges lead on in the order.
func TestOrderOrCycle(t *testing.T) {
	d := newDice(67)
	orders := 0
	for range 400 {
		n := 1 + d.Intn(300)
		edges := d.sloped(n, d.Intn(6)*n/2)
		order, ok := graph.Order(n, edges)
		cycle := graph.Cycle(n, edges)
		if ok != (len(cycle) == 0) {
			t.Errorf("Order(%d, %v) = %v, %v, but Cycle = %v", n, edges, order, ok, cycle)
		}
		if !ok {
			checkIsCycle(t, n, edges, cycle)
			continue
		}
		orders++
		place := make([]int, n)
		for i, v := range order {
			place[v] = i
		}
		sorted := slices.Clone(order)
		slices.Sort(sorted)
		if !slices.Equal(sorted, upTo(n)) {
			t.Errorf("Order(%d, %v) = %v, not each node once", n, edges, order)
		}
		for _, e := range edges {
			if place[e[0]] >= place[e[1]] {
				t.Errorf("Order(%d, %v) = %v, against the edge %v", n, edges, order, e)
			}
		}
	}
	if orders < 50 || orders > 350 {
		t.Errorf("%d of 400 graphs have orders", orders)
	}
}

func checkIsCycle(t *testing.T, n int, edges [][2]int, cycle []int) {
	t.Helper()
	for _, e := range round(cycle...) {
		if !slices.Contains(edges, e) {
			t.Errorf("Cycle(%d, %v) = %v, without the edge %v", n, edges, cycle, e)
		}
	}
	if sorted := slices.Sorted(slices.Values(cycle)); sorted[0] != cycle[0] || len(slices.Compact(sorted)) != len(cycle) {
		t.Errorf("Cycle(%d, %v) = %v, not of different nodes from the least one on", n, edges, cycle)
	}
}

// P6.7: no closed walk is shorter than the cycle.
func TestClosedWalks(t *testing.T) {
	d := newDice(677)
	for range 300 {
		n := 1 + d.Intn(20)
		edges := d.sloped(n, 3*n)
		cycle := graph.Cycle(n, edges)
		step := steps(n, edges)
		for walk, length := step, 1; length <= n; walk, length = walk.after(step), length+1 {
			if walk.closed() {
				if length != len(cycle) {
					t.Errorf("Cycle(%d, %v) = %v, but a closed walk has length %d", n, edges, cycle, length)
				}
				break
			}
		}
	}
}

// groupOf returns, for each node, the number of its group.
func groupOf(t *testing.T, n int, groups [][]int) []int {
	t.Helper()
	number := make([]int, n)
	count := 0
	for i, group := range groups {
		count += len(group)
		for _, v := range group {
			number[v] = i + 1
		}
	}
	if count != n || slices.Contains(number, 0) {
		t.Errorf("%d nodes in groups %v, want each of %d once", count, groups, n)
	}
	for i := range number {
		number[i]--
	}
	return number
}

// P6.8: each node is in one group, and there is no cycle between groups.
func TestBetweenGroups(t *testing.T) {
	d := newDice(68)
	for range 300 {
		n := 1 + d.Intn(300)
		edges := d.sloped(n, 3*n)
		groups := graph.Groups(n, edges)
		number := groupOf(t, n, groups)
		var between [][2]int
		for _, e := range edges {
			if a, b := number[e[0]], number[e[1]]; a != b {
				between = append(between, [2]int{a, b})
			}
		}
		if _, ok := graph.Order(len(groups), between); !ok {
			t.Errorf("Groups(%d, %v) = %v, with a cycle between them", n, edges, groups)
		}
	}
}

// P6.9: with a further edge more is reached, groups are only joined, and a shortest cycle becomes no longer.
func TestFurtherEdge(t *testing.T) {
	d := newDice(69)
	for range 60 {
		n := 2 + d.Intn(60)
		all := d.sloped(n, 4*n)
		for k := range all {
			less, more := all[:k:k], all[:k+1]
			from := d.Intn(n)
			before, now := graph.Reach(n, less, from), graph.Reach(n, more, from)
			for v := range n {
				if before[v] && !now[v] {
					t.Errorf("Reach(%d, %v, %d) loses %d with the last edge", n, more, from, v)
				}
			}
			number := groupOf(t, n, graph.Groups(n, more))
			for _, group := range graph.Groups(n, less) {
				if slices.ContainsFunc(group, func(v int) bool { return number[v] != number[group[0]] }) {
					t.Errorf("Groups(%d, %v) parts %v with the last edge", n, more, group)
				}
			}
			was, is := len(graph.Cycle(n, less)), len(graph.Cycle(n, more))
			if was > 0 && (is == 0 || is > was) {
				t.Errorf("Cycle(%d, %v) has %d nodes, %d without the last edge", n, more, is, was)
			}
		}
	}
}

// P6.5, P4: the order of the edges, repetitions of them and earlier calls play no part.
func TestPure(t *testing.T) {
	d := newDice(65)
	for range 200 {
		n := 1 + d.Intn(40)
		edges := d.sloped(n, 3*n)
		order, ok := graph.Order(n, edges)
		cycle, groups, reached := graph.Cycle(n, edges), graph.Groups(n, edges), graph.Reach(n, edges, n/2)
		other := slices.Concat(edges, edges)
		d.Shuffle(len(other), func(i, j int) { other[i], other[j] = other[j], other[i] })
		graph.Groups(n+1, d.edges(n+1, n))
		checkOrder(t, n, other, order, ok)
		checkCycle(t, n, other, cycle)
		checkGroups(t, n, other, groups)
		checkReach(t, n, other, n/2, reached)
	}
}

// P6.5: calls at the same time do not disturb each other.
func TestTogether(t *testing.T) {
	var workers sync.WaitGroup
	for seed := range int64(8) {
		workers.Go(func() {
			d := newDice(seed)
			for range 100 {
				n := 4 + d.Intn(3)
				checkAll(t, n, d.edges(n, 2*n))
			}
		})
	}
	workers.Wait()
}

// P3: the edges are neither changed nor kept, and what lies beyond them is not read.
func TestArgumentsStay(t *testing.T) {
	d := newDice(3)
	for range 200 {
		n := 2 + d.Intn(20)
		edges := d.sloped(n, 3*n)
		long := append(slices.Clone(edges), [2]int{0, 0}, [2]int{1, -1})
		copied := slices.Clone(long)
		short := long[:len(edges)]
		order, ok := graph.Order(n, short)
		cycle, groups, reached := graph.Cycle(n, short), graph.Groups(n, short), graph.Reach(n, short, 1)
		if !slices.Equal(long, copied) {
			t.Errorf("%v were changed to %v", copied, long)
		}
		clear(long)
		checkOrder(t, n, edges, order, ok)
		checkCycle(t, n, edges, cycle)
		checkGroups(t, n, edges, groups)
		checkReach(t, n, edges, 1, reached)
	}
}

// P3: results share memory neither with each other nor with what is kept.
func TestResultsAreFresh(t *testing.T) {
	edges := slices.Concat(round(0, 1), along(1, 2), round(2, 3), along(3, 4, 5))
	groups := graph.Groups(6, edges)
	for i, group := range groups {
		for _, v := range append(group, 9, 9, 9)[:len(group)] {
			if v == 9 {
				t.Errorf("group %d of %v overlaps with an earlier one", i, groups)
			}
		}
	}
	if want := [][]int{{0, 1}, {2, 3}, {4}, {5}}; !sameGroups(groups, want) {
		t.Errorf("Groups = %v after appending, want %v", groups, want)
	}
	for _, group := range groups {
		clear(group)
	}
	checkGroups(t, 6, edges, [][]int{{0, 1}, {2, 3}, {4}, {5}})
	clear(graph.Cycle(6, edges))
	checkCycle(t, 6, edges, []int{0, 1})
	clear(graph.Reach(6, edges, 2))
	checkReach(t, 6, edges, 2, marks(6, 2, 3, 4, 5))
	order, _ := graph.Order(3, along(2, 1, 0))
	clear(order)
	checkOrder(t, 3, along(2, 1, 0), []int{2, 1, 0}, true)
}
