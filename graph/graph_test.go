package graph_test

import (
	"math"
	"slices"
	"testing"

	"allonge/api"
	"allonge/graph"
)

// Numbers that are no nodes, whatever the graph.
var noNodes = []int{-1, -2, -300, api.MaxGraph, api.MaxGraph + 1, 1 << 32, 1 << 62, math.MinInt, math.MinInt + 1, math.MaxInt - 1, math.MaxInt}

func checkReach(t *testing.T, n int, edges [][2]int, from int, want []bool) {
	t.Helper()
	if got := graph.Reach(n, edges, from); !slices.Equal(got, want) {
		t.Errorf("Reach(%d, %v, %d) = %v, want %v", n, edges, from, got, want)
	}
}

func checkOrder(t *testing.T, n int, edges [][2]int, want []int, wantOK bool) {
	t.Helper()
	if got, ok := graph.Order(n, edges); !slices.Equal(got, want) || ok != wantOK {
		t.Errorf("Order(%d, %v) = %v, %v, want %v, %v", n, edges, got, ok, want, wantOK)
	}
}

func checkCycle(t *testing.T, n int, edges [][2]int, want []int) {
	t.Helper()
	if got := graph.Cycle(n, edges); !slices.Equal(got, want) {
		t.Errorf("Cycle(%d, %v) = %v, want %v", n, edges, got, want)
	}
}

func checkGroups(t *testing.T, n int, edges [][2]int, want [][]int) {
	t.Helper()
	if got := graph.Groups(n, edges); !sameGroups(got, want) {
		t.Errorf("Groups(%d, %v) = %v, want %v", n, edges, got, want)
	}
}

func sameGroups(a, b [][]int) bool {
	return slices.EqualFunc(a, b, slices.Equal[[]int])
}

// marks returns, for n nodes, which ones are among those that are named.
func marks(n int, nodes ...int) []bool {
	l := make([]bool, n)
	for _, v := range nodes {
		l[v] = true
	}
	return l
}

// alone returns n groups of one node each.
func alone(n int) [][]int {
	var l [][]int
	for v := range n {
		l = append(l, []int{v})
	}
	return l
}

// upTo returns the nodes of a graph of n nodes, ascending.
func upTo(n int) []int {
	l := make([]int, n)
	for v := range l {
		l[v] = v
	}
	return l
}

// along returns the edges from each node of a list to the one after it.
func along(nodes ...int) [][2]int {
	var edges [][2]int
	for i := 1; i < len(nodes); i++ {
		edges = append(edges, [2]int{nodes[i-1], nodes[i]})
	}
	return edges
}

// round returns the edges of a cycle.
func round(nodes ...int) [][2]int {
	return along(append(slices.Clone(nodes), nodes[0])...)
}

// descending returns the nodes of a graph of n nodes, the greatest one first.
func descending(n int) []int {
	l := upTo(n)
	slices.Reverse(l)
	return l
}

// P6.1: what walks lead to, and the node itself.
func TestReach(t *testing.T) {
	example := [][2]int{{3, 1}, {1, 2}, {2, 1}, {0, 4}}
	for from, want := range [][]int{{0, 4}, {1, 2}, {1, 2}, {1, 2, 3}, {4}} {
		checkReach(t, 5, example, from, marks(5, want...))
	}
	for _, c := range []struct {
		n     int
		edges [][2]int
		from  int
		want  []int
	}{
		{1, nil, 0, []int{0}}, {1, [][2]int{}, 0, []int{0}}, {1, [][2]int{{0, 0}}, 0, []int{0}},
		{2, nil, 1, []int{1}}, {2, [][2]int{{0, 0}}, 1, []int{1}}, {2, along(0, 1), 0, []int{0, 1}}, {2, along(0, 1), 1, []int{1}}, {2, along(1, 0), 0, []int{0}}, {2, along(1, 0), 1, []int{0, 1}},
		{3, [][2]int{{0, 2}, {0, 2}, {0, 2}}, 0, []int{0, 2}}, {3, round(0, 2, 1), 1, []int{0, 1, 2}},
		{4, along(3, 1, 2), 3, []int{1, 2, 3}}, {4, slices.Concat(along(0, 1, 3), along(0, 2, 3)), 0, []int{0, 1, 2, 3}}, {4, slices.Concat(along(0, 1, 3), along(0, 2, 3)), 2, []int{2, 3}},
		{6, slices.Concat(round(0, 1, 2), along(2, 3), round(3, 4, 5)), 1, []int{0, 1, 2, 3, 4, 5}}, {6, slices.Concat(round(0, 1, 2), along(2, 3), round(3, 4, 5)), 4, []int{3, 4, 5}},
	} {
		checkReach(t, c.n, c.edges, c.from, marks(c.n, c.want...))
	}
	for from := range 300 {
		checkReach(t, 300, along(descending(300)...), from, marks(300, upTo(from+1)...))
	}
}

// P6.1: nothing is reached from what is no node.
func TestReachFromNoNode(t *testing.T) {
	for _, n := range []int{0, 1, 2, 5, 300} {
		for _, from := range append(slices.Clone(noNodes), n, n+1) {
			checkReach(t, n, nil, from, nil)
			checkReach(t, n, along(upTo(n)...), from, nil)
		}
	}
}

// P6.2: edges lead on, and of the nodes that are possible the least one comes first.
func TestOrder(t *testing.T) {
	for _, c := range []struct {
		n     int
		edges [][2]int
		want  []int
	}{
		{5, [][2]int{{3, 1}, {1, 2}, {0, 4}}, []int{0, 3, 1, 2, 4}},
		{0, nil, nil}, {0, [][2]int{}, nil}, {1, nil, []int{0}}, {2, nil, []int{0, 1}}, {3, nil, []int{0, 1, 2}}, {300, nil, upTo(300)},
		{2, along(0, 1), []int{0, 1}}, {2, along(1, 0), []int{1, 0}}, {2, [][2]int{{1, 0}, {1, 0}, {1, 0}}, []int{1, 0}},
		{3, along(2, 0), []int{1, 2, 0}}, {3, along(1, 0), []int{1, 0, 2}}, {3, along(2, 1), []int{0, 2, 1}}, {3, [][2]int{{1, 0}, {2, 0}}, []int{1, 2, 0}}, {3, along(2, 1, 0), []int{2, 1, 0}},
		{4, along(3, 0), []int{1, 2, 3, 0}}, {4, slices.Concat(along(3, 0), along(2, 1)), []int{2, 1, 3, 0}}, {4, slices.Concat(along(3, 2, 1, 0), along(3, 2)), []int{3, 2, 1, 0}},
		{4, slices.Concat(along(3, 1, 0), along(3, 2, 0)), []int{3, 1, 2, 0}}, {5, [][2]int{{4, 0}, {4, 1}, {3, 1}, {0, 2}}, []int{3, 4, 0, 1, 2}},
		{300, along(upTo(300)...), upTo(300)}, {300, along(descending(300)...), descending(300)},
	} {
		checkOrder(t, c.n, c.edges, c.want, true)
	}
}

// P6.2, P6.7: a graph with a cycle, wherever it lies, has no order.
func TestNoOrder(t *testing.T) {
	for _, c := range []struct {
		n     int
		edges [][2]int
	}{
		{5, [][2]int{{3, 1}, {1, 2}, {2, 1}, {0, 4}}},
		{1, [][2]int{{0, 0}}}, {1, [][2]int{{0, 0}, {0, 0}}}, {3, [][2]int{{2, 2}}}, {3, [][2]int{{0, 1}, {1, 2}, {1, 1}}}, {300, [][2]int{{299, 299}}},
		{2, round(0, 1)}, {3, round(0, 1, 2)}, {3, round(2, 1, 0)}, {4, slices.Concat(along(0, 1, 2, 3), along(3, 2))}, {4, slices.Concat(round(0, 1), along(1, 2, 3))},
		{300, round(upTo(300)...)}, {300, round(descending(300)...)},
	} {
		checkOrder(t, c.n, c.edges, nil, false)
	}
}

// P6.3: the shortest cycle, from its least node on.
func TestCycle(t *testing.T) {
	example := [][2]int{{3, 1}, {1, 2}, {2, 1}, {0, 4}}
	for _, c := range []struct {
		n     int
		edges [][2]int
		want  []int
	}{
		{5, example, []int{1, 2}}, {5, append(slices.Clone(example), [2]int{4, 0}), []int{0, 4}},
		{1, [][2]int{{0, 0}}, []int{0}}, {2, [][2]int{{1, 1}}, []int{1}}, {2, [][2]int{{1, 1}, {0, 1}, {1, 0}}, []int{1}}, {3, [][2]int{{2, 2}, {1, 1}, {0, 2}}, []int{1}}, {300, [][2]int{{299, 299}}, []int{299}},
		{2, round(0, 1), []int{0, 1}}, {2, slices.Concat(round(0, 1), round(1, 0)), []int{0, 1}}, {3, round(1, 2, 0), []int{0, 1, 2}}, {3, round(2, 1, 0), []int{0, 2, 1}}, {4, round(3, 2, 1), []int{1, 3, 2}},
		{300, round(upTo(300)...), upTo(300)}, {300, round(descending(300)...), append([]int{0}, descending(300)[:299]...)},
	} {
		checkCycle(t, c.n, c.edges, c.want)
		slices.Reverse(c.edges)
		checkCycle(t, c.n, c.edges, c.want)
	}
	for _, n := range []int{0, 1, 2, 300} {
		checkCycle(t, n, nil, nil)
		checkCycle(t, n, along(upTo(n)...), nil)
		checkCycle(t, n, along(descending(n)...), nil)
	}
	checkCycle(t, 4, slices.Concat(along(0, 1, 3), along(0, 2, 3), along(0, 3)), nil)
}

// P6.3: a shorter cycle comes before those of lesser nodes, and of cycles of one length the least list counts.
func TestWhichCycle(t *testing.T) {
	for _, c := range []struct {
		n     int
		edges [][2]int
		want  []int
	}{
		{5, slices.Concat(round(0, 1, 2), round(3, 4)), []int{3, 4}}, {4, slices.Concat(round(0, 1, 2), [][2]int{{3, 3}}), []int{3}}, {6, slices.Concat(round(0, 5, 1), round(2, 4, 3)), []int{0, 5, 1}},
		{4, slices.Concat(round(0, 3), round(1, 2)), []int{0, 3}}, {5, slices.Concat(round(3, 4), round(1, 2), along(2, 3)), []int{1, 2}},
		{3, slices.Concat(round(0, 1), round(0, 2)), []int{0, 1}}, {3, slices.Concat(round(0, 2), round(1, 2)), []int{0, 2}},
		// The second node decides, then the third one, and so on.
		{5, slices.Concat(round(0, 1, 4), round(0, 2, 3)), []int{0, 1, 4}}, {5, slices.Concat(round(0, 3, 1), round(0, 2, 4)), []int{0, 2, 4}}, {4, slices.Concat(round(0, 1, 3), round(0, 1, 2)), []int{0, 1, 2}},
		{5, slices.Concat(round(0, 1, 2, 4), round(0, 1, 2, 3)), []int{0, 1, 2, 3}}, {6, slices.Concat(round(0, 3, 1, 5), round(0, 3, 2, 4)), []int{0, 3, 1, 5}},
		// The least neighbour lies on longer cycles only, or on none.
		{6, slices.Concat(round(0, 1, 2, 3), round(0, 4, 5)), []int{0, 4, 5}}, {5, slices.Concat(round(0, 3, 4), along(0, 1, 2), along(3, 1), along(3, 2)), []int{0, 3, 4}},
		// A shortest cycle through a lesser node is longer than one that leaves it out.
		{6, slices.Concat(round(0, 1, 2, 3), round(1, 5, 4)), []int{1, 5, 4}}, {4, slices.Concat(round(0, 1, 2), round(2, 3)), []int{2, 3}}, {4, slices.Concat(round(0, 3, 2), round(1, 3, 2)), []int{0, 3, 2}},
	} {
		checkCycle(t, c.n, c.edges, c.want)
		slices.Reverse(c.edges)
		checkCycle(t, c.n, c.edges, c.want)
	}
}

// P6.4: who reach each other are together, ascending, in the order of the least nodes.
func TestGroups(t *testing.T) {
	for _, c := range []struct {
		n     int
		edges [][2]int
		want  [][]int
	}{
		{5, [][2]int{{3, 1}, {1, 2}, {2, 1}, {0, 4}}, [][]int{{0}, {1, 2}, {3}, {4}}},
		{0, nil, nil}, {1, nil, alone(1)}, {1, [][2]int{{0, 0}}, alone(1)}, {3, [][2]int{{1, 1}, {1, 1}}, alone(3)}, {300, nil, alone(300)},
		{2, along(0, 1), alone(2)}, {2, along(1, 0), alone(2)}, {2, round(0, 1), [][]int{{0, 1}}}, {2, slices.Concat(round(0, 1), round(0, 1)), [][]int{{0, 1}}},
		{4, round(3, 1), [][]int{{0}, {1, 3}, {2}}}, {4, round(3, 0), [][]int{{0, 3}, {1}, {2}}}, {6, slices.Concat(round(5, 0), round(4, 1), round(3, 2)), [][]int{{0, 5}, {1, 4}, {2, 3}}},
		{6, slices.Concat(round(5, 3, 1), round(4, 2, 0)), [][]int{{0, 2, 4}, {1, 3, 5}}}, {6, slices.Concat(round(5, 3, 1), round(4, 2, 0), along(1, 2)), [][]int{{0, 2, 4}, {1, 3, 5}}}, {6, slices.Concat(round(5, 3, 1), round(4, 2, 0), round(1, 2)), [][]int{upTo(6)}},
		{4, slices.Concat(round(0, 1), round(1, 2), round(2, 3)), [][]int{upTo(4)}}, {4, slices.Concat(along(0, 1, 3), along(0, 2, 3)), alone(4)}, {4, slices.Concat(along(0, 1, 3), along(0, 2, 3), along(3, 0)), [][]int{upTo(4)}}, {4, slices.Concat(along(0, 1, 3), along(0, 2, 3), along(3, 1)), [][]int{{0}, {1, 3}, {2}}},
		{300, along(upTo(300)...), alone(300)}, {300, along(descending(300)...), alone(300)}, {300, round(descending(300)...), [][]int{upTo(300)}},
	} {
		checkGroups(t, c.n, c.edges, c.want)
		slices.Reverse(c.edges)
		checkGroups(t, c.n, c.edges, c.want)
	}
}

// checkNothing checks that a graph that is not right has no answers.
func checkNothing(t *testing.T, n int, edges [][2]int) {
	t.Helper()
	for _, from := range append([]int{0, 1, n - 1, n}, noNodes...) {
		if got := graph.Reach(n, edges, from); len(got) > 0 {
			t.Errorf("Reach(%d, %d edges, %d) gives %d nodes, want none", n, len(edges), from, len(got))
		}
	}
	if got, ok := graph.Order(n, edges); len(got) > 0 || ok {
		t.Errorf("Order(%d, %d edges) gives %d nodes, %v, want none, false", n, len(edges), len(got), ok)
	}
	if got := graph.Cycle(n, edges); len(got) > 0 {
		t.Errorf("Cycle(%d, %d edges) = %v, want none", n, len(edges), got)
	}
	if got := graph.Groups(n, edges); len(got) > 0 {
		t.Errorf("Groups(%d, %d edges) gives %d groups, want none", n, len(edges), len(got))
	}
}

// P6.1 to P6.4, P1: a graph with too many nodes or edges, fewer than no nodes, or an edge that begins or ends at no node.
func TestNotRight(t *testing.T) {
	for _, n := range []int{-1, -2, -300, 301, 302, 2000, 1 << 32, 1 << 62, math.MinInt, math.MinInt + 1, math.MaxInt - 1, math.MaxInt} {
		checkNothing(t, n, nil)
		checkNothing(t, n, [][2]int{{0, 0}})
		checkNothing(t, n, [][2]int{{0, 1}, {1, 0}})
	}
	for _, n := range []int{0, 1, 2, 5, 300} {
		for _, v := range append(slices.Clone(noNodes), n, n+1) {
			checkNothing(t, n, [][2]int{{v, v}})
			checkNothing(t, n, [][2]int{{0, v}})
			checkNothing(t, n, [][2]int{{v, 0}})
			if n > 1 {
				checkNothing(t, n, [][2]int{{0, 1}, {1, 0}, {0, v}})
				checkNothing(t, n, [][2]int{{v, 1}, {0, 1}, {1, 0}})
			}
		}
	}
	for _, n := range []int{0, 1, 2, 300} {
		checkNothing(t, n, make([][2]int, 2001))
		checkNothing(t, n, make([][2]int, 5000))
	}
}

// P6.1 to P6.4: as many nodes and edges as a graph may have.
func TestLimits(t *testing.T) {
	edges := make([][2]int, 2000)
	checkReach(t, 300, edges, 299, marks(300, 299))
	checkOrder(t, 300, edges, nil, false)
	checkCycle(t, 300, edges, []int{0})
	checkGroups(t, 300, edges, alone(300))
	for i := range edges {
		edges[i] = [2]int{(i + 1) % 300, i % 300}
	}
	checkReach(t, 300, edges, 150, marks(300, upTo(300)...))
	checkOrder(t, 300, edges, nil, false)
	checkCycle(t, 300, edges, append([]int{0}, descending(300)[:299]...))
	checkGroups(t, 300, edges, [][]int{upTo(300)})
	for i := range edges {
		edges[i] = [2]int{299 - i%299, 298 - i%299}
	}
	checkReach(t, 300, edges, 150, marks(300, upTo(151)...))
	checkOrder(t, 300, edges, descending(300), true)
	checkCycle(t, 300, edges, nil)
	checkGroups(t, 300, edges, alone(300))
}
