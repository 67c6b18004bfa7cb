package shortest

import (
	"math"
	"slices"
	"testing"

	"transit/api"
)

const (
	least    = math.MinInt
	greatest = math.MaxInt
	heaviest = 1 << 30
)

// The chapter's definitions.

// way is a path: its nodes and its length. There is no path if there are no nodes.
type way struct {
	nodes  []int
	length int
}

// better reports whether Path prefers a to b.
func better(a, b way) bool {
	switch {
	case len(b.nodes) == 0:
		return true
	case a.length != b.length:
		return a.length < b.length
	case len(a.nodes) != len(b.nodes):
		return len(a.nodes) < len(b.nodes)
	}
	return slices.Compare(a.nodes, b.nodes) < 0
}

// longer returns w with one more edge.
func longer(w way, edge Edge) way {
	return way{append(slices.Clone(w.nodes), edge.To), w.length + edge.Weight}
}

// bestOfAll returns the best one of all paths of at most n edges from the node from to each node. A path with more than n - 1 edges has a circle, without which it is better.
func bestOfAll(n int, edges []Edge, from int) []way {
	best := make([]way, n)
	var visit func(w way)
	visit = func(w way) {
		last := w.nodes[len(w.nodes)-1]
		if better(w, best[last]) {
			best[last] = w
		}
		if len(w.nodes) > n {
			return
		}
		for _, edge := range edges {
			if edge.From == last {
				visit(longer(w, edge))
			}
		}
	}
	visit(way{nodes: []int{from}})
	return best
}

// bestByEdges returns the same for graphs with too many paths: it adds edges to paths until no path to a node becomes better.
func bestByEdges(n int, edges []Edge, from int) []way {
	best := make([]way, n)
	best[from].nodes = []int{from}
	for changed := true; changed; {
		changed = false
		for _, edge := range edges {
			if len(best[edge.From].nodes) == 0 {
				continue
			}
			if w := longer(best[edge.From], edge); better(w, best[edge.To]) {
				best[edge.To], changed = w, true
			}
		}
	}
	return best
}

// wantedComponents returns the numbers of the components.
func wantedComponents(n int, edges []Edge) []int {
	first := make([]int, n)
	for node := range first {
		first[node] = node
	}
	for range n {
		for _, edge := range edges {
			least := min(first[edge.From], first[edge.To])
			first[edge.From], first[edge.To] = least, least
		}
	}
	numbers := make([]int, n)
	for node := range n {
		for other := range first[node] {
			if first[other] == other {
				numbers[node]++
			}
		}
	}
	return numbers
}

// wantedError returns the error of the graph or of the nodes.
func wantedError(n int, edges []Edge, nodes ...int) api.Errno {
	wrong := func(node int) bool { return node < 0 || n <= node }
	switch {
	case n < 0, n > 64:
		return api.ErrRange
	case len(edges) > 4096:
		return api.ErrLimit
	}
	for _, edge := range edges {
		switch {
		case wrong(edge.From), wrong(edge.To):
			return api.ErrReference
		case edge.Weight < 0, edge.Weight > 1<<30:
			return api.ErrRange
		}
	}
	if slices.ContainsFunc(nodes, wrong) {
		return api.ErrReference
	}
	return api.OK
}

// Checks of the functions against the definitions.

// lengths returns the distances that the best paths give.
func lengths(best []way) []int {
	l := make([]int, len(best))
	for node, w := range best {
		l[node] = w.length
		if len(w.nodes) == 0 {
			l[node] = -1
		}
	}
	return l
}

// checkPath checks Path, where w is the path that it should return.
func checkPath(t *testing.T, n int, edges []Edge, from, to int, w way) {
	t.Helper()
	want := api.OK
	if len(w.nodes) == 0 {
		want = api.ErrNotFound
	}
	nodes, length, e := Path(n, edges, from, to)
	if !slices.Equal(nodes, w.nodes) || length != w.length || e != want {
		t.Fatalf("Path(%d, %v, %d, %d) = %v, %d, %d; want %v, %d, %d", n, edges, from, to, nodes, length, e, w.nodes, w.length, want)
	}
}

// checkComponents checks Components.
func checkComponents(t *testing.T, n int, edges []Edge) {
	t.Helper()
	want := wantedComponents(n, edges)
	if got, e := Components(n, edges); !slices.Equal(got, want) || e != api.OK {
		t.Fatalf("Components(%d, %v) = %v, %d; want %v", n, edges, got, e, want)
	}
}

// checkGraph checks all functions with a valid graph, for which definition returns the best paths from a node.
func checkGraph(t *testing.T, n int, edges []Edge, definition func(n int, edges []Edge, from int) []way) {
	t.Helper()
	all, e := All(n, edges)
	if len(all) != n || e != api.OK {
		t.Fatalf("All(%d, %v) = %v, %d", n, edges, all, e)
	}
	for from := range n {
		best := definition(n, edges, from)
		want := lengths(best)
		if !slices.Equal(all[from], want) {
			t.Fatalf("All(%d, %v)[%d] = %v; want %v", n, edges, from, all[from], want)
		}
		if got, e := Distances(n, edges, from); !slices.Equal(got, want) || e != api.OK {
			t.Fatalf("Distances(%d, %v, %d) = %v, %d; want %v", n, edges, from, got, e, want)
		}
		for to := range n {
			checkPath(t, n, edges, from, to, best[to])
		}
	}
	checkComponents(t, n, edges)
	checkConsequences(t, n, edges, all)
}

// checkError checks that all functions return the error for the graph, and Distances and Path for the nodes, and no other results.
func checkError(t *testing.T, n int, edges []Edge, from, to int, graph, start, both api.Errno) {
	t.Helper()
	if got, e := All(n, edges); e != graph || e != api.OK && len(got) != 0 {
		t.Fatalf("All(%d, %d edges) = %v, %d; want %d", n, len(edges), got, e, graph)
	}
	if got, e := Components(n, edges); e != graph || e != api.OK && len(got) != 0 {
		t.Fatalf("Components(%d, %d edges) = %v, %d; want %d", n, len(edges), got, e, graph)
	}
	if got, e := Distances(n, edges, from); e != start || e != api.OK && len(got) != 0 {
		t.Fatalf("Distances(%d, %d edges, %d) = %v, %d; want %d", n, len(edges), from, got, e, start)
	}
	if got, length, e := Path(n, edges, from, to); e != both || e != api.OK && (len(got) != 0 || length != 0) {
		t.Fatalf("Path(%d, %d edges, %d, %d) = %v, %d, %d; want %d", n, len(edges), from, to, got, length, e, both)
	}
}

// checkGraphError checks that all functions return the error for the graph, whatever the nodes are.
func checkGraphError(t *testing.T, n int, edges []Edge, want api.Errno) {
	t.Helper()
	for _, from := range []int{0, n - 1, -1, n, least, greatest} {
		for _, to := range []int{0, n - 1, -1, n, least, greatest} {
			checkError(t, n, edges, from, to, want, want, want)
		}
	}
}

// P12.4 and P12.5

// checkConsequences checks P12.4, and P12.5 for all pairs of nodes; all has the distances.
func checkConsequences(t *testing.T, n int, edges []Edge, all [][]int) {
	t.Helper()
	for a := range n {
		if all[a][a] != 0 {
			t.Fatalf("in (%d, %v) the distance from %d to itself is %d", n, edges, a, all[a][a])
		}
		for b := range n {
			if all[a][b] < 0 {
				continue
			}
			for c := range n {
				if all[b][c] >= 0 && (all[a][c] < 0 || all[a][c] > all[a][b]+all[b][c]) {
					t.Fatalf("in (%d, %v) the distance from %d to %d is %d; by %d it is %d + %d", n, edges, a, c, all[a][c], b, all[a][b], all[b][c])
				}
			}
		}
	}
	for _, edge := range edges {
		if d := all[edge.From][edge.To]; d < 0 || edge.Weight < d {
			t.Fatalf("in (%d, %v) the edge %v is shorter than the distance %d", n, edges, edge, d)
		}
	}
	weights := leastWeights(edges)
	for from := range n {
		for to := range n {
			checkNodes(t, n, edges, weights, from, to, all[from][to])
		}
	}
}

// leastWeights returns the least weight of the edges between two nodes.
func leastWeights(edges []Edge) map[[2]int]int {
	weights := map[[2]int]int{}
	for _, edge := range edges {
		ends := [2]int{edge.From, edge.To}
		if weight, ok := weights[ends]; !ok || edge.Weight < weight {
			weights[ends] = edge.Weight
		}
	}
	return weights
}

// checkNodes checks P12.5.
func checkNodes(t *testing.T, n int, edges []Edge, weights map[[2]int]int, from, to, distance int) {
	t.Helper()
	nodes, length, e := Path(n, edges, from, to)
	if distance < 0 {
		if e != api.ErrNotFound {
			t.Fatalf("Path(%d, %v, %d, %d) returns %d, but All no distance", n, edges, from, to, e)
		}
		return
	}
	if e != api.OK || length != distance || nodes[0] != from || nodes[len(nodes)-1] != to {
		t.Fatalf("Path(%d, %v, %d, %d) = %v, %d, %d; the distance is %d", n, edges, from, to, nodes, length, e, distance)
	}
	sum := 0
	for i, node := range nodes {
		if slices.Contains(nodes[:i], node) {
			t.Fatalf("Path(%d, %v, %d, %d) = %v has a node twice", n, edges, from, to, nodes)
		}
		if i > 0 {
			weight, ok := weights[[2]int{nodes[i-1], node}]
			if !ok {
				t.Fatalf("Path(%d, %v, %d, %d) = %v has no edge to %d", n, edges, from, to, nodes, node)
			}
			sum += weight
		}
	}
	if sum != length {
		t.Fatalf("Path(%d, %v, %d, %d) = %v, %d, but the weights are %d", n, edges, from, to, nodes, length, sum)
	}
}

// Graphs.

// graph is a graph with a name for messages.
type graph struct {
	name  string
	n     int
	edges []Edge
}

// number returns the next of some non-negative integers without a pattern that are less than limit.
func number(state *uint64, limit int) int {
	*state = *state*6364136223846793005 + 1442695040888963407
	return int(*state>>33) % limit
}

// scattered returns count edges between n nodes in an order without a pattern.
func scattered(seed, n, count int, weights []int) []Edge {
	state := uint64(seed)*1000003 + uint64(n*5000+count)
	edges := make([]Edge, count)
	for i := range edges {
		edges[i] = Edge{number(&state, n), number(&state, n), weights[number(&state, len(weights))]}
	}
	return edges
}

// shuffled returns the edges in another order, and with other numbers for the nodes.
func shuffled(seed, n int, edges []Edge) []Edge {
	state := uint64(seed) + 77
	names := make([]int, n)
	for i := range names {
		j := number(&state, i+1)
		names[i], names[j] = names[j], i
	}
	other := make([]Edge, len(edges))
	for i, edge := range edges {
		j := number(&state, i+1)
		other[i], other[j] = other[j], Edge{names[edge.From], names[edge.To], edge.Weight}
	}
	return other
}

// weightings returns lists of weights to choose from.
func weightings() [][]int {
	return [][]int{{0}, {1}, {0, 1}, {1, 2}, {0, 1, 2}, {0, 0, 0, 5}, {1, 2, 3, 4, 5, 6, 7, 8, 9}, {heaviest}, {0, heaviest}, {heaviest - 1, heaviest}, {1, heaviest}}
}

// line returns edges from each of n nodes to the next one.
func line(n int, weights ...int) []Edge {
	var edges []Edge
	for i := range n - 1 {
		edges = append(edges, Edge{i, i + 1, weights[i%len(weights)]})
	}
	return edges
}

// circle returns a line that leads back to its first node.
func circle(n int, weights ...int) []Edge {
	return append(line(n, weights...), Edge{n - 1, 0, weights[(n-1)%len(weights)]})
}

// backward returns the edges in the opposite direction.
func backward(edges []Edge) []Edge {
	var back []Edge
	for _, edge := range edges {
		back = append(back, Edge{edge.To, edge.From, edge.Weight})
	}
	return back
}

// complete returns edges between all pairs of n nodes, also from each node to itself.
func complete(n int, weights ...int) []Edge {
	var edges []Edge
	for from := range n {
		for to := range n {
			edges = append(edges, Edge{from, to, weights[len(edges)%len(weights)]})
		}
	}
	return edges
}

// grid returns edges from each of the nodes of a square to its right and lower neighbors.
func grid(side int, weights ...int) []Edge {
	var edges []Edge
	for i := range side * side {
		if i%side < side-1 {
			edges = append(edges, Edge{i, i + 1, weights[i%len(weights)]})
		}
		if i/side < side-1 {
			edges = append(edges, Edge{i, i + side, weights[i%len(weights)]})
		}
	}
	return edges
}

// layers returns edges from all nodes of a layer to all nodes of the next one, so that there are many paths with as many edges.
func layers(count, width int, weights ...int) []Edge {
	var edges []Edge
	for i := range (count - 1) * width {
		for j := range width {
			edges = append(edges, Edge{i, i/width*width + width + j, weights[len(edges)%len(weights)]})
		}
	}
	return edges
}

// shapes returns graphs of special shapes.
func shapes() []graph {
	var all []graph
	for _, w := range weightings() {
		all = append(all,
			graph{"line", 9, line(9, w...)},
			graph{"line back", 9, backward(line(9, w...))},
			graph{"lines in both directions", 9, append(line(9, w...), backward(line(9, w...))...)},
			graph{"circle", 9, circle(9, w...)},
			graph{"circles in both directions", 8, append(circle(8, w...), backward(circle(8, w...))...)},
			graph{"two circles", 10, append(circle(5, w...), shift(circle(5, w...), 5)...)},
			graph{"two circles that are joined", 10, append(append(circle(5, w...), shift(circle(5, w...), 5)...), Edge{7, 3, w[0]})},
			graph{"complete", 8, complete(8, w...)},
			graph{"grid", 16, grid(4, w...)},
			graph{"grid back", 16, backward(grid(4, w...))},
			graph{"grid in both directions", 9, append(grid(3, w...), backward(grid(3, w...))...)},
			graph{"layers", 12, layers(4, 3, w...)},
			graph{"layers back", 12, backward(layers(4, 3, w...))},
			graph{"narrow layers", 14, layers(7, 2, w...)},
			graph{"several edges", 5, append(append(circle(5, w...), circle(5, w[len(w)-1])...), circle(5, heaviest)...)},
		)
	}
	return all
}

// shift returns the edges with other nodes.
func shift(edges []Edge, by int) []Edge {
	var other []Edge
	for _, edge := range edges {
		other = append(other, Edge{edge.From + by, edge.To + by, edge.Weight})
	}
	return other
}

// permutations returns the edges in all orders.
func permutations(edges []Edge) [][]Edge {
	if len(edges) == 0 {
		return [][]Edge{nil}
	}
	var all [][]Edge
	for _, p := range permutations(edges[1:]) {
		for i := range edges {
			all = append(all, slices.Insert(slices.Clone(p), i, edges[0]))
		}
	}
	return all
}

// P12.1 (Distances, All)

func TestDistances(t *testing.T) {
	tests := []struct {
		n     int
		edges []Edge
		want  [][]int // by the node from
	}{
		{0, nil, nil},
		{0, []Edge{}, nil},
		{1, nil, [][]int{{0}}},
		{1, []Edge{{0, 0, 0}}, [][]int{{0}}},
		{1, []Edge{{0, 0, 7}}, [][]int{{0}}},
		{2, nil, [][]int{{0, -1}, {-1, 0}}},
		{2, []Edge{{0, 1, 3}}, [][]int{{0, 3}, {-1, 0}}},
		{2, []Edge{{1, 0, 3}}, [][]int{{0, -1}, {3, 0}}},
		{2, []Edge{{0, 1, 0}}, [][]int{{0, 0}, {-1, 0}}},
		{2, []Edge{{0, 1, heaviest}, {1, 0, heaviest - 1}}, [][]int{{0, heaviest}, {heaviest - 1, 0}}},
		// The first example.
		{3, []Edge{{0, 1, 5}, {1, 2, 5}, {0, 2, 10}}, [][]int{{0, 5, 10}, {-1, 0, 5}, {-1, -1, 0}}},
		// A way with more edges is shorter, as short, and longer.
		{3, []Edge{{0, 2, 10}, {0, 1, 5}, {1, 2, 4}}, [][]int{{0, 5, 9}, {-1, 0, 4}, {-1, -1, 0}}},
		{3, []Edge{{0, 2, 10}, {0, 1, 5}, {1, 2, 6}}, [][]int{{0, 5, 10}, {-1, 0, 6}, {-1, -1, 0}}},
		// Several edges, the shortest one first, in the middle and last.
		{2, []Edge{{0, 1, 3}, {0, 1, 4}, {0, 1, 5}}, [][]int{{0, 3}, {-1, 0}}},
		{2, []Edge{{0, 1, 4}, {0, 1, 3}, {0, 1, 5}}, [][]int{{0, 3}, {-1, 0}}},
		{2, []Edge{{0, 1, 5}, {0, 1, 4}, {0, 1, 3}}, [][]int{{0, 3}, {-1, 0}}},
		{2, []Edge{{0, 1, 3}, {0, 1, 3}, {1, 0, 1}, {1, 0, 0}}, [][]int{{0, 3}, {0, 0}}},
		// Edges from a node to itself do not make a way longer or shorter.
		{3, []Edge{{0, 0, 1}, {0, 1, 2}, {1, 1, 0}, {1, 2, 2}, {2, 2, 9}}, [][]int{{0, 2, 4}, {-1, 0, 2}, {-1, -1, 0}}},
		// Circles of edges of length 0.
		{4, []Edge{{0, 1, 0}, {1, 2, 0}, {2, 0, 0}, {2, 3, 0}}, [][]int{{0, 0, 0, 0}, {0, 0, 0, 0}, {0, 0, 0, 0}, {-1, -1, -1, 0}}},
		{4, []Edge{{3, 1, 4}, {0, 1, 0}, {1, 2, 0}, {2, 0, 0}}, [][]int{{0, 0, 0, -1}, {0, 0, 0, -1}, {0, 0, 0, -1}, {4, 4, 4, 0}}},
		// A node that is reached early is reached on a shorter way later, more than once.
		{5, []Edge{{0, 4, 100}, {0, 3, 50}, {0, 2, 20}, {0, 1, 1}, {1, 2, 1}, {2, 3, 1}, {3, 4, 1}}, [][]int{{0, 1, 2, 3, 4}, {-1, 0, 1, 2, 3}, {-1, -1, 0, 1, 2}, {-1, -1, -1, 0, 1}, {-1, -1, -1, -1, 0}}},
		// Two parts, of which none reaches the other one.
		{4, []Edge{{0, 2, 1}, {2, 0, 2}, {3, 1, 3}}, [][]int{{0, -1, 1, -1}, {-1, 0, -1, -1}, {2, -1, 0, -1}, {-1, 3, -1, 0}}},
		// Against the direction of the edges there is no way.
		{4, []Edge{{1, 0, 1}, {1, 2, 1}, {3, 2, 1}}, [][]int{{0, -1, -1, -1}, {1, 0, 1, -1}, {-1, -1, 0, -1}, {-1, -1, 1, 0}}},
	}
	for _, c := range tests {
		for from, want := range c.want {
			if got, e := Distances(c.n, c.edges, from); !slices.Equal(got, want) || e != api.OK {
				t.Errorf("Distances(%d, %v, %d) = %v, %d; want %v", c.n, c.edges, from, got, e, want)
			}
		}
		if got, e := All(c.n, c.edges); !slices.EqualFunc(got, c.want, slices.Equal) || e != api.OK {
			t.Errorf("All(%d, %v) = %v, %d; want %v", c.n, c.edges, got, e, c.want)
		}
		checkGraph(t, c.n, c.edges, bestOfAll)
	}
}

func TestGreatestGraphs(t *testing.T) {
	const sum = 63 * heaviest
	forward := line(64, heaviest)
	got, e := Distances(64, forward, 0)
	if e != api.OK || len(got) != 64 {
		t.Fatalf("Distances of a line = %v, %d", got, e)
	}
	for node, d := range got {
		if d != node*heaviest {
			t.Errorf("the distance to node %d is %d", node, d)
		}
	}
	nodes, length, e := Path(64, forward, 0, 63)
	if len(nodes) != 64 || length != sum || e != api.OK {
		t.Errorf("Path of a line = %v, %d, %d", nodes, length, e)
	}
	if nodes, length, e := Path(64, forward, 63, 0); len(nodes) != 0 || length != 0 || e != api.ErrNotFound {
		t.Errorf("Path against a line = %v, %d, %d", nodes, length, e)
	}
	if got, e := All(64, forward); e != api.OK || len(got) != 64 || got[0][63] != sum || got[63][0] != -1 || got[62][63] != heaviest {
		t.Errorf("All of a line = %v, %d", got, e)
	}
	// Two lines of the same nodes, of which the one is shorter by 1.
	lighter := append(slices.Clone(forward), Edge{31, 32, heaviest - 1})
	if _, length, e := Path(64, lighter, 0, 63); length != sum-1 || e != api.OK {
		t.Errorf("the length of the lighter line is %d, %d", length, e)
	}
	for _, edges := range [][]Edge{forward, lighter, backward(forward), circle(64, heaviest), circle(64, heaviest-1, heaviest), shuffled(3, 64, forward), nil} {
		checkGraph(t, 64, edges, bestByEdges)
	}
}

func TestManyEdges(t *testing.T) {
	for _, w := range weightings() {
		edges := complete(64, w...)
		if len(edges) != 4096 {
			t.Fatal(len(edges))
		}
		for _, edges := range [][]Edge{edges, shuffled(len(w), 64, edges)} {
			checkSome(t, 64, edges)
		}
		checkGraph(t, 3, scattered(9, 3, 4096, w), bestByEdges)
	}
	checkGraph(t, 1, make([]Edge, 4096), bestByEdges)
	// Every edge makes the way to the last node shorter, and the last one shortest.
	var falling []Edge
	for i := range 4096 {
		falling = append(falling, Edge{0, 1, 4096 - i})
	}
	if got, e := Distances(2, falling, 0); !slices.Equal(got, []int{0, 1}) || e != api.OK {
		t.Errorf("Distances with falling weights = %v, %d", got, e)
	}
	// The way to a node becomes shorter with each earlier node that it visits.
	var worst []Edge
	for from := range 64 {
		for to := from + 1; to < 64; to++ {
			worst = append(worst, Edge{from, to, 3*(to-from) - 2})
		}
	}
	checkSome(t, 64, worst)
	checkSome(t, 64, backward(worst))
}

// checkSome checks All and Components, and the other functions with a few of the nodes.
func checkSome(t *testing.T, n int, edges []Edge) {
	t.Helper()
	all, e := All(n, edges)
	if len(all) != n || e != api.OK {
		t.Fatalf("All(%d, %v) = %v, %d", n, edges, all, e)
	}
	for from := 0; from < n; from += 1 + n/5 {
		best := bestByEdges(n, edges, from)
		got, e := Distances(n, edges, from)
		if want := lengths(best); !slices.Equal(got, want) || !slices.Equal(all[from], want) || e != api.OK {
			t.Fatalf("Distances(%d, %v, %d) = %v, %d; All()[%d] = %v; want %v", n, edges, from, got, e, from, all[from], want)
		}
		for to := 0; to < n; to += 1 + len(edges)/500 {
			checkPath(t, n, edges, from, to, best[to])
		}
	}
	checkComponents(t, n, edges)
}

// P12.2 (Path)

func TestPath(t *testing.T) {
	example := []Edge{{0, 1, 5}, {1, 2, 5}, {0, 2, 10}}
	two := []Edge{{0, 2, 1}, {2, 3, 1}, {0, 1, 1}, {1, 3, 1}}
	tests := []struct {
		n        int
		edges    []Edge
		from, to int
		nodes    []int
		length   int
		e        api.Errno
	}{
		{3, example, 0, 2, []int{0, 2}, 10, api.OK},
		{3, example, 0, 1, []int{0, 1}, 5, api.OK},
		{3, example, 1, 2, []int{1, 2}, 5, api.OK},
		{3, example, 2, 2, []int{2}, 0, api.OK},
		{3, example, 2, 0, nil, 0, api.ErrNotFound},
		{3, example, 2, 1, nil, 0, api.ErrNotFound},
		{1, nil, 0, 0, []int{0}, 0, api.OK},
		{2, nil, 0, 1, nil, 0, api.ErrNotFound},
		{64, nil, 63, 63, []int{63}, 0, api.OK},
		{64, []Edge{{63, 0, 9}}, 63, 0, []int{63, 0}, 9, api.OK},
		{64, []Edge{{63, 0, 9}}, 0, 63, nil, 0, api.ErrNotFound},
		// The way from a node to itself has no edge, not even one of length 0.
		{2, []Edge{{1, 1, 0}, {0, 1, 0}, {1, 0, 0}}, 1, 1, []int{1}, 0, api.OK},
		{2, []Edge{{1, 1, 8}}, 1, 1, []int{1}, 0, api.OK},
		// More edges, but shorter.
		{4, []Edge{{0, 3, 10}, {0, 1, 3}, {1, 2, 3}, {2, 3, 3}}, 0, 3, []int{0, 1, 2, 3}, 9, api.OK},
		// As long: one, two and three edges, in this order and in another one.
		{4, []Edge{{0, 3, 9}, {0, 2, 6}, {0, 1, 3}, {1, 2, 3}, {2, 3, 3}}, 0, 3, []int{0, 3}, 9, api.OK},
		{4, []Edge{{0, 1, 3}, {1, 2, 3}, {2, 3, 3}, {0, 2, 6}}, 0, 3, []int{0, 2, 3}, 9, api.OK},
		{4, []Edge{{2, 3, 3}, {1, 2, 3}, {0, 2, 7}, {0, 1, 3}, {1, 3, 6}}, 0, 3, []int{0, 1, 3}, 9, api.OK},
		// Fewer edges count more than smaller nodes.
		{5, []Edge{{0, 1, 1}, {1, 2, 1}, {2, 4, 1}, {0, 3, 1}, {3, 4, 2}}, 0, 4, []int{0, 3, 4}, 3, api.OK},
		{5, []Edge{{0, 1, 0}, {1, 2, 0}, {2, 4, 0}, {0, 3, 0}, {3, 4, 0}}, 0, 4, []int{0, 3, 4}, 0, api.OK},
		// As many edges: the smaller node, wherever its edge is in the list.
		{4, two, 0, 3, []int{0, 1, 3}, 2, api.OK},
		{4, []Edge{two[2], two[3], two[0], two[1]}, 0, 3, []int{0, 1, 3}, 2, api.OK},
		{4, []Edge{two[3], two[0], two[1], two[2]}, 0, 3, []int{0, 1, 3}, 2, api.OK},
		{5, []Edge{{4, 3, 2}, {4, 1, 2}, {4, 2, 2}, {2, 0, 2}, {1, 0, 2}, {3, 0, 2}}, 4, 0, []int{4, 1, 0}, 4, api.OK},
		// As many edges, with different weights that add up to the same.
		{4, []Edge{{0, 1, 1}, {1, 3, 4}, {0, 2, 4}, {2, 3, 1}}, 0, 3, []int{0, 1, 3}, 5, api.OK},
		{4, []Edge{{0, 1, 4}, {1, 3, 1}, {0, 2, 1}, {2, 3, 4}}, 0, 3, []int{0, 1, 3}, 5, api.OK},
		// The first node in which the paths differ decides, though the last one is greater.
		{6, []Edge{{0, 2, 1}, {2, 3, 1}, {3, 5, 1}, {0, 1, 1}, {1, 4, 1}, {4, 5, 1}}, 0, 5, []int{0, 1, 4, 5}, 3, api.OK},
		{6, []Edge{{5, 3, 0}, {3, 1, 0}, {1, 0, 0}, {5, 2, 0}, {2, 4, 0}, {4, 0, 0}}, 5, 0, []int{5, 2, 4, 0}, 0, api.OK},
		// The smaller node leads to the end, but not on a shortest path, or not on one with the fewest edges.
		{5, []Edge{{0, 1, 1}, {1, 4, 3}, {0, 2, 1}, {2, 4, 2}}, 0, 4, []int{0, 2, 4}, 3, api.OK},
		{5, []Edge{{0, 1, 1}, {1, 3, 1}, {3, 4, 1}, {0, 2, 1}, {2, 4, 2}}, 0, 4, []int{0, 2, 4}, 3, api.OK},
		{5, []Edge{{0, 1, 0}, {1, 3, 2}, {3, 4, 1}, {0, 2, 1}, {2, 3, 1}}, 0, 4, []int{0, 1, 3, 4}, 3, api.OK},
		{4, []Edge{{0, 1, 1}, {0, 3, 1}, {3, 2, 1}}, 0, 2, []int{0, 3, 2}, 2, api.OK},
		// Several edges between the nodes: the shortest ones count, and once.
		{3, []Edge{{0, 1, 4}, {0, 1, 2}, {0, 1, 3}, {1, 2, 6}, {1, 2, 5}}, 0, 2, []int{0, 1, 2}, 7, api.OK},
		{3, []Edge{{0, 1, 1}, {0, 1, 1}, {0, 2, 9}, {1, 2, 7}, {1, 2, 8}, {0, 2, 8}}, 0, 2, []int{0, 2}, 8, api.OK},
		// A circle of length 0 on the way, and one with the end on it.
		{4, []Edge{{0, 1, 0}, {1, 0, 0}, {1, 2, 0}, {2, 1, 0}, {2, 3, 7}, {3, 2, 0}}, 0, 3, []int{0, 1, 2, 3}, 7, api.OK},
		{4, []Edge{{3, 0, 0}, {0, 1, 0}, {1, 2, 0}, {2, 0, 0}}, 3, 1, []int{3, 0, 1}, 0, api.OK},
		{4, []Edge{{3, 0, 0}, {0, 1, 0}, {1, 2, 0}, {2, 0, 0}, {0, 0, 0}, {1, 1, 0}}, 3, 2, []int{3, 0, 1, 2}, 0, api.OK},
	}
	for _, c := range tests {
		nodes, length, e := Path(c.n, c.edges, c.from, c.to)
		if !slices.Equal(nodes, c.nodes) || length != c.length || e != c.e {
			t.Errorf("Path(%d, %v, %d, %d) = %v, %d, %d; want %v, %d, %d", c.n, c.edges, c.from, c.to, nodes, length, e, c.nodes, c.length, c.e)
		}
		checkGraph(t, c.n, c.edges, bestByEdges)
	}
}

// The paths part more than once, and at each place the way by the smaller node is taken.
func TestPathsThatPartOften(t *testing.T) {
	for _, weight := range []int{0, 1, heaviest} {
		// From 0, each layer has the nodes 2i + 1 and 2i + 2; 63 is the last node.
		var edges []Edge
		for from := range 61 {
			for to := (from+1)/2*2 + 1; to < (from+1)/2*2+3; to++ {
				edges = append(edges, Edge{from, to, weight})
			}
		}
		edges = append(edges, Edge{61, 63, weight}, Edge{62, 63, weight})
		want := []int{0}
		for i := 1; i < 63; i += 2 {
			want = append(want, i)
		}
		want = append(want, 63)
		for _, list := range [][]Edge{edges, inReverse(edges)} {
			nodes, length, e := Path(64, list, 0, 63)
			if !slices.Equal(nodes, want) || length != 32*weight || e != api.OK {
				t.Errorf("Path with weight %d = %v, %d, %d; want %v", weight, nodes, length, e, want)
			}
		}
		checkSome(t, 64, edges)
		checkSome(t, 64, shuffled(weight, 64, edges))
	}
}

// inReverse returns the edges in the opposite order.
func inReverse(edges []Edge) []Edge {
	other := slices.Clone(edges)
	slices.Reverse(other)
	return other
}

// In a grid all shortest paths have as many edges, and the smallest one first goes to the right.
func TestPathsOfGrids(t *testing.T) {
	for _, weights := range [][]int{{0}, {1}, {heaviest}} {
		nodes, _, e := Path(64, grid(8, weights...), 0, 63)
		if want := []int{0, 1, 2, 3, 4, 5, 6, 7, 15, 23, 31, 39, 47, 55, 63}; !slices.Equal(nodes, want) || e != api.OK {
			t.Errorf("Path = %v, %d; want %v", nodes, e, want)
		}
		nodes, _, e = Path(64, backward(grid(8, weights...)), 63, 0)
		if want := []int{63, 55, 47, 39, 31, 23, 15, 7, 6, 5, 4, 3, 2, 1, 0}; !slices.Equal(nodes, want) || e != api.OK {
			t.Errorf("Path back = %v, %d; want %v", nodes, e, want)
		}
	}
	for seed, weights := range weightings() {
		edges := append(grid(8, weights...), backward(grid(8, weights...))...)
		checkSome(t, 64, edges)
		checkSome(t, 64, shuffled(seed, 64, edges))
	}
}

// P12.3 (Components)

func TestComponents(t *testing.T) {
	tests := []struct {
		n     int
		edges []Edge
		want  []int
	}{
		{0, nil, nil},
		{1, nil, []int{0}},
		{1, []Edge{{0, 0, 5}}, []int{0}},
		{2, nil, []int{0, 1}},
		{2, []Edge{{0, 1, 0}}, []int{0, 0}},
		{2, []Edge{{1, 0, heaviest}}, []int{0, 0}},
		{2, []Edge{{0, 0, 1}, {1, 1, 1}}, []int{0, 1}},
		{4, []Edge{{2, 0, 1}}, []int{0, 1, 0, 2}},
		{4, []Edge{{1, 2, 1}}, []int{0, 1, 1, 2}},
		{4, []Edge{{3, 1, 1}}, []int{0, 1, 2, 1}},
		{4, []Edge{{3, 0, 1}, {2, 1, 1}}, []int{0, 1, 1, 0}},
		// Only edges against the direction join the nodes.
		{3, []Edge{{1, 0, 1}, {1, 2, 1}}, []int{0, 0, 0}},
		{3, []Edge{{0, 2, 1}, {1, 2, 1}}, []int{0, 0, 0}},
		{5, []Edge{{1, 0, 1}, {1, 2, 1}, {3, 2, 1}, {3, 4, 1}}, []int{0, 0, 0, 0, 0}},
		{5, []Edge{{0, 4, 1}, {3, 4, 1}, {3, 1, 1}}, []int{0, 0, 1, 0, 0}},
		// Components that are joined late, by their first nodes, by their last ones, and by both.
		{6, []Edge{{0, 1, 1}, {2, 3, 1}, {4, 5, 1}, {0, 2, 1}, {2, 4, 1}}, []int{0, 0, 0, 0, 0, 0}},
		{6, []Edge{{0, 1, 1}, {2, 3, 1}, {4, 5, 1}, {5, 3, 1}, {3, 1, 1}}, []int{0, 0, 0, 0, 0, 0}},
		{6, []Edge{{4, 5, 1}, {2, 3, 1}, {0, 1, 1}, {5, 2, 1}}, []int{0, 0, 1, 1, 1, 1}},
		{6, []Edge{{5, 4, 1}, {4, 3, 1}, {2, 1, 1}, {1, 3, 1}}, []int{0, 1, 1, 1, 1, 1}},
		{7, []Edge{{6, 5, 1}, {4, 3, 1}, {2, 1, 1}, {6, 4, 1}, {3, 1, 1}, {2, 5, 1}}, []int{0, 1, 1, 1, 1, 1, 1}},
		{8, []Edge{{7, 5, 0}, {6, 4, 0}, {3, 1, 0}, {2, 0, 0}, {7, 3, 0}, {6, 2, 0}}, []int{0, 1, 0, 1, 0, 1, 0, 1}},
		// The numbers are in the order of the first nodes, not of the edges or of the last nodes.
		{6, []Edge{{5, 2, 1}, {4, 1, 1}, {3, 0, 1}}, []int{0, 1, 2, 0, 1, 2}},
		{6, []Edge{{0, 5, 1}, {1, 4, 1}, {2, 3, 1}}, []int{0, 1, 2, 2, 1, 0}},
		{6, []Edge{{5, 1, 1}, {4, 5, 1}, {2, 2, 1}}, []int{0, 1, 2, 3, 1, 1}},
	}
	for _, c := range tests {
		for _, edges := range [][]Edge{c.edges, backward(c.edges), inReverse(c.edges), append(slices.Clone(c.edges), c.edges...)} {
			if got, e := Components(c.n, edges); !slices.Equal(got, c.want) || e != api.OK {
				t.Errorf("Components(%d, %v) = %v, %d; want %v", c.n, edges, got, e, c.want)
			}
		}
		checkGraph(t, c.n, c.edges, bestByEdges)
	}
}

// All graphs with six nodes, apart from the directions and the order of their edges.
func TestAllComponents(t *testing.T) {
	for chosen := range 1 << 15 {
		state := uint64(chosen)
		var edges []Edge
		i := 0
		for a := range 6 {
			for b := range a {
				if chosen>>i&1 == 1 {
					edge := Edge{a, b, i}
					if number(&state, 2) == 0 {
						edge = Edge{b, a, i}
					}
					edges = slices.Insert(edges, number(&state, len(edges)+1), edge)
				}
				i++
			}
		}
		checkComponents(t, 6, edges)
	}
}

// Trees with seven nodes whose edges come in all orders.
func TestOrdersOfEdges(t *testing.T) {
	star := []Edge{{3, 0, 0}, {3, 1, 0}, {2, 3, 0}, {3, 4, 0}, {5, 3, 0}, {3, 6, 0}}
	fork := []Edge{{0, 6, 0}, {1, 6, 0}, {6, 5, 0}, {5, 4, 0}, {4, 2, 0}, {3, 4, 0}}
	zigzag := []Edge{{0, 6, 0}, {1, 6, 0}, {1, 5, 0}, {2, 5, 0}, {2, 4, 0}, {3, 4, 0}}
	for _, tree := range [][]Edge{star, fork, zigzag, line(7, 0), backward(line(7, 0))} {
		for _, edges := range permutations(tree) {
			checkComponents(t, 7, edges)
			// Without the last one, there are two components; moved by one, node 0 is alone.
			checkComponents(t, 7, edges[:5])
			checkComponents(t, 8, shift(edges, 1))
		}
	}
}

func TestManyComponents(t *testing.T) {
	alone, e := Components(64, nil)
	if e != api.OK || len(alone) != 64 {
		t.Fatalf("Components without edges = %v, %d", alone, e)
	}
	for node, number := range alone {
		if number != node {
			t.Errorf("node %d has the number %d", node, number)
		}
	}
	for _, edges := range [][]Edge{line(64, 0), backward(line(64, 1)), inReverse(line(64, 2)), inReverse(backward(line(64, 3))), circle(64, 4), complete(64, 5), make([]Edge, 4096)} {
		checkComponents(t, 64, edges)
		for _, i := range []int{0, 20, 62} {
			checkComponents(t, 64, slices.Delete(slices.Clone(edges), i, i+1))
		}
	}
	for count := range 200 {
		for seed := range 3 {
			checkComponents(t, 64, scattered(seed, 64, count, []int{0, 1}))
			checkComponents(t, 60, shuffled(seed, 60, line(60, seed))[:count%60])
		}
	}
}

// Errors

// wrongGraph is a graph that is not valid, with its error.
type wrongGraph struct {
	n     int
	edges []Edge
	e     api.Errno
}

// checkWrong checks that all functions return the errors of the graphs.
func checkWrong(t *testing.T, graphs []wrongGraph) {
	t.Helper()
	for _, g := range graphs {
		checkGraphError(t, g.n, g.edges, g.e)
		checkGraphError(t, g.n, g.edges, wantedError(g.n, g.edges))
	}
}

func TestGraphErrors(t *testing.T) {
	checkWrong(t, []wrongGraph{
		{-1, nil, api.ErrRange},
		{65, nil, api.ErrRange},
		{66, []Edge{{0, 1, 1}}, api.ErrRange},
		{128, nil, api.ErrRange},
		{-64, nil, api.ErrRange},
		{1 << 32, nil, api.ErrRange},
		{1<<32 + 1, nil, api.ErrRange},
		{-1 << 32, nil, api.ErrRange},
		{least, nil, api.ErrRange},
		{least + 1, []Edge{{0, 0, 0}}, api.ErrRange},
		{greatest, nil, api.ErrRange},
		{greatest, []Edge{{greatest - 1, 0, 0}}, api.ErrRange},
		{1, make([]Edge, 4097), api.ErrLimit},
		{64, make([]Edge, 4097), api.ErrLimit},
		{64, append(complete(64, 1), Edge{0, 1, 1}), api.ErrLimit},
		{1, make([]Edge, 10000), api.ErrLimit},
		// Without nodes there is no end for an edge.
		{0, []Edge{{0, 0, 0}}, api.ErrReference},
		{0, []Edge{{0, 0, -1}}, api.ErrReference},
		// The last of as many edges as there may be is wrong.
		{3, append(make([]Edge, 4095), Edge{0, 3, 0}), api.ErrReference},
		{3, append(make([]Edge, 4095), Edge{0, 2, -1}), api.ErrRange},
	})
}

func TestOrderOfErrors(t *testing.T) {
	many := make([]Edge, 4097)
	checkWrong(t, []wrongGraph{
		// The number of nodes comes before that of edges, and both come before the edges.
		{-1, many, api.ErrRange},
		{65, many, api.ErrRange},
		{65, []Edge{{-1, 0, 0}}, api.ErrRange},
		{65, []Edge{{65, 0, 0}}, api.ErrRange},
		{-1, []Edge{{0, 0, -1}}, api.ErrRange},
		{0, many, api.ErrLimit},
		{2, append([]Edge{{2, 0, 0}}, many...), api.ErrLimit},
		{2, append([]Edge{{0, 0, -1}}, many...), api.ErrLimit},
		// Of two errors of one edge, that of the ends comes first.
		{2, []Edge{{2, 0, -1}}, api.ErrReference},
		{2, []Edge{{0, 2, -1}}, api.ErrReference},
		{2, []Edge{{0, -1, heaviest + 1}}, api.ErrReference},
		{2, []Edge{{-1, 2, heaviest + 1}}, api.ErrReference},
		// Of two edges, the first wrong one counts.
		{2, []Edge{{0, 0, -1}, {2, 0, 0}}, api.ErrRange},
		{2, []Edge{{2, 0, 0}, {0, 0, -1}}, api.ErrReference},
		{2, []Edge{{0, 0, heaviest + 1}, {0, 2, 0}}, api.ErrRange},
		{2, []Edge{{0, 2, 0}, {0, 0, heaviest + 1}}, api.ErrReference},
		{2, []Edge{{0, 1, 1}, {0, 0, heaviest + 1}, {1, 1, 1}, {0, 2, -1}}, api.ErrRange},
		{2, []Edge{{0, 1, 1}, {1, -1, 0}, {1, 1, 1}, {0, 0, -1}}, api.ErrReference},
	})
}

func TestWrongEdges(t *testing.T) {
	wrongWeights := []int{-1, -2, heaviest + 1, heaviest + 2, 2 * heaviest, 1 << 32, -1 << 32, 1<<32 + 1, least, greatest}
	for _, n := range []int{0, 1, 2, 3, 63, 64} {
		for _, node := range []int{-1, -2, -n, n, n + 1, 64, 65, 1 << 32, -1 << 32, least, greatest} {
			if node >= 0 && node < n {
				continue
			}
			checkGraphError(t, n, []Edge{{node, 0, 0}}, api.ErrReference)
			checkGraphError(t, n, []Edge{{0, node, 0}}, api.ErrReference)
			checkGraphError(t, n, []Edge{{node, node, 0}}, api.ErrReference)
			checkGraphError(t, n, []Edge{{node, n - 1, heaviest}, {0, 0, -1}}, api.ErrReference)
			checkGraphError(t, n, []Edge{{n - 1, node, -1}}, api.ErrReference)
		}
		for _, weight := range wrongWeights {
			if n > 0 {
				checkGraphError(t, n, []Edge{{n - 1, 0, weight}}, api.ErrRange)
				checkGraphError(t, n, []Edge{{0, n - 1, 1}, {0, 0, weight}, {n, 0, 0}}, api.ErrRange)
				// The edge does not matter for the result, but for the error.
				checkGraphError(t, n, []Edge{{0, n - 1, 0}, {0, n - 1, weight}}, api.ErrRange)
			}
		}
	}
}

func TestGraphsAtTheLimits(t *testing.T) {
	for _, n := range []int{1, 2, 3, 63, 64} {
		for _, weight := range []int{0, 1, heaviest - 1, heaviest} {
			for _, edge := range []Edge{{0, n - 1, weight}, {n - 1, 0, weight}, {n - 1, n - 1, weight}, {0, 0, weight}} {
				checkGraph(t, n, []Edge{edge}, bestByEdges)
				checkError(t, n, []Edge{edge}, edge.From, edge.To, api.OK, api.OK, api.OK)
			}
		}
		checkGraph(t, n, nil, bestByEdges)
	}
	checkGraph(t, 0, nil, bestByEdges)
	checkGraph(t, 0, []Edge{}, bestByEdges)
}

func TestNodeErrors(t *testing.T) {
	for _, n := range []int{0, 1, 2, 3, 63, 64} {
		// Each node reaches each other one, and no one does.
		for _, edges := range [][]Edge{append(line(n, 1), backward(line(n, 1))...), nil} {
			for _, wrong := range []int{-1, -2, n, n + 1, 64, 65, -64, 1 << 32, -1 << 32, least, greatest} {
				if wrong >= 0 && wrong < n {
					continue
				}
				checkError(t, n, edges, wrong, wrong, api.OK, api.ErrReference, api.ErrReference)
				checkError(t, n, edges, wrong, -wrong, api.OK, api.ErrReference, api.ErrReference)
				for right := 0; right < n; right += 1 + n/8 {
					checkError(t, n, edges, right, wrong, api.OK, api.OK, api.ErrReference)
					checkError(t, n, edges, wrong, right, api.OK, api.ErrReference, api.ErrReference)
				}
			}
		}
	}
}

func TestNotFound(t *testing.T) {
	for _, n := range []int{2, 3, 30} {
		for from := range n {
			for to := range n {
				want := api.ErrNotFound
				if from == to {
					want = api.OK
				}
				checkError(t, n, nil, from, to, api.OK, api.OK, want)
				if from > to {
					checkError(t, n, line(n, 0), from, to, api.OK, api.OK, want)
				}
			}
		}
	}
}

// Many graphs.

// kinds returns all edges between n nodes with the weights.
func kinds(n int, weights ...int) []Edge {
	var all []Edge
	for _, w := range weights {
		all = append(all, complete(n, w)...)
	}
	return all
}

// lists calls visit with all lists of up to length of the edges; with ascending, with one order of each list only.
func lists(edges []Edge, length int, ascending bool, visit func([]Edge)) {
	var extend func(list []Edge, from int)
	extend = func(list []Edge, from int) {
		visit(list)
		if len(list) == length {
			return
		}
		for i := from; i < len(edges); i++ {
			next := 0
			if ascending {
				next = i
			}
			extend(append(slices.Clone(list), edges[i]), next)
		}
	}
	extend(nil, 0)
}

func TestSmallGraphs(t *testing.T) {
	for _, c := range []struct {
		n, length int
		ascending bool
		weights   []int
	}{
		{1, 3, false, []int{0, 1, heaviest}},
		{2, 3, false, []int{0, 1, 2}},
		{2, 4, false, []int{0, 1}},
		{3, 3, false, []int{0, 1}},
		{3, 4, true, []int{0, 1}},
		{3, 3, true, []int{1, 2, 3}},
		{4, 3, true, []int{0, 1}},
		{4, 4, true, []int{1}},
	} {
		lists(kinds(c.n, c.weights...), c.length, c.ascending, func(edges []Edge) {
			checkGraph(t, c.n, edges, bestOfAll)
			checkGraph(t, c.n, inReverse(edges), bestByEdges)
		})
	}
}

// All graphs with four nodes that have no two edges between the same nodes.
func TestAllGraphsWithFourNodes(t *testing.T) {
	weightings := weightings()
	for chosen := range 1 << 12 {
		weights := weightings[chosen%len(weightings)]
		state := uint64(chosen)
		var edges []Edge
		for i := range 12 {
			from, to := i/3, i%3
			if to >= from {
				to++
			}
			if chosen>>i&1 == 1 {
				edges = append(edges, Edge{from, to, weights[number(&state, len(weights))]})
			}
		}
		checkGraph(t, 4, edges, bestOfAll)
	}
}

// A graph with paths that part twice, with all numbers of its nodes.
func TestNumbersOfNodes(t *testing.T) {
	// Three paths have three edges, and one of them is shortest, two are, or all.
	base := []Edge{{0, 1, 0}, {0, 2, 0}, {1, 3, 0}, {2, 3, 0}, {2, 4, 0}, {3, 5, 0}, {4, 5, 0}}
	for seed, order := range permutations(line(7, 0)) {
		state := uint64(seed)
		var equal, mixed []Edge
		for _, edge := range base {
			named := Edge{order[edge.From].From, order[edge.To].From, 1}
			equal = append(equal, named)
			named.Weight = number(&state, 2)
			mixed = append(mixed, named)
		}
		checkGraph(t, 6, equal, bestOfAll)
		checkGraph(t, 6, mixed, bestOfAll)
	}
}

func TestShapes(t *testing.T) {
	for seed, g := range shapes() {
		t.Run(g.name, func(t *testing.T) {
			checkGraph(t, g.n, g.edges, bestByEdges)
			checkGraph(t, g.n, inReverse(g.edges), bestByEdges)
			for i := range 3 {
				checkGraph(t, g.n, shuffled(10*seed+i, g.n, g.edges), bestByEdges)
			}
		})
	}
}

func TestScatteredGraphs(t *testing.T) {
	for i, weights := range weightings() {
		for n := 1; n < 6; n++ {
			for count := range 9 {
				checkGraph(t, n, scattered(i, n, count, weights), bestOfAll)
			}
		}
		for n := 3; n < 12; n++ {
			for count := n / 2; count < 5*n; count += 1 + n/3 {
				checkGraph(t, n, scattered(i, n, count, weights), bestByEdges)
			}
		}
		for _, n := range []int{20, 33, 48, 63, 64} {
			for _, count := range []int{n, 3 * n / 2, 3 * n, 8 * n} {
				checkSome(t, n, scattered(i, n, count, weights))
			}
		}
	}
}

// P12.4 and P12.5 with graphs of up to 64 nodes, without the definitions.
func TestConsequences(t *testing.T) {
	for i, weights := range weightings() {
		for _, n := range []int{1, 2, 5, 16, 30, 64} {
			for _, count := range []int{0, 1, n, 2 * n, 5 * n} {
				// With 64 nodes there are many paths, so each list of weights has one number of edges there.
				if n == 64 && count != []int{n, 2 * n}[i%2] {
					continue
				}
				edges := scattered(100+i, n, count, weights)
				all, e := All(n, edges)
				if e != api.OK {
					t.Fatalf("All(%d, %v) returns %d", n, edges, e)
				}
				checkConsequences(t, n, edges, all)
			}
		}
	}
}

// Two ways to find the best paths agree, so that the second one can be used for graphs that are too great for the first one.
func TestDefinitionsAgree(t *testing.T) {
	for i, weights := range weightings() {
		for n := 1; n < 6; n++ {
			for count := range 10 {
				edges := scattered(50+i, n, count, weights)
				for from := range n {
					a, b := bestOfAll(n, edges, from), bestByEdges(n, edges, from)
					if !slices.EqualFunc(a, b, func(a, b way) bool { return a.length == b.length && slices.Equal(a.nodes, b.nodes) }) {
						t.Fatalf("for (%d, %v) and %d, %v and %v are different", n, edges, from, a, b)
					}
				}
			}
		}
	}
}

// Rules: memory, and what a result depends on.

// results are what the functions return for a graph.
type results struct {
	distances, nodes, components []int
	length                       int
	all                          [][]int
}

// resultsOf calls all functions with a valid graph in which there is a path between the nodes.
func resultsOf(t *testing.T, n int, edges []Edge, from, to int) results {
	t.Helper()
	var r results
	errors := make([]api.Errno, 4)
	r.distances, errors[0] = Distances(n, edges, from)
	r.all, errors[1] = All(n, edges)
	r.nodes, r.length, errors[2] = Path(n, edges, from, to)
	r.components, errors[3] = Components(n, edges)
	if !slices.Equal(errors, make([]api.Errno, 4)) {
		t.Fatalf("errors %v for (%d, %v), %d and %d", errors, n, edges, from, to)
	}
	return r
}

// lists returns all slices of the results.
func (r results) lists() [][]int {
	return append([][]int{r.distances, r.nodes, r.components}, r.all...)
}

// copied returns the slices of the results in new memory.
func (r results) copied() [][]int {
	var all [][]int
	for _, l := range r.lists() {
		all = append(all, slices.Clone(l))
	}
	return all
}

// same reports whether the slices of the results are these.
func (r results) same(lists [][]int) bool {
	return slices.EqualFunc(r.lists(), lists, slices.Equal)
}

// overwrite changes all memory of l, also what is behind its end.
func overwrite[T any](l []T, x T) {
	l = l[:cap(l)]
	for i := range l {
		l[i] = x
	}
}

// graphsWithPaths returns graphs with paths from node 0 to node 4.
func graphsWithPaths() []graph {
	return []graph{
		{"line", 5, line(5, 3)},
		{"circle", 8, circle(8, 0)},
		{"both directions", 9, append(grid(3, 1, 2), backward(grid(3, 2))...)},
		{"complete", 7, complete(7, 1, 5, 2)},
		{"greatest", 64, complete(64, 7, 1, 2)},
		{"scattered", 20, append(scattered(5, 20, 60, []int{0, 1, 2}), Edge{0, 4, 50})},
	}
}

func TestEdgesAreUnchangedAndNotKept(t *testing.T) {
	mark := Edge{-7, 77, -777}
	for _, g := range graphsWithPaths() {
		roomy := append(make([]Edge, 0, len(g.edges)+10), g.edges...)
		behind := roomy[len(roomy):cap(roomy)]
		overwrite(behind, mark)
		got := resultsOf(t, g.n, roomy, 0, 4)
		if !slices.Equal(roomy, g.edges) || slices.ContainsFunc(behind, func(edge Edge) bool { return edge != mark }) {
			t.Errorf("%s: the edges were changed", g.name)
		}
		want := got.copied()
		overwrite(roomy, mark)
		if !got.same(want) {
			t.Errorf("%s: the results were changed with the edges", g.name)
		}
		if again := resultsOf(t, g.n, g.edges, 0, 4); !again.same(want) || again.length != got.length {
			t.Errorf("%s: the results depend on what the edges were", g.name)
		}
	}
	for _, wrong := range []Edge{{-1, 0, 0}, {0, 64, 0}, {0, 0, -1}} {
		edges := []Edge{{0, 1, 1}, wrong, {1, 2, 1}}
		before := slices.Clone(edges)
		checkGraphError(t, 3, edges, wantedError(3, edges))
		if !slices.Equal(edges, before) {
			t.Errorf("the wrong edges %v were changed to %v", before, edges)
		}
	}
}

func TestResultsShareNoMemory(t *testing.T) {
	for _, g := range graphsWithPaths() {
		first, second := resultsOf(t, g.n, g.edges, 0, 4), resultsOf(t, g.n, g.edges, 0, 4)
		want := second.copied()
		all := first.lists()
		for i, l := range all {
			overwrite(l, -5)
			for j, other := range all[i+1:] {
				if !slices.Equal(other, want[i+1+j]) {
					t.Errorf("%s: the results %d and %d share memory", g.name, i, i+1+j)
				}
			}
		}
		overwrite(first.all, nil)
		if !second.same(want) {
			t.Errorf("%s: the results of two calls share memory", g.name)
		}
		if third := resultsOf(t, g.n, g.edges, 0, 4); !third.same(want) {
			t.Errorf("%s: the results depend on earlier ones", g.name)
		}
	}
}

func TestResultsDependOnArgumentsOnly(t *testing.T) {
	graphs := graphsWithPaths()
	var before []results
	for _, g := range graphs {
		before = append(before, resultsOf(t, g.n, g.edges, 0, 4))
	}
	for range 3 {
		for i, g := range slices.Backward(graphs) {
			got := resultsOf(t, g.n, g.edges, 0, 4)
			if !got.same(before[i].lists()) || got.length != before[i].length {
				t.Errorf("%s: the results of two calls are different", g.name)
			}
			// The order of the edges does not matter.
			if got := resultsOf(t, g.n, inReverse(g.edges), 0, 4); !got.same(before[i].lists()) || got.length != before[i].length {
				t.Errorf("%s: the results depend on the order of the edges", g.name)
			}
		}
		checkGraphError(t, 65, nil, api.ErrRange)
	}
}

// P1: every function terminates and does not panic.

// checkAny checks all functions with any arguments.
func checkAny(t *testing.T, n int, edges []Edge, from, to int) {
	t.Helper()
	if e := wantedError(n, edges); e != api.OK {
		checkError(t, n, edges, from, to, e, e, e)
		return
	}
	start, both := wantedError(n, edges, from), wantedError(n, edges, from, to)
	if both == api.OK && len(bestByEdges(n, edges, from)[to].nodes) == 0 {
		both = api.ErrNotFound
	}
	checkError(t, n, edges, from, to, api.OK, start, both)
	// All pairs of the nodes of a greater graph would take too long for so many graphs.
	if n <= 12 {
		checkGraph(t, n, edges, bestByEdges)
	}
}

func TestAnyArguments(t *testing.T) {
	values := []int{least, -1 << 32, -1, 0, 1, 2, 3, 63, 64, 65, heaviest, heaviest + 1, 1 << 32, greatest}
	for _, n := range values {
		for _, a := range values {
			for _, b := range values {
				checkAny(t, n, nil, a, b)
				for _, weight := range []int{-1, 0, heaviest, heaviest + 1, greatest} {
					checkAny(t, min(n, 3), []Edge{{a, b, weight}}, b, a)
				}
			}
		}
	}
}

func FuzzShortest(f *testing.F) {
	for i, g := range graphsWithPaths() {
		var data []byte
		for _, edge := range g.edges[:min(len(g.edges), 100)] {
			data = append(data, byte(edge.From+2), byte(edge.To+2), byte(edge.Weight+1))
		}
		f.Add(data, g.n, i, 4, uint8(i))
	}
	f.Fuzz(func(t *testing.T, data []byte, n, from, to int, kind uint8) {
		nodes := 12
		if n > 0 {
			nodes = min(n, 12)
		}
		var edges, valid []Edge
		for ; len(data) >= 3 && len(edges) < 60; data = data[3:] {
			weight := (int(data[2]) - 1) << (kind % 24)
			edges = append(edges, Edge{int(data[0]) - 2, int(data[1]) - 2, weight})
			valid = append(valid, Edge{int(data[0]) % nodes, int(data[1]) % nodes, max(0, weight%(1+int(kind/24)))})
		}
		checkAny(t, n, edges, from, to)
		checkAny(t, nodes, edges, from, to)
		checkAny(t, nodes, valid, from, to)
		checkAny(t, nodes, shuffled(int(kind), nodes, valid), to, from)
	})
}
