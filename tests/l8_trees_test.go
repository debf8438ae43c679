package tests

import (
	"cmp"
	"maps"
	"math"
	"math/rand"
	"slices"
	"testing"

	"loop.example/g00853/impl"
)

// someFlowValues are flows of a pipe, with both limits.
var someFlowValues = []int{-8000, -7999, -1000, -1, 0, 0, 1, 2, 1000, 7999, 8000}

var otherFlowValues = []int{-8001, 8001, -8002, 16000, 1 << 32, -1 << 32, math.MinInt, math.MaxInt}

var otherDemandValues = []int{-1, 1001, -1000, 2000, 1 << 32, -1 << 32, math.MinInt, math.MaxInt}

// river has four nodes: from node 1, water passes pipes 4 and 9 from From to To and pipe 7 from
// To to From; node 2 is in the middle.
func river() impl.Network {
	return network(4, [4]int{4, 1, 2, 1}, [4]int{7, 3, 2, 2}, [4]int{9, 2, 4, 1})
}

// deepTree has MaxNodes nodes and pipes in both directions; the numbers of its nodes and the Ids
// of its pipes are in no order along it.
func deepTree() impl.Network {
	return network(8, [4]int{1, 5, 3, 2}, [4]int{12, 3, 8, 1}, [4]int{20, 2, 5, 9}, [4]int{33, 8, 1, 3},
		[4]int{40, 7, 3, 4}, [4]int{98, 4, 7, 5}, [4]int{99, 7, 6, 6})
}

// starTree has MaxNodes nodes; every pipe joins node 4 with another one.
func starTree() impl.Network {
	return network(8, [4]int{3, 4, 1, 1}, [4]int{5, 2, 4, 1}, [4]int{6, 3, 4, 1}, [4]int{10, 4, 5, 1},
		[4]int{11, 4, 6, 1}, [4]int{12, 7, 4, 1}, [4]int{13, 4, 8, 1})
}

// rowTree has MaxNodes nodes in a row.
func rowTree() impl.Network {
	return network(8, [4]int{10, 1, 2, 1}, [4]int{20, 2, 3, 1}, [4]int{30, 4, 3, 1}, [4]int{40, 4, 5, 1},
		[4]int{50, 6, 5, 1}, [4]int{60, 6, 7, 1}, [4]int{70, 8, 7, 1})
}

// noTrees returns valid networks that are no trees.
func noTrees() map[string]impl.Network {
	a, b, c := [4]int{1, 1, 2, 1}, [4]int{2, 2, 3, 1}, [4]int{3, 3, 1, 1}
	return map[string]impl.Network{
		"two nodes without pipes": network(2), "eight nodes without pipes": network(8), "three nodes and one pipe": network(3, a),
		"two pipes between two nodes":               network(2, a, [4]int{2, 1, 2, 1}),
		"two pipes in opposite directions":          network(2, a, [4]int{2, 2, 1, 1}),
		"two pipes and a node apart":                network(3, a, [4]int{2, 2, 1, 1}),
		"two pipes and node 1 apart":                network(3, [4]int{1, 3, 2, 1}, [4]int{2, 2, 3, 1}),
		"three pipes, two alike, and a node apart":  network(4, a, b, [4]int{3, 2, 3, 1}),
		"ring of three":                             network(3, a, b, c),
		"ring of three and a node apart":            network(4, a, b, c),
		"ring of three and node 1 apart":            network(4, [4]int{1, 4, 2, 1}, b, [4]int{3, 3, 4, 1}),
		"ring of three and a pipe apart":            network(5, a, b, c, [4]int{4, 4, 5, 1}),
		"ring of three with a tail":                 network(4, a, b, c, [4]int{4, 4, 3, 1}),
		"two rings and a tail apart":                network(7, a, b, c, [4]int{4, 4, 5, 1}, [4]int{5, 5, 6, 1}, [4]int{6, 6, 4, 1}, [4]int{7, 6, 7, 1}),
		"ring of MaxNodes":                          network(8, a, b, [4]int{3, 3, 4, 1}, [4]int{4, 4, 5, 1}, [4]int{5, 5, 6, 1}, [4]int{6, 6, 7, 1}, [4]int{7, 7, 8, 1}, [4]int{8, 8, 1, 1}),
		"as many pipes as possible between 2 nodes": network(2, a, [4]int{2, 1, 2, 1}, [4]int{3, 1, 2, 1}, [4]int{4, 1, 2, 1}, [4]int{5, 1, 2, 1}, [4]int{6, 1, 2, 1}, [4]int{7, 1, 2, 1}, [4]int{8, 1, 2, 1}, [4]int{9, 1, 2, 1}, [4]int{10, 2, 1, 1}),
		"all nodes and pipes":                       fullNetwork(),
	}
}

// invalidTrees returns networks of which each would be a tree, or would have one with some of its
// pipes, but for one rule that it breaks.
func invalidTrees() map[string]impl.Network {
	a, b := [4]int{5, 1, 2, 3}, [4]int{6, 2, 3, 3}
	row := [][4]int{}
	for id := 1; id <= 11; id++ {
		row = append(row, [4]int{id, id, id + 1, 1})
	}
	more := slices.Concat(row[:7], [][4]int{{8, 1, 2, 1}, {9, 1, 2, 1}, {10, 1, 2, 1}, {11, 1, 2, 1}})
	return map[string]impl.Network{
		"Id 0": network(3, [4]int{0, 1, 2, 3}, b), "Id -1": network(3, [4]int{-1, 1, 2, 3}, b), "Id 100": network(3, a, [4]int{100, 2, 3, 3}),
		"same Id": network(3, a, [4]int{5, 2, 3, 3}), "descending": network(3, b, a), "Size 0": network(3, a, [4]int{6, 2, 3, 0}),
		"Size 10": network(3, [4]int{5, 1, 2, 10}, b), "nine nodes": network(9, row[:8]...), "twelve nodes": network(12, row...),
		"no node": network(0), "fewer than no node": network(-1), "From 0": network(3, a, [4]int{6, 0, 3, 3}), "To 4": network(3, a, [4]int{6, 2, 4, 3}),
		"a tree and more than MaxPipes pipes": network(8, more...), "one more pipe to itself": network(3, a, b, [4]int{7, 1, 1, 1}),
	}
}

// inOrder returns networks in the order of their names, so that every run draws the same for them.
func inOrder(named map[string]impl.Network) []impl.Network {
	var list []impl.Network
	for _, name := range slices.Sorted(maps.Keys(named)) {
		list = append(list, named[name])
	}
	return list
}

// isTree tells by the document's rule whether a valid network is a tree.
func isTree(n impl.Network) bool {
	connected := wantedConnected(n, 0)
	for node := 1; node <= n.Nodes; node++ {
		if !connected[1][node] {
			return false
		}
	}
	return len(n.Pipes) == n.Nodes-1
}

// drawnNetwork returns a tree with some more pipes, or none; the order of its nodes, the Ids and
// the directions are drawn.
func drawnNetwork(r *rand.Rand, nodes int, more int) impl.Network {
	var pairs [][2]int
	order := r.Perm(nodes)
	for i := 1; i < nodes; i++ {
		pairs = append(pairs, [2]int{order[i], order[r.Intn(i)]})
	}
	for range more {
		pairs = append(pairs, [2]int(r.Perm(nodes)[:2]))
	}
	n := impl.Network{Nodes: nodes}
	ids := r.Perm(99)
	for i, pair := range pairs {
		turn := r.Intn(2)
		n.Pipes = append(n.Pipes, impl.Pipe{Id: ids[i] + 1, From: pair[turn] + 1, To: pair[1-turn] + 1, Size: 1 + r.Intn(9)})
	}
	slices.SortFunc(n.Pipes, func(a impl.Pipe, b impl.Pipe) int { return cmp.Compare(a.Id, b.Id) })
	return n
}

// someTrees returns the trees that the general tests go through: all of up to four nodes, but
// for Ids and Sizes, known ones, and others from a fixed seed.
func someTrees() []impl.Network {
	list := []impl.Network{river(), deepTree(), starTree(), rowTree(), network(1), network(2, [4]int{99, 2, 1, 9})}
	for _, n := range smallNetworks() {
		if isTree(n) {
			list = append(list, n)
		}
	}
	r := rand.New(rand.NewSource(8))
	for i := range 240 {
		list = append(list, drawnNetwork(r, 1+i%impl.MaxNodes, 0))
	}
	return list
}

// someNetworks returns networks of all kinds, trees among them.
func someNetworks() []impl.Network {
	list := slices.Concat(someTrees(), mixedNetworks()[:300], inOrder(noTrees()))
	r := rand.New(rand.NewSource(81))
	for i := range 210 {
		list = append(list, drawnNetwork(r, 2+i%(impl.MaxNodes-1), 1+i%3))
	}
	return list
}

// someDemands returns lists of demands for a number of nodes: none, the greatest ones, those that
// tell all sums apart, one at one node only, and drawn ones.
func someDemands(r *rand.Rand, nodes int) [][]int {
	one := make([]int, nodes)
	one[r.Intn(nodes)] = []int{1, 1000}[r.Intn(2)]
	few, many := make([]int, nodes), make([]int, nodes)
	for i := range nodes {
		few[i] = []int{0, 1, 1000}[r.Intn(3)]
		many[i] = r.Intn(1001)
	}
	return [][]int{make([]int, nodes), slices.Repeat([]int{1000}, nodes), binary[:nodes], one, few, many}
}

// drawnFlows returns flows of a network, among them often the limits.
func drawnFlows(r *rand.Rand, n impl.Network) []int {
	flows := make([]int, len(n.Pipes))
	for i := range flows {
		flows[i] = someFlowValues[r.Intn(len(someFlowValues))]
		if r.Intn(3) == 0 {
			flows[i] = r.Intn(16001) - 8000
		}
	}
	return flows
}

// pipeIndex returns the index of the pipe with this Id.
func pipeIndex(n impl.Network, id int) int {
	return slices.IndexFunc(n.Pipes, func(p impl.Pipe) bool { return p.Id == id })
}

// broughtFlows returns flows of a network as they arise if each node gets its demand from the
// source on one way that a function picks of all ways to it; without a way it gets nothing.
func broughtFlows(n impl.Network, source int, demands []int, pick func(ways [][]int) []int) []int {
	flows := make([]int, len(n.Pipes))
	ways := waysFrom(n, source)
	for i, demand := range demands {
		if len(ways[i+1]) == 0 {
			continue
		}
		here := source
		for _, id := range pick(ways[i+1]) {
			p := n.Pipes[pipeIndex(n, id)]
			if p.From == here {
				flows[pipeIndex(n, id)] += demand
				here = p.To
			} else {
				flows[pipeIndex(n, id)] -= demand
				here = p.From
			}
		}
	}
	return flows
}

// wantedFlows returns the flows of a tree: there is just one way to each node.
func wantedFlows(n impl.Network, source int, demands []int) []int {
	return broughtFlows(n, source, demands, func(ways [][]int) []int { return ways[0] })
}

// wantedImbalance tells what flows into a node minus what is taken there and flows out of it.
func wantedImbalance(n impl.Network, source int, demands []int, flows []int, node int) int {
	in, out := 0, demands[node-1]
	if node == source {
		in = total(demands)
	}
	for i, p := range n.Pipes {
		if p.To == node {
			in += flows[i]
		}
		if p.From == node {
			out += flows[i]
		}
	}
	return in - out
}

// wantedBalance tells whether the water balances at all nodes.
func wantedBalance(n impl.Network, source int, demands []int, flows []int) bool {
	for node := 1; node <= n.Nodes; node++ {
		if wantedImbalance(n, source, demands, flows, node) != 0 {
			return false
		}
	}
	return true
}

// checkBalance checks ImbalanceAt at all nodes and IsBalanced, and reports what this returns.
func checkBalance(t *testing.T, n impl.Network, source int, demands []int, flows []int) bool {
	t.Helper()
	sum := 0
	for node := 1; node <= n.Nodes; node++ {
		want := wantedImbalance(n, source, demands, flows, node)
		got, ok := impl.ImbalanceAt(n, source, demands, flows, node)
		if !ok || got != want {
			t.Fatalf("ImbalanceAt(%v, %d, %v, %v, %d) = %d, %v, want %d", n, source, demands, flows, node, got, ok, want)
		}
		sum += got
	}
	balanced, ok := impl.IsBalanced(n, source, demands, flows)
	if !ok || balanced != wantedBalance(n, source, demands, flows) || sum != 0 {
		t.Fatalf("IsBalanced(%v, %d, %v, %v) = %v, %v", n, source, demands, flows, balanced, ok)
	}
	return balanced
}

func TestSomeTreesAreOfManyKinds(t *testing.T) {
	nodes, leaves, inner := map[int]int{}, 0, 0
	for _, n := range someTrees() {
		if !impl.IsValidNetwork(n) || !isTree(n) {
			t.Fatal("no tree:", n)
		}
		nodes[n.Nodes]++
		for node := 1; node <= n.Nodes; node++ {
			at, _ := impl.PipesAt(n, node)
			if len(at) == 1 {
				leaves++
			}
			if len(at) > 1 {
				inner++
			}
		}
	}
	for number := 1; number <= impl.MaxNodes; number++ {
		if nodes[number] < 30 {
			t.Error("too few trees of", number, "nodes:", nodes[number])
		}
	}
	if leaves < 500 || inner < 500 {
		t.Error("too few nodes of some kind:", leaves, inner)
	}
	for name, n := range noTrees() {
		if !impl.IsValidNetwork(n) || isTree(n) {
			t.Error("invalid or a tree:", name)
		}
	}
	for name, n := range invalidTrees() {
		if impl.IsValidNetwork(n) {
			t.Error("valid:", name)
		}
	}
}

func TestTreesAndOtherNetworks(t *testing.T) {
	for _, n := range someTrees() {
		if tree, ok := impl.IsTreeNetwork(n); !ok || !tree {
			t.Errorf("IsTreeNetwork(%v) = %v, %v", n, tree, ok)
		}
	}
	for name, n := range noTrees() {
		if tree, ok := impl.IsTreeNetwork(n); !ok || tree {
			t.Errorf("%s: IsTreeNetwork(%v) = %v, %v", name, n, tree, ok)
		}
	}
	trees, apart, loops := 0, 0, 0
	for _, n := range append(allNetworks(), someNetworks()...) {
		tree, ok := impl.IsTreeNetwork(n)
		if !ok || tree != isTree(n) {
			t.Fatalf("IsTreeNetwork(%v) = %v, %v", n, tree, ok)
		}
		switch {
		case tree:
			trees++
		case len(n.Pipes) == n.Nodes-1:
			apart++
		case len(n.Pipes) >= n.Nodes:
			loops++
		}
	}
	if min(trees, apart, loops) < 100 {
		t.Error("too few networks of some kind:", trees, apart, loops)
	}
}

func TestKnownImbalances(t *testing.T) {
	ring := network(3, [4]int{1, 1, 2, 1}, [4]int{2, 2, 3, 1}, [4]int{3, 1, 3, 1})
	twice := network(2, [4]int{1, 1, 2, 1}, [4]int{2, 2, 1, 1})
	apart := network(3, [4]int{5, 3, 2, 1})
	for _, k := range []struct {
		n              impl.Network
		source         int
		demands, flows []int
		want           []int
	}{
		{river(), 1, []int{5, 7, 10, 20}, []int{37, -10, 20}, []int{0, 0, 0, 0}},
		{river(), 1, []int{5, 7, 10, 20}, []int{37, 10, 20}, []int{0, 20, -20, 0}},
		{river(), 1, []int{5, 7, 10, 20}, []int{0, 0, 0}, []int{37, -7, -10, -20}},
		{river(), 2, []int{5, 7, 10, 20}, []int{-5, -10, 20}, []int{0, 0, 0, 0}},
		{river(), 2, []int{5, 7, 10, 20}, []int{-6, -10, 22}, []int{1, -3, 0, 2}},
		{river(), 4, []int{5, 0, 10, 0}, []int{-5, -10, -15}, []int{0, 0, 0, 0}},
		{river(), 1, []int{0, 0, 0, 0}, []int{8000, 8000, -8000}, []int{-8000, 24000, -8000, -8000}},
		{ring, 1, []int{0, 4, 6}, []int{5, 1, 5}, []int{0, 0, 0}}, {ring, 1, []int{0, 4, 6}, []int{9, 5, 1}, []int{0, 0, 0}},
		{ring, 1, []int{0, 4, 6}, []int{0, -4, 10}, []int{0, 0, 0}}, {ring, 1, []int{0, 4, 6}, []int{9, 5, 2}, []int{-1, 0, 1}},
		{ring, 3, []int{1, 1, 1}, []int{8000, 7999, -8000}, []int{-1, 0, 1}}, {ring, 3, []int{1, 1, 1}, []int{7999, 7998, -8000}, []int{0, 0, 0}},
		{twice, 2, []int{7, 9}, []int{0, 7}, []int{0, 0}}, {twice, 2, []int{7, 9}, []int{-7, 0}, []int{0, 0}}, {twice, 2, []int{7, 9}, []int{10, 17}, []int{0, 0}},
		{twice, 2, []int{7, 9}, []int{17, 10}, []int{-14, 14}},
		{apart, 1, []int{8, 0, 0}, []int{0}, []int{0, 0, 0}}, {apart, 1, []int{8, 1, 0}, []int{0}, []int{1, -1, 0}}, {apart, 2, []int{0, 0, 3}, []int{-3}, []int{0, 0, 0}},
		{network(1), 1, []int{0}, nil, []int{0}}, {network(1), 1, []int{1000}, nil, []int{0}},
		{network(3), 2, []int{0, 1000, 0}, nil, []int{0, 0, 0}}, {network(3), 2, []int{1, 1000, 5}, nil, []int{-1, 6, -5}},
		{starTree(), 4, slices.Repeat([]int{1000}, 8), []int{-8000, 8000, 8000, -8000, -8000, 8000, -8000}, []int{-9000, -9000, -9000, 63000, -9000, -9000, -9000, -9000}},
	} {
		for i, want := range k.want {
			if got, ok := impl.ImbalanceAt(k.n, k.source, k.demands, k.flows, i+1); !ok || got != want {
				t.Errorf("ImbalanceAt(%v, %d, %v, %v, %d) = %d, %v, want %d", k.n, k.source, k.demands, k.flows, i+1, got, ok, want)
			}
		}
		want := !slices.ContainsFunc(k.want, func(x int) bool { return x != 0 })
		if got, ok := impl.IsBalanced(k.n, k.source, k.demands, k.flows); !ok || got != want {
			t.Errorf("IsBalanced(%v, %d, %v, %v) = %v, %v", k.n, k.source, k.demands, k.flows, got, ok)
		}
	}
}

func TestImbalancesFollowThePipes(t *testing.T) {
	r := rand.New(rand.NewSource(82))
	for _, n := range someNetworks() {
		for _, demands := range someDemands(r, n.Nodes) {
			source := 1 + r.Intn(n.Nodes)
			checkBalance(t, n, source, demands, drawnFlows(r, n))
			checkBalance(t, n, source, demands, make([]int, len(n.Pipes)))
			checkBalance(t, n, source, demands, slices.Repeat([]int{8000}, len(n.Pipes)))
			checkBalance(t, n, source, demands, slices.Repeat([]int{-8000}, len(n.Pipes)))
		}
	}
}

func TestImbalancesOfSmallNetworks(t *testing.T) {
	balanced, not := 0, 0
	for i, n := range smallNetworks() {
		if len(n.Pipes) > 2 && i%5 != 0 {
			continue
		}
		source := 1 + i%n.Nodes
		for number := range 81 {
			demands := []int{number % 3, number / 3 % 3, number / 9 % 3, number / 27}[:n.Nodes]
			for step := range 5 {
				a, b := (number+step)%5-2, (number/5+i)%5-2
				flows := []int{a, b, step - 2}[:len(n.Pipes)]
				if checkBalance(t, n, source, demands, flows) {
					balanced++
				} else {
					not++
				}
			}
		}
	}
	if min(balanced, not) < 500 {
		t.Error("too few of some kind:", balanced, not)
	}
}

func TestWaterBalancesOnEveryWay(t *testing.T) {
	r := rand.New(rand.NewSource(83))
	loops, apart, dry := 0, 0, 0
	for _, n := range someNetworks() {
		for _, demands := range someDemands(r, n.Nodes) {
			source := 1 + r.Intn(n.Nodes)
			flows := broughtFlows(n, source, demands, func(ways [][]int) []int { return ways[r.Intn(len(ways))] })
			served := true
			for i, demand := range demands {
				served = served && (demand == 0 || wantedConnected(n, 0)[source][i+1])
			}
			if checkBalance(t, n, source, demands, flows) != served {
				t.Fatalf("IsBalanced(%v, %d, %v, %v) = %v", n, source, demands, flows, !served)
			}
			switch reached, _ := impl.ReachedFrom(n, source); {
			case len(reached) < n.Nodes && served:
				apart++
			case len(reached) < n.Nodes:
				dry++
			case len(n.Pipes) >= n.Nodes:
				loops++
			}
			for i := range flows {
				other := slices.Clone(flows)
				other[i] += 1 - 2*r.Intn(2)
				if max(other[i], -other[i]) <= 8000 && checkBalance(t, n, source, demands, other) {
					t.Fatalf("IsBalanced(%v, %d, %v, %v)", n, source, demands, other)
				}
			}
		}
	}
	if min(loops, apart, dry) < 100 {
		t.Error("too few of some kind:", loops, apart, dry)
	}
}

func TestKnownTreeFlows(t *testing.T) {
	for _, k := range []struct {
		n             impl.Network
		source        int
		demands, want []int
	}{
		{river(), 1, []int{5, 7, 10, 20}, []int{37, -10, 20}}, {river(), 2, []int{5, 7, 10, 20}, []int{-5, -10, 20}},
		{river(), 3, []int{5, 7, 10, 20}, []int{-5, 32, 20}}, {river(), 4, []int{5, 7, 10, 20}, []int{-5, -10, -22}},
		{river(), 1, []int{1000, 0, 0, 0}, []int{0, 0, 0}}, {river(), 2, []int{0, 1000, 0, 0}, []int{0, 0, 0}},
		{river(), 1, []int{0, 0, 0, 0}, []int{0, 0, 0}}, {river(), 2, []int{0, 0, 0, 1}, []int{0, 0, 1}},
		{river(), 3, []int{1000, 1000, 1000, 1000}, []int{-1000, 3000, 1000}}, {river(), 1, []int{0, 1000, 0, 0}, []int{1000, 0, 0}},
		{network(1), 1, []int{0}, nil}, {network(1), 1, []int{1000}, nil},
		{network(2, [4]int{99, 2, 1, 9}), 1, []int{3, 4}, []int{-4}}, {network(2, [4]int{99, 2, 1, 9}), 2, []int{3, 4}, []int{3}},
		{deepTree(), 3, binary, []int{-18, 129, -2, 1, -104, -8, 32}}, {deepTree(), 1, binary, []int{-18, -126, -2, -254, -104, -8, 32}},
		{deepTree(), 6, binary, []int{-18, 129, -2, 1, 151, -8, -223}}, {deepTree(), 2, binary, []int{237, 129, 253, 1, -104, -8, 32}},
		{deepTree(), 7, slices.Repeat([]int{1000}, 8), []int{-2000, 2000, -1000, 1000, 5000, -1000, 1000}},
		{starTree(), 4, binary, []int{1, -2, -4, 16, 32, -64, 128}}, {starTree(), 3, binary, []int{1, -2, 251, 16, 32, -64, 128}},
		{rowTree(), 1, slices.Repeat([]int{1000}, 8), []int{7000, 6000, -5000, 4000, -3000, 2000, -1000}},
		{rowTree(), 8, binary, []int{-1, -3, 7, -15, 31, -63, 127}}, {rowTree(), 4, binary, []int{-1, -3, 7, 240, -224, 192, -128}},
	} {
		if got, ok := impl.TreeFlows(k.n, k.source, k.demands); !ok || !slices.Equal(got, k.want) {
			t.Errorf("TreeFlows(%v, %d, %v) = %v, %v, want %v", k.n, k.source, k.demands, got, ok, k.want)
		}
	}
}

func TestWaterBalancesWithTheFlowsOfATree(t *testing.T) {
	r := rand.New(rand.NewSource(84))
	with, against, still, owns, frees := 0, 0, 0, 0, 0
	for _, n := range someTrees() {
		for source := 1; source <= n.Nodes; source++ {
			for _, demands := range someDemands(r, n.Nodes) {
				flows, ok := impl.TreeFlows(n, source, demands)
				if !ok || !slices.Equal(flows, wantedFlows(n, source, demands)) {
					t.Fatalf("TreeFlows(%v, %d, %v) = %v, %v, want %v", n, source, demands, flows, ok, wantedFlows(n, source, demands))
				}
				if !checkBalance(t, n, source, demands, flows) {
					t.Fatalf("TreeFlows(%v, %d, %v) = %v do not balance", n, source, demands, flows)
				}
				for _, flow := range flows {
					switch {
					case flow > 0:
						with++
					case flow < 0:
						against++
					default:
						still++
					}
				}
				if demands[source-1] > 0 {
					owns++
				} else {
					frees++
				}
			}
		}
	}
	if min(with, against, still, owns, frees) < 1000 {
		t.Error("too few of some kind:", with, against, still, owns, frees)
	}
}

func TestTreesBalanceWithOneListOfFlowsOnly(t *testing.T) {
	for i, n := range smallNetworks() {
		if !isTree(n) || n.Nodes == 4 && i%7 != 0 {
			continue
		}
		for source := 1; source <= n.Nodes; source++ {
			demands := []int{2, 0, 1, 1}[:n.Nodes]
			want, _ := impl.TreeFlows(n, source, demands)
			found := 0
			for number := range 729 {
				flows := []int{number%9 - 4, number/9%9 - 4, number/81 - 4}
				if slices.ContainsFunc(flows[len(n.Pipes):], func(flow int) bool { return flow != 0 }) {
					continue
				}
				if balanced, _ := impl.IsBalanced(n, source, demands, flows[:len(n.Pipes)]); balanced {
					found++
					if !slices.Equal(flows[:len(n.Pipes)], want) {
						t.Fatalf("%v balance in %v from %d with %v, too", flows, n, source, demands)
					}
				}
			}
			if found != 1 {
				t.Fatalf("TreeFlows(%v, %d, %v) = %v, but %d lists balance", n, source, demands, want, found)
			}
		}
	}
}

func TestNetworksThatAreNoTreesHaveNoTreeFlows(t *testing.T) {
	r := rand.New(rand.NewSource(85))
	for _, n := range append(allNetworks(), someNetworks()...) {
		if isTree(n) {
			continue
		}
		source := 1 + r.Intn(n.Nodes)
		for _, demands := range [][]int{make([]int, n.Nodes), binary[:n.Nodes]} {
			if flows, ok := impl.TreeFlows(n, source, demands); ok || len(flows) != 0 {
				t.Fatalf("TreeFlows(%v, %d, %v) = %v, %v", n, source, demands, flows, ok)
			}
		}
		for _, p := range append(slices.Clone(n.Pipes), impl.Pipe{}) {
			if nodes, ok := impl.DownstreamNodes(n, source, p.Id); ok || len(nodes) != 0 {
				t.Fatalf("DownstreamNodes(%v, %d, %d) = %v, %v", n, source, p.Id, nodes, ok)
			}
		}
	}
}

func TestKnownDownstreamNodes(t *testing.T) {
	for _, k := range []struct {
		n            impl.Network
		source, pipe int
		want         []int
	}{
		{river(), 1, 4, []int{2, 3, 4}}, {river(), 1, 7, []int{3}}, {river(), 1, 9, []int{4}},
		{river(), 2, 4, []int{1}}, {river(), 2, 7, []int{3}}, {river(), 2, 9, []int{4}},
		{river(), 3, 4, []int{1}}, {river(), 3, 7, []int{1, 2, 4}}, {river(), 4, 9, []int{1, 2, 3}},
		{network(2, [4]int{99, 2, 1, 9}), 1, 99, []int{2}}, {network(2, [4]int{99, 2, 1, 9}), 2, 99, []int{1}},
		{deepTree(), 3, 1, []int{2, 5}}, {deepTree(), 3, 12, []int{1, 8}}, {deepTree(), 3, 40, []int{4, 6, 7}}, {deepTree(), 3, 20, []int{2}},
		{deepTree(), 2, 20, []int{1, 3, 4, 5, 6, 7, 8}}, {deepTree(), 2, 1, []int{1, 3, 4, 6, 7, 8}}, {deepTree(), 6, 40, []int{1, 2, 3, 5, 8}},
		{deepTree(), 1, 12, []int{2, 3, 4, 5, 6, 7}}, {deepTree(), 1, 98, []int{4}}, {deepTree(), 4, 98, []int{1, 2, 3, 5, 6, 7, 8}},
		{starTree(), 4, 13, []int{8}}, {starTree(), 8, 13, []int{1, 2, 3, 4, 5, 6, 7}}, {starTree(), 8, 5, []int{2}},
		{rowTree(), 1, 10, []int{2, 3, 4, 5, 6, 7, 8}}, {rowTree(), 8, 10, []int{1}}, {rowTree(), 4, 30, []int{1, 2, 3}}, {rowTree(), 4, 40, []int{5, 6, 7, 8}},
	} {
		if got, ok := impl.DownstreamNodes(k.n, k.source, k.pipe); !ok || !slices.Equal(got, k.want) {
			t.Errorf("DownstreamNodes(%v, %d, %d) = %v, %v, want %v", k.n, k.source, k.pipe, got, ok, k.want)
		}
	}
}

func TestDownstreamNodesAreCutOff(t *testing.T) {
	for _, n := range someTrees() {
		for source := 1; source <= n.Nodes; source++ {
			flows, _ := impl.TreeFlows(n, source, binary[:n.Nodes])
			for i, p := range n.Pipes {
				connected := wantedConnected(n, p.Id)
				var want []int
				for node := 1; node <= n.Nodes; node++ {
					if !connected[source][node] {
						want = append(want, node)
					}
				}
				got, ok := impl.DownstreamNodes(n, source, p.Id)
				if !ok || !slices.Equal(got, want) {
					t.Fatalf("DownstreamNodes(%v, %d, %d) = %v, %v, want %v", n, source, p.Id, got, ok, want)
				}
				if flow := customersAt(got...); flows[i] != flow && flows[i] != -flow || slices.Contains(got, p.To) != (flows[i] > 0) {
					t.Fatalf("TreeFlows(%v, %d, binary) = %v, but behind pipe %d are %v", n, source, flows, p.Id, got)
				}
			}
		}
	}
}

func TestKnownHeaviestPipes(t *testing.T) {
	for _, k := range []struct {
		n            impl.Network
		flows        []int
		id, greatest int
	}{
		{river(), []int{37, -10, 20}, 4, 37}, {river(), []int{3, -10, 7}, 7, 10}, {river(), []int{3, -10, 12}, 9, 12},
		{river(), []int{5, 5, 5}, 4, 5}, {river(), []int{-5, 5, -5}, 4, 5}, {river(), []int{5, -5, 5}, 4, 5},
		{river(), []int{4, -5, 5}, 7, 5}, {river(), []int{-4, 5, -5}, 7, 5}, {river(), []int{5, 4, -5}, 4, 5}, {river(), []int{-5, 4, 5}, 4, 5}, {river(), []int{4, 5, -6}, 9, 6},
		{river(), []int{0, 0, 0}, 4, 0}, {river(), []int{0, 0, -1}, 9, 1}, {river(), []int{0, 1, 0}, 7, 1}, {river(), []int{-1, 0, 0}, 4, 1},
		{river(), []int{-3, -2, -1}, 4, 3}, {river(), []int{-1, -2, -3}, 9, 3}, {river(), []int{-2, -2, -2}, 4, 2},
		{river(), []int{7999, 8000, -8000}, 7, 8000}, {river(), []int{7999, -8000, 8000}, 7, 8000}, {river(), []int{-7999, 7999, -8000}, 9, 8000},
		{network(2, [4]int{99, 2, 1, 9}), []int{0}, 99, 0}, {network(2, [4]int{99, 2, 1, 9}), []int{-8000}, 99, 8000}, {network(5, [4]int{1, 2, 4, 9}), []int{8000}, 1, 8000},
		{network(2, [4]int{1, 1, 2, 9}, [4]int{2, 2, 1, 1}), []int{1, -2}, 2, 2}, {fullNetwork(), []int{0, 1, 2, 3, 4, -9, 6, 7, 8, 9}, 33, 9},
		{fullNetwork(), []int{0, 1, 2, 3, 4, 5, 6, 7, 8, -9}, 99, 9}, {fullNetwork(), []int{-9, 1, 2, 3, 4, 5, 6, 7, 8, 9}, 1, 9},
	} {
		if id, greatest, ok := impl.HeaviestPipe(k.n, k.flows); !ok || id != k.id || greatest != k.greatest {
			t.Errorf("HeaviestPipe(%v, %v) = %d, %d, %v, want %d, %d", k.n, k.flows, id, greatest, ok, k.id, k.greatest)
		}
	}
}

func TestNoPipeIsHeavierThanTheHeaviest(t *testing.T) {
	r := rand.New(rand.NewSource(86))
	ties, none := 0, 0
	for _, n := range someNetworks() {
		few := make([]int, len(n.Pipes))
		for i := range few {
			few[i] = r.Intn(5) - 2
		}
		for _, flows := range [][]int{few, drawnFlows(r, n), make([]int, len(n.Pipes)), slices.Repeat([]int{-8000}, len(n.Pipes))} {
			id, greatest, ok := impl.HeaviestPipe(n, flows)
			if len(n.Pipes) == 0 {
				none++
				if ok || id != 0 || greatest != 0 {
					t.Fatalf("HeaviestPipe(%v, %v) = %d, %d, %v", n, flows, id, greatest, ok)
				}
				continue
			}
			heaviest := -1
			for i, p := range n.Pipes {
				amount := int(math.Abs(float64(flows[i])))
				if p.Id == id {
					heaviest = i
				}
				if amount > greatest || amount == greatest && heaviest < 0 || p.Id == id && amount != greatest {
					t.Fatalf("HeaviestPipe(%v, %v) = %d, %d, but in pipe %d flow %d", n, flows, id, greatest, p.Id, amount)
				}
				if amount == greatest && p.Id != id {
					ties++
				}
			}
			if !ok || heaviest < 0 {
				t.Fatalf("HeaviestPipe(%v, %v) = %d, %d, %v", n, flows, id, greatest, ok)
			}
		}
	}
	if ties < 1000 || none < 10 {
		t.Error("too few of some kind:", ties, none)
	}
}

func TestKnownReversedPipes(t *testing.T) {
	first, last := [4]int{4, 1, 2, 1}, [4]int{9, 2, 4, 1}
	for _, k := range []struct {
		flows, want []int
		pipe        int
		pipes       [][4]int
	}{
		{[]int{37, -10, 20}, []int{37, 10, 20}, 7, [][4]int{first, {7, 2, 3, 2}, last}},
		{[]int{37, -10, 20}, []int{-37, -10, 20}, 4, [][4]int{{4, 2, 1, 1}, {7, 3, 2, 2}, last}},
		{[]int{37, -10, 20}, []int{37, -10, -20}, 9, [][4]int{first, {7, 3, 2, 2}, {9, 4, 2, 1}}},
		{[]int{1, 0, 1}, []int{1, 0, 1}, 7, [][4]int{first, {7, 2, 3, 2}, last}},
		{[]int{8000, 8000, 8000}, []int{8000, -8000, 8000}, 7, [][4]int{first, {7, 2, 3, 2}, last}},
		{[]int{-8000, -8000, -8000}, []int{-8000, -8000, 8000}, 9, [][4]int{first, {7, 3, 2, 2}, {9, 4, 2, 1}}},
	} {
		n, flows, ok := impl.ReversedPipe(river(), k.flows, k.pipe)
		if !ok || !sameNetwork(n, network(4, k.pipes...)) || !slices.Equal(flows, k.want) {
			t.Errorf("ReversedPipe(%v, %v, %d) = %v, %v, %v, want %v, %v", river(), k.flows, k.pipe, n, flows, ok, k.pipes, k.want)
		}
	}
}

func TestReversedPipesCarryTheSameWater(t *testing.T) {
	r := rand.New(rand.NewSource(87))
	for _, n := range someNetworks() {
		flows, demands, source := drawnFlows(r, n), someDemands(r, n.Nodes)[5], 1+r.Intn(n.Nodes)
		for i, p := range n.Pipes {
			want := impl.Network{Nodes: n.Nodes, Pipes: slices.Clone(n.Pipes)}
			want.Pipes[i] = impl.Pipe{Id: p.Id, From: p.To, To: p.From, Size: p.Size}
			turned := slices.Clone(flows)
			turned[i] *= -1
			m, g, ok := impl.ReversedPipe(n, flows, p.Id)
			if !ok || !sameNetwork(m, want) || !slices.Equal(g, turned) {
				t.Fatalf("ReversedPipe(%v, %v, %d) = %v, %v, %v", n, flows, p.Id, m, g, ok)
			}
			back, again, ok := impl.ReversedPipe(m, g, p.Id)
			if !ok || !sameNetwork(back, n) || !slices.Equal(again, flows) {
				t.Fatalf("ReversedPipe(%v, %v, %d) = %v, %v, %v", m, g, p.Id, back, again, ok)
			}
			for node := 1; node <= n.Nodes; node++ {
				before, _ := impl.ImbalanceAt(n, source, demands, flows, node)
				if after, ok := impl.ImbalanceAt(m, source, demands, g, node); !ok || after != before {
					t.Fatalf("ImbalanceAt(%v, %d, %v, %v, %d) = %d, %v, but %d before pipe %d is reversed", m, source, demands, g, node, after, ok, before, p.Id)
				}
			}
		}
	}
}

func TestReversedPipesOfATreeReverseItsFlows(t *testing.T) {
	r := rand.New(rand.NewSource(88))
	for _, n := range someTrees() {
		demands, source := someDemands(r, n.Nodes)[5], 1+r.Intn(n.Nodes)
		flows, _ := impl.TreeFlows(n, source, demands)
		for _, p := range n.Pipes {
			m, g, _ := impl.ReversedPipe(n, flows, p.Id)
			if got, ok := impl.TreeFlows(m, source, demands); !ok || !slices.Equal(got, g) {
				t.Fatalf("TreeFlows(%v, %d, %v) = %v, %v, want %v", m, source, demands, got, ok, g)
			}
			before, _ := impl.DownstreamNodes(n, source, p.Id)
			if after, ok := impl.DownstreamNodes(m, source, p.Id); !ok || !slices.Equal(after, before) {
				t.Fatalf("DownstreamNodes(%v, %d, %d) = %v, %v, want %v", m, source, p.Id, after, ok, before)
			}
		}
	}
}

func TestKnownSpanningTrees(t *testing.T) {
	all := noTrees()
	for _, k := range []struct {
		n    impl.Network
		want []int
	}{
		{network(1), nil}, {network(2, [4]int{99, 2, 1, 9}), []int{99}}, {river(), []int{4, 7, 9}}, {deepTree(), []int{1, 12, 20, 33, 40, 98, 99}},
		{all["two pipes between two nodes"], []int{1}}, {all["two pipes in opposite directions"], []int{1}}, {all["ring of three"], []int{1, 2}},
		{all["ring of three with a tail"], []int{1, 2, 4}}, {all["ring of MaxNodes"], []int{1, 2, 3, 4, 5, 6, 7}},
		{all["as many pipes as possible between 2 nodes"], []int{1}}, {fullNetwork(), []int{1, 2, 11, 20, 33, 50, 98}},
		{network(4, [4]int{1, 1, 2, 1}, [4]int{2, 3, 4, 1}, [4]int{3, 1, 3, 1}, [4]int{4, 2, 4, 1}), []int{1, 2, 3}},
		{network(4, [4]int{1, 1, 2, 1}, [4]int{2, 2, 3, 1}, [4]int{5, 1, 3, 1}, [4]int{6, 3, 2, 1}, [4]int{7, 4, 1, 1}, [4]int{8, 4, 2, 1}), []int{1, 2, 7}},
	} {
		want := impl.Network{Nodes: k.n.Nodes}
		for _, p := range k.n.Pipes {
			if slices.Contains(k.want, p.Id) {
				want.Pipes = append(want.Pipes, p)
			}
		}
		if got, ok := impl.SpanningTree(k.n); !ok || !sameNetwork(got, want) {
			t.Errorf("SpanningTree(%v) = %v, %v, want %v", k.n, got, ok, want)
		}
	}
}

// wantedSpanning returns the spanning tree of a network, and whether there is one: the label of a
// node tells with which other ones the pipes so far have connected it.
func wantedSpanning(n impl.Network) (impl.Network, bool) {
	tree := impl.Network{Nodes: n.Nodes}
	labels := []int{0, 1, 2, 3, 4, 5, 6, 7, 8}[:n.Nodes+1]
	for _, p := range n.Pipes {
		from, to := labels[p.From], labels[p.To]
		if from == to {
			continue
		}
		tree.Pipes = append(tree.Pipes, p)
		for node := range labels {
			if labels[node] == to {
				labels[node] = from
			}
		}
	}
	return tree, len(tree.Pipes) == n.Nodes-1
}

func TestSpanningTreesAreTrees(t *testing.T) {
	trees, smaller, apart := 0, 0, 0
	for _, n := range append(allNetworks(), someNetworks()...) {
		got, ok := impl.SpanningTree(n)
		want, found := wantedSpanning(n)
		if !found {
			apart++
			if ok || !isZero(got) {
				t.Fatalf("SpanningTree(%v) = %v, %v", n, got, ok)
			}
			continue
		}
		if !ok || !sameNetwork(got, want) {
			t.Fatalf("SpanningTree(%v) = %v, %v, want %v", n, got, ok, want)
		}
		if tree, ok := impl.IsTreeNetwork(got); !ok || !tree {
			t.Fatalf("SpanningTree(%v) = %v is no tree", n, got)
		}
		if again, ok := impl.SpanningTree(got); !ok || !sameNetwork(again, got) {
			t.Fatalf("SpanningTree(%v) = %v, %v", got, again, ok)
		}
		if isTree(n) {
			trees++
		} else {
			smaller++
		}
	}
	if min(trees, smaller, apart) < 100 {
		t.Error("too few of some kind:", trees, smaller, apart)
	}
}

func TestFlowsOfASpanningTreeBalanceInTheNetwork(t *testing.T) {
	r := rand.New(rand.NewSource(89))
	for _, n := range someNetworks() {
		tree, ok := impl.SpanningTree(n)
		if !ok {
			continue
		}
		demands, source := someDemands(r, n.Nodes)[5], 1+r.Intn(n.Nodes)
		part, ok := impl.TreeFlows(tree, source, demands)
		if !ok {
			t.Fatalf("TreeFlows(%v, %d, %v) fails", tree, source, demands)
		}
		flows := make([]int, len(n.Pipes))
		for i, p := range tree.Pipes {
			flows[pipeIndex(n, p.Id)] = part[i]
		}
		if !checkBalance(t, n, source, demands, flows) {
			t.Fatalf("with %v, nothing balances in %v from %d with %v", flows, n, source, demands)
		}
	}
}

func TestSupplyIsTheSumOfAllDemands(t *testing.T) {
	r := rand.New(rand.NewSource(90))
	for _, k := range []struct {
		n       impl.Network
		demands []int
		want    int
	}{
		{river(), []int{5, 7, 10, 20}, 42}, {river(), []int{0, 0, 0, 0}, 0}, {river(), []int{1000, 1000, 1000, 1000}, 4000}, {river(), []int{0, 0, 0, 1}, 1}, {river(), []int{1, 0, 0, 0}, 1},
		{network(1), []int{0}, 0}, {network(1), []int{1000}, 1000}, {network(8), slices.Repeat([]int{1000}, 8), 8000}, {network(8), binary, 255}, {fullNetwork(), binary, 255},
	} {
		if got, ok := impl.SupplyOf(k.n, k.demands); !ok || got != k.want {
			t.Errorf("SupplyOf(%v, %v) = %d, %v, want %d", k.n, k.demands, got, ok, k.want)
		}
	}
	for _, n := range someNetworks() {
		for _, demands := range someDemands(r, n.Nodes) {
			if got, ok := impl.SupplyOf(n, demands); !ok || got != total(demands) {
				t.Fatalf("SupplyOf(%v, %v) = %d, %v", n, demands, got, ok)
			}
		}
	}
}

// checkNoBalance checks that ImbalanceAt and IsBalanced return zero values for these arguments.
func checkNoBalance(t *testing.T, n impl.Network, source int, demands []int, flows []int, node int) {
	t.Helper()
	imbalance, okAt := impl.ImbalanceAt(n, source, demands, flows, node)
	balanced, okAll := impl.IsBalanced(n, source, demands, flows)
	if okAt || okAll || imbalance != 0 || balanced {
		t.Errorf("ImbalanceAt and IsBalanced(%v, %d, %v, %v, %d) = %d, %v and %v, %v", n, source, demands, flows, node, imbalance, okAt, balanced, okAll)
	}
}

// checkNoSupply checks that the other functions with demands return zero values.
func checkNoSupply(t *testing.T, n impl.Network, source int, demands []int) {
	t.Helper()
	if flows, ok := impl.TreeFlows(n, source, demands); ok || len(flows) != 0 {
		t.Errorf("TreeFlows(%v, %d, %v) = %v, %v", n, source, demands, flows, ok)
	}
	if supply, ok := impl.SupplyOf(n, demands); ok || supply != 0 {
		t.Errorf("SupplyOf(%v, %v) = %d, %v", n, demands, supply, ok)
	}
}

// checkNoReversal checks that ReversedPipe returns zero values.
func checkNoReversal(t *testing.T, n impl.Network, flows []int, pipe int) {
	t.Helper()
	if m, turned, ok := impl.ReversedPipe(n, flows, pipe); ok || !isZero(m) || len(turned) != 0 {
		t.Errorf("ReversedPipe(%v, %v, %d) = %v, %v, %v", n, flows, pipe, m, turned, ok)
	}
}

// checkNoFlow checks that the functions with flows and without demands return zero values.
func checkNoFlow(t *testing.T, n impl.Network, flows []int) {
	t.Helper()
	if id, greatest, ok := impl.HeaviestPipe(n, flows); ok || id != 0 || greatest != 0 {
		t.Errorf("HeaviestPipe(%v, %v) = %d, %d, %v", n, flows, id, greatest, ok)
	}
	for _, p := range append(n.Pipes[:min(len(n.Pipes), 12):min(len(n.Pipes), 12)], impl.Pipe{Id: 50}) {
		checkNoReversal(t, n, flows, p.Id)
	}
}

func TestInvalidNetworksOfTreesYieldZeroValues(t *testing.T) {
	all := invalidTrees()
	for name, n := range invalidNetworks() {
		all[name] = n
	}
	for name, n := range all {
		if tree, ok := impl.IsTreeNetwork(n); ok || tree {
			t.Errorf("%s: IsTreeNetwork = %v, %v", name, tree, ok)
		}
		if tree, ok := impl.SpanningTree(n); ok || !isZero(tree) {
			t.Errorf("%s: SpanningTree = %v, %v", name, tree, ok)
		}
		for _, flow := range []int{0, 1, -8000} {
			checkNoFlow(t, n, slices.Repeat([]int{flow}, len(n.Pipes)))
		}
		for _, source := range []int{1, 2, 3, 9, 0, -1} {
			for _, p := range n.Pipes[:min(len(n.Pipes), 12)] {
				if nodes, ok := impl.DownstreamNodes(n, source, p.Id); ok || len(nodes) != 0 {
					t.Errorf("%s: DownstreamNodes(%d, %d) = %v, %v", name, source, p.Id, nodes, ok)
				}
			}
			for _, length := range []int{0, 1, 2, 3, 8, 9, 12} {
				checkNoSupply(t, n, source, make([]int, length))
				checkNoBalance(t, n, source, make([]int, length), make([]int, len(n.Pipes)), source)
			}
		}
	}
}

// invalidDemands returns lists that are no demands of a network, of which each breaks one rule.
func invalidDemands(n impl.Network) [][]int {
	good := binary[:n.Nodes]
	list := [][]int{good[1:], append(slices.Clone(good), 0), append(slices.Clone(good), 1000), slices.Repeat([]int{0}, 5000)}
	for i := range good {
		for _, value := range otherDemandValues {
			other := slices.Clone(good)
			other[i] = value
			list = append(list, other)
		}
	}
	return append(list, slices.Repeat([]int{-1}, n.Nodes), slices.Repeat([]int{1001}, n.Nodes), nil)
}

// invalidFlows returns lists that are no flows of a network, of which each breaks one rule.
func invalidFlows(n impl.Network) [][]int {
	good := make([]int, len(n.Pipes))
	list := [][]int{append(slices.Clone(good), 0), append(slices.Clone(good), 5), slices.Repeat([]int{0}, 5000)}
	for i := range good {
		list = append(list, good[1:], nil)
		for _, value := range otherFlowValues {
			other := slices.Clone(good)
			other[i] = value
			list = append(list, other)
		}
	}
	return list
}

// checkedNetworks returns networks of the kinds for which invalid other arguments are tried.
func checkedNetworks() []impl.Network {
	return append(inOrder(noTrees()), network(1), river(), deepTree(), starTree(), rowTree())
}

func TestInvalidDemandsYieldZeroValues(t *testing.T) {
	for _, n := range checkedNetworks() {
		for _, demands := range invalidDemands(n) {
			for source := 1; source <= n.Nodes; source++ {
				checkNoSupply(t, n, source, demands)
				checkNoBalance(t, n, source, demands, make([]int, len(n.Pipes)), source)
				checkNoBalance(t, n, source, demands, make([]int, len(n.Pipes)), 1)
			}
		}
	}
}

func TestInvalidFlowsYieldZeroValues(t *testing.T) {
	for _, n := range checkedNetworks() {
		for _, flows := range invalidFlows(n) {
			checkNoFlow(t, n, flows)
			for source := 1; source <= n.Nodes; source++ {
				checkNoBalance(t, n, source, make([]int, n.Nodes), flows, source)
				checkNoBalance(t, n, source, binary[:n.Nodes], flows, 1)
			}
			checkNoBalance(t, n, 1, make([]int, n.Nodes+1), flows, 1)
		}
	}
}

func TestFlowsMeetTheLimits(t *testing.T) {
	for _, n := range checkedNetworks() {
		for _, flow := range []int{-8000, 8000} {
			flows := slices.Repeat([]int{flow}, len(n.Pipes))
			checkBalance(t, n, 1, slices.Repeat([]int{1000}, n.Nodes), flows)
			if len(n.Pipes) == 0 {
				checkNoFlow(t, n, flows)
				continue
			}
			if id, greatest, ok := impl.HeaviestPipe(n, flows); !ok || id != n.Pipes[0].Id || greatest != 8000 {
				t.Errorf("HeaviestPipe(%v, %v) = %d, %d, %v", n, flows, id, greatest, ok)
			}
			if m, turned, ok := impl.ReversedPipe(n, flows, n.Pipes[0].Id); !ok || isZero(m) || turned[0] != -flow {
				t.Errorf("ReversedPipe(%v, %v) = %v, %v, %v", n, flows, m, turned, ok)
			}
		}
	}
}

func TestOtherNodesAndPipesOfTreesYieldZeroValues(t *testing.T) {
	for _, n := range checkedNetworks() {
		demands, flows := binary[:n.Nodes], make([]int, len(n.Pipes))
		for _, node := range []int{0, -1, n.Nodes + 1, 9, 100, 1 << 32, math.MaxInt, math.MinInt} {
			checkNoBalance(t, n, node, demands, flows, 1)
			checkNoBalance(t, n, node, demands, flows, node)
			if imbalance, ok := impl.ImbalanceAt(n, 1, demands, flows, node); ok || imbalance != 0 {
				t.Errorf("ImbalanceAt(%v, 1, %v, %v, %d) = %d, %v", n, demands, flows, node, imbalance, ok)
			}
			if got, ok := impl.TreeFlows(n, node, demands); ok || len(got) != 0 {
				t.Errorf("TreeFlows(%v, %d, %v) = %v, %v", n, node, demands, got, ok)
			}
			for _, p := range n.Pipes {
				if nodes, ok := impl.DownstreamNodes(n, node, p.Id); ok || len(nodes) != 0 {
					t.Errorf("DownstreamNodes(%v, %d, %d) = %v, %v", n, node, p.Id, nodes, ok)
				}
			}
		}
		for _, id := range []int{0, -1, -4, 8, 14, 97, 100, 1 << 32, math.MaxInt, math.MinInt} {
			if pipeIndex(n, id) >= 0 {
				continue
			}
			checkNoReversal(t, n, flows, id)
			for source := 1; source <= n.Nodes; source++ {
				if nodes, ok := impl.DownstreamNodes(n, source, id); ok || len(nodes) != 0 {
					t.Errorf("DownstreamNodes(%v, %d, %d) = %v, %v", n, source, id, nodes, ok)
				}
			}
		}
	}
}

// callAllForTrees calls every function of the chapter and overwrites all memory of the results.
func callAllForTrees(n impl.Network, demands []int, flows []int) {
	spoil := func(m impl.Network, lists ...[]int) {
		pipes := m.Pipes[:cap(m.Pipes)]
		for i := range pipes {
			pipes[i] = impl.Pipe{Id: -7}
		}
		for _, list := range lists {
			all := list[:cap(list)]
			for i := range all {
				all[i] = -7
			}
		}
	}
	impl.IsTreeNetwork(n)
	impl.SupplyOf(n, demands)
	impl.HeaviestPipe(n, flows)
	spanning, _ := impl.SpanningTree(n)
	spoil(spanning)
	for source := -1; source <= 9; source++ {
		impl.ImbalanceAt(n, source, demands, flows, 1)
		impl.ImbalanceAt(n, 1, demands, flows, source)
		impl.IsBalanced(n, source, demands, flows)
		brought, _ := impl.TreeFlows(n, source, demands)
		spoil(impl.Network{}, brought)
		for id := range 101 {
			nodes, _ := impl.DownstreamNodes(n, source, id)
			spoil(impl.Network{}, nodes)
		}
	}
	for id := range 101 {
		reversed, turned, _ := impl.ReversedPipe(n, flows, id)
		spoil(reversed, turned)
	}
}

func TestTreeFunctionsLeaveTheirArgumentsAlone(t *testing.T) {
	r := rand.New(rand.NewSource(91))
	check := func(n impl.Network, demands []int, flows []int) {
		arg, pipes := filled(n)
		demands, allDemands := roomBehind(demands)
		flows, allFlows := roomBehind(flows)
		pipesBefore, demandsBefore, flowsBefore := slices.Clone(pipes), slices.Clone(allDemands), slices.Clone(allFlows)
		callAllForTrees(arg, demands, flows)
		if !slices.Equal(pipes, pipesBefore) || !slices.Equal(allDemands, demandsBefore) || !slices.Equal(allFlows, flowsBefore) {
			t.Fatalf("an argument of %v, %v, %v is modified: %v, %v, %v", pipesBefore, demandsBefore, flowsBefore, pipes, allDemands, allFlows)
		}
	}
	for i, n := range someNetworks() {
		if i%3 == 0 {
			check(n, someDemands(r, n.Nodes)[r.Intn(6)], drawnFlows(r, n))
		}
	}
	for _, n := range checkedNetworks() {
		check(n, binary[:n.Nodes], drawnFlows(r, n))
		check(n, invalidDemands(n)[r.Intn(4)], drawnFlows(r, n))
		check(n, binary[:n.Nodes], invalidFlows(n)[r.Intn(3)])
	}
	for _, all := range []map[string]impl.Network{invalidNetworks(), invalidTrees()} {
		for _, n := range all {
			n.Nodes = min(max(n.Nodes, -1), 12)
			check(n, make([]int, max(n.Nodes, 0)), make([]int, len(n.Pipes)))
		}
	}
}

func TestNothingBehindTheArgumentsOfTreesIsRead(t *testing.T) {
	r := rand.New(rand.NewSource(92))
	for _, n := range someTrees() {
		arg, _ := filled(n)
		demands := someDemands(r, n.Nodes)[5]
		room, _ := roomBehind(demands)
		want, _ := impl.TreeFlows(n, 1, demands)
		if got, ok := impl.TreeFlows(arg, 1, room); !ok || !slices.Equal(got, want) {
			t.Fatalf("TreeFlows(%v, 1, %v) = %v, %v, want %v", n, demands, got, ok, want)
		}
		if got, ok := impl.SupplyOf(arg, room); !ok || got != total(demands) {
			t.Fatalf("SupplyOf(%v, %v) = %d, %v", n, demands, got, ok)
		}
		if got, ok := impl.SpanningTree(arg); !ok || !sameNetwork(got, n) {
			t.Fatalf("SpanningTree(%v) = %v, %v", n, got, ok)
		}
		for _, p := range arg.Pipes[len(n.Pipes):cap(arg.Pipes)] {
			if nodes, ok := impl.DownstreamNodes(arg, 1, p.Id); ok && pipeIndex(n, p.Id) < 0 {
				t.Fatalf("DownstreamNodes(%v, 1, %d) = %v, %v", n, p.Id, nodes, ok)
			}
		}
		short, _ := roomBehind(demands[:n.Nodes-1])
		checkNoSupply(t, arg, 1, short)
		short, _ = roomBehind(want[:max(len(want)-1, 0)])
		if len(want) > 0 {
			checkNoFlow(t, arg, short)
		}
	}
}

func TestTreeResultsShareNoMemory(t *testing.T) {
	n, flows := fullNetwork(), []int{0, 1, 2, 3, 4, 5, 6, 7, 8, 9}
	tree := deepTree()
	for name, call := range map[string]func() ([]int, impl.Network, bool){
		"TreeFlows": func() ([]int, impl.Network, bool) {
			list, ok := impl.TreeFlows(tree, 3, binary)
			return list, network(0), ok
		},
		"DownstreamNodes": func() ([]int, impl.Network, bool) {
			list, ok := impl.DownstreamNodes(tree, 3, 40)
			return list, network(0), ok
		},
		"SpanningTree": func() ([]int, impl.Network, bool) {
			m, ok := impl.SpanningTree(n)
			return nil, m, ok
		},
		"SpanningTree of a tree": func() ([]int, impl.Network, bool) {
			m, ok := impl.SpanningTree(tree)
			return nil, m, ok
		},
		"ReversedPipe": func() ([]int, impl.Network, bool) {
			m, list, ok := impl.ReversedPipe(n, flows, 33)
			return list, m, ok
		},
	} {
		list, m, _ := call()
		wantList, wantPipes := slices.Clone(list), slices.Clone(m.Pipes)
		otherList, other, _ := call()
		for i := range list {
			list[i] = -7
		}
		for i := range m.Pipes {
			m.Pipes[i] = impl.Pipe{Id: -7}
		}
		thirdList, third, ok := call()
		if !ok || len(wantList)+len(wantPipes) == 0 || !slices.Equal(otherList, wantList) || !slices.Equal(thirdList, wantList) {
			t.Error(name, "shares memory:", wantList, otherList, thirdList)
		}
		if !slices.Equal(other.Pipes, wantPipes) || !slices.Equal(third.Pipes, wantPipes) {
			t.Error(name, "shares memory:", wantPipes, other, third)
		}
	}
	if !sameNetwork(n, fullNetwork()) || !sameNetwork(tree, deepTree()) || !slices.Equal(flows, []int{0, 1, 2, 3, 4, 5, 6, 7, 8, 9}) {
		t.Error("an argument is modified:", n, tree, flows)
	}
}
