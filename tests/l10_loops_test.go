package tests

import (
	"maps"
	"math"
	"math/rand"
	"slices"
	"testing"

	"loop.example/g00853/impl"
)

// maxSplit is the limit MaxSplit, written out.
const maxSplit = 60

// otherTurns are numbers that no flows are turned by.
var otherTurns = []int{-8001, 8001, -16000, 16000, 1 << 32, -1 << 32, math.MinInt, math.MaxInt}

// otherPipes are Ids that few networks have, or none.
var otherPipes = []int{0, -1, -4, 8, 14, 97, 100, 1 << 32, math.MaxInt, math.MinInt}

// lasso is a loop of three nodes with a pipe that leads to it and one that hangs from it.
func lasso() impl.Network {
	return network(5, [4]int{1, 1, 2, 1}, [4]int{2, 2, 3, 2}, [4]int{3, 3, 4, 1}, [4]int{5, 4, 2, 3}, [4]int{9, 5, 4, 1})
}

// twins are two parallel pipes in the same direction.
func twins(first int, second int) impl.Network {
	return network(2, [4]int{1, 1, 2, first}, [4]int{2, 1, 2, second})
}

// opposites are two parallel pipes in opposite directions, the first one from node 2 to node 1.
func opposites(first int, second int) impl.Network {
	return network(2, [4]int{7, 2, 1, first}, [4]int{99, 1, 2, second})
}

// greatRing is a loop of MaxNodes nodes; neither its nodes nor its Ids are in order along it.
func greatRing() impl.Network {
	return network(8, [4]int{3, 5, 2, 9}, [4]int{4, 8, 1, 1}, [4]int{20, 5, 7, 2}, [4]int{21, 6, 3, 3},
		[4]int{30, 4, 8, 1}, [4]int{44, 1, 3, 5}, [4]int{45, 6, 7, 1}, [4]int{98, 4, 2, 2})
}

// roundRing is a loop of MaxNodes nodes in order, every pipe of which is passed from From to To.
func roundRing() impl.Network {
	return network(8, [4]int{1, 1, 2, 1}, [4]int{2, 2, 3, 1}, [4]int{3, 3, 4, 1}, [4]int{4, 4, 5, 1},
		[4]int{5, 5, 6, 1}, [4]int{6, 6, 7, 1}, [4]int{7, 7, 8, 1}, [4]int{8, 8, 1, 1})
}

// hungRing has two parallel pipes, Ids 40 and 41, with pipes of smaller and greater Ids around.
func hungRing() impl.Network {
	return network(8, [4]int{1, 3, 1, 1}, [4]int{2, 1, 8, 2}, [4]int{3, 4, 5, 9}, [4]int{40, 4, 3, 2},
		[4]int{41, 4, 3, 3}, [4]int{60, 6, 5, 1}, [4]int{61, 7, 5, 4}, [4]int{99, 2, 3, 1})
}

// knownRings returns rings of the kinds that the document tells apart.
func knownRings() []impl.Network {
	return []impl.Network{
		twins(1, 1), twins(1, 9), twins(9, 1), twins(3, 4), opposites(1, 1), opposites(2, 7), opposites(9, 8), lasso(), greatRing(), roundRing(), hungRing(),
		network(3, [4]int{1, 1, 2, 1}, [4]int{2, 2, 3, 1}, [4]int{3, 3, 1, 1}), network(3, [4]int{1, 2, 1, 1}, [4]int{2, 2, 3, 1}, [4]int{3, 3, 1, 1}),
		network(3, [4]int{1, 1, 2, 4}, [4]int{2, 1, 2, 4}, [4]int{3, 2, 3, 1}), network(3, [4]int{1, 1, 2, 4}, [4]int{2, 3, 2, 4}, [4]int{3, 2, 3, 1}),
		network(4, [4]int{1, 1, 2, 1}, [4]int{2, 4, 3, 1}, [4]int{3, 2, 3, 1}, [4]int{4, 1, 4, 1}),
	}
}

// orderedRings returns a shape of pipes with their Ids in all orders and in all directions.
func orderedRings(nodes int, pairs [][2]int) []impl.Network {
	var list []impl.Network
	var extend func(n impl.Network, left [][2]int)
	extend = func(n impl.Network, left [][2]int) {
		if len(left) == 0 {
			list = append(list, n)
		}
		for i, pair := range left {
			for _, ends := range [][2]int{pair, {pair[1], pair[0]}} {
				p := impl.Pipe{Id: 3 * (len(n.Pipes) + 1), From: ends[0], To: ends[1], Size: 1 + (5*ends[0]+ends[1])%9}
				extend(impl.Network{Nodes: nodes, Pipes: append(slices.Clone(n.Pipes), p)}, without(left, i))
			}
		}
	}
	extend(impl.Network{Nodes: nodes}, pairs)
	return list
}

// drawnRing returns a ring whose loop has a number of nodes; all else is drawn.
func drawnRing(r *rand.Rand, nodes int, around int) impl.Network {
	var pairs [][2]int
	order := r.Perm(nodes)
	for i := range nodes {
		if i < around {
			pairs = append(pairs, [2]int{order[i], order[(i+1)%around]})
		} else {
			pairs = append(pairs, [2]int{order[i], order[r.Intn(i)]})
		}
	}
	n, ids := impl.Network{Nodes: nodes}, r.Perm(99)[:nodes]
	slices.Sort(ids)
	for i, place := range r.Perm(nodes) {
		turn := r.Intn(2)
		n.Pipes = append(n.Pipes, impl.Pipe{Id: ids[i] + 1, From: pairs[place][turn] + 1, To: pairs[place][1-turn] + 1, Size: 1 + r.Intn(9)})
	}
	return n
}

// smallRings returns all rings of up to three nodes, and all of four nodes with a loop of four or
// three nodes, but for Ids and Sizes and, with four nodes, for the names of these.
func smallRings() []impl.Network {
	var list []impl.Network
	for _, n := range smallNetworks() {
		if isRing(n) {
			list = append(list, n)
		}
	}
	list = append(list, orderedRings(4, [][2]int{{1, 2}, {2, 3}, {3, 4}, {4, 1}})...)
	return append(list, orderedRings(4, [][2]int{{1, 2}, {2, 3}, {3, 1}, {1, 4}})...)
}

// someRings returns the rings that the general tests go through.
func someRings() []impl.Network {
	list := slices.Concat(knownRings(), smallRings())
	r := rand.New(rand.NewSource(10))
	for i := range 420 {
		nodes := 2 + i%(impl.MaxNodes-1)
		list = append(list, drawnRing(r, nodes, 2+r.Intn(nodes-1)))
	}
	return list
}

// noRings returns valid networks that are no rings.
func noRings() map[string]impl.Network {
	a, b, c := [4]int{1, 1, 2, 1}, [4]int{2, 2, 3, 1}, [4]int{3, 3, 1, 1}
	round := roundRing()
	more := impl.Network{Nodes: 8, Pipes: append(slices.Clone(round.Pipes), impl.Pipe{Id: 9, From: 4, To: 8, Size: 1})}
	return map[string]impl.Network{
		"one node": network(1), "two nodes": network(2), "three nodes": network(3), "two nodes and a pipe": network(2, a), "river": river(), "star": starTree(),
		"three pipes between two nodes":                      network(2, a, [4]int{2, 1, 2, 1}, [4]int{3, 2, 1, 1}),
		"two pipes between two nodes and a node apart":       network(3, a, [4]int{2, 2, 1, 1}),
		"three pipes between two nodes and a node apart":     network(3, a, [4]int{2, 2, 1, 1}, [4]int{3, 1, 2, 1}),
		"three pipes between two nodes and node 1 apart":     network(3, b, [4]int{3, 3, 2, 1}, [4]int{4, 2, 3, 1}),
		"ring of three and a node apart":                     network(4, a, b, c),
		"ring of three with a pipe more and a node apart":    network(4, a, b, c, [4]int{4, 2, 1, 1}),
		"ring of three with a pipe more and node 1 apart":    network(4, [4]int{1, 4, 2, 1}, b, [4]int{3, 3, 4, 1}, [4]int{4, 2, 4, 1}),
		"ring of three with a pipe more":                     network(3, a, b, c, [4]int{4, 3, 1, 1}),
		"twice two pipes between two nodes":                  network(4, a, [4]int{2, 2, 1, 1}, [4]int{3, 3, 4, 1}, [4]int{4, 3, 4, 1}),
		"two rings of three, as many pipes as nodes":         network(6, a, b, c, [4]int{4, 4, 5, 1}, [4]int{5, 5, 6, 1}, [4]int{6, 6, 4, 1}),
		"two rings of three, one pipe between them":          network(6, a, b, c, [4]int{4, 4, 5, 1}, [4]int{5, 5, 6, 1}, [4]int{6, 6, 4, 1}, [4]int{7, 1, 4, 1}),
		"two rings and a pipe, as many pipes as nodes":       network(7, a, b, c, [4]int{4, 4, 5, 1}, [4]int{5, 5, 6, 1}, [4]int{6, 6, 4, 1}, [4]int{7, 6, 7, 1}),
		"a ring of three, a pipe more between and one apart": network(5, a, b, c, [4]int{4, 1, 2, 1}, [4]int{5, 4, 5, 1}),
		"a ring of MaxNodes and one pipe more":               more,
		"a ring of MaxNodes and one pipe less":               {Nodes: 8, Pipes: round.Pipes[1:]},
		"as many pipes as possible":                          fullNetwork(), "two rings, two pipes, a node apart": twoRings(),
	}
}

// invalidRings returns networks of which each would be a ring but for one rule that it breaks.
func invalidRings() map[string]impl.Network {
	a, b := [4]int{5, 1, 2, 3}, [4]int{6, 2, 3, 3}
	var around [][4]int
	for id := 1; id <= 9; id++ {
		around = append(around, [4]int{id, id, id%9 + 1, 1})
	}
	return map[string]impl.Network{
		"Id 0": network(2, [4]int{0, 1, 2, 3}, a), "Id -1": network(2, [4]int{-1, 1, 2, 3}, a), "Id 100": network(2, a, [4]int{100, 2, 1, 3}),
		"same Id": network(2, a, [4]int{5, 2, 1, 3}), "descending": network(2, [4]int{6, 1, 2, 1}, a), "Size 0": network(2, a, [4]int{6, 2, 1, 0}),
		"Size 10": network(2, [4]int{4, 2, 1, 10}, a), "Size -1": network(2, a, [4]int{6, 1, 2, -1}), "nine nodes": network(9, around...),
		"one node and a pipe": network(1, [4]int{1, 1, 1, 1}), "one node and a pipe to another": network(1, a), "a pipe to itself": network(2, a, [4]int{6, 2, 2, 1}),
		"From 0": network(3, a, b, [4]int{7, 0, 3, 1}), "To 4": network(3, a, b, [4]int{7, 3, 4, 1}), "To 0": network(2, a, [4]int{7, 1, 0, 1}),
	}
}

// isRing tells by the document's rule whether a valid network is a ring.
func isRing(n impl.Network) bool {
	connected := wantedConnected(n, 0)
	for node := 1; node <= n.Nodes; node++ {
		if !connected[1][node] {
			return false
		}
	}
	return len(n.Pipes) == n.Nodes
}

// wantedSigns returns, for each pipe of a ring, 1 or -1 by the direction in which the first way
// around passes it, or 0 for a bridge, and the Ids on this way: through the first pipe of the
// loop, and back on the only way without it.
func wantedSigns(n impl.Network) ([]int, []int) {
	signs := make([]int, len(n.Pipes))
	first := slices.IndexFunc(n.Pipes, func(p impl.Pipe) bool { return wantedConnected(n, p.Id)[p.From][p.To] })
	p := n.Pipes[first]
	opened := impl.Network{Nodes: n.Nodes, Pipes: without(n.Pipes, first)}
	way := append([]int{p.Id}, waysFrom(opened, p.To)[p.From][0]...)
	here := p.From
	for _, id := range way {
		i := pipeIndex(n, id)
		if n.Pipes[i].From == here {
			signs[i], here = 1, n.Pipes[i].To
		} else {
			signs[i], here = -1, n.Pipes[i].From
		}
	}
	return signs, way
}

// wantedTurn returns flows after a turn.
func wantedTurn(flows []int, signs []int, x int) []int {
	list := make([]int, len(flows))
	for i, flow := range flows {
		list[i] = flow + x*signs[i]
	}
	return list
}

// wantedEnergy returns the energy of flows, and whether there is one.
func wantedEnergy(n impl.Network, flows []int) (int, bool) {
	energy := 0
	for i, p := range n.Pipes {
		q := flows[i]
		if q < 0 {
			q = -q
		}
		if q > 2000 {
			return 0, false
		}
		energy += p.Size * q * q * q
	}
	return energy, true
}

// wantedRingFlows returns the flows of a ring with the smallest energy, by trying every turn of
// some flows that balance for which there is an energy, and how many lists have it.
func wantedRingFlows(n impl.Network, source int, demands []int) ([]int, int) {
	signs, _ := wantedSigns(n)
	flows := broughtFlows(n, source, demands, func(ways [][]int) []int { return ways[0] })
	room := make([]int, len(flows))
	turn, least, ties := 0, math.MaxInt, 0
	for x := -2200; x <= 2200; x++ {
		for i, flow := range flows {
			room[i] = flow + x*signs[i]
		}
		energy, ok := wantedEnergy(n, room)
		switch {
		case ok && energy < least:
			turn, least, ties = x, energy, 1
		case ok && energy == least:
			ties++
		}
	}
	return wantedTurn(flows, signs, turn), ties
}

// drops returns a number of drops that fall on drawn nodes.
func drops(r *rand.Rand, nodes int, number int) []int {
	list := make([]int, nodes)
	for range number {
		list[r.Intn(nodes)]++
	}
	return list
}

// ringDemands returns lists of demands for a number of nodes, the sum of which is at most 200.
func ringDemands(r *rand.Rand, nodes int) [][]int {
	one := make([]int, nodes)
	one[r.Intn(nodes)] = []int{1, 2, 3, 199, 200}[r.Intn(5)]
	return [][]int{make([]int, nodes), one, drops(r, nodes, 1+r.Intn(9)), drops(r, nodes, r.Intn(201)), drops(r, nodes, 200)}
}

func TestTheLimitOfSplits(t *testing.T) {
	if impl.MaxSplit != maxSplit {
		t.Error("MaxSplit is", impl.MaxSplit)
	}
}

func TestSomeRingsAreOfManyKinds(t *testing.T) {
	nodes, around, against, later := map[int]int{}, map[int]int{}, map[int]int{}, 0
	for _, n := range someRings() {
		if !impl.IsValidNetwork(n) || !isRing(n) {
			t.Fatal("no ring:", n)
		}
		signs, way := wantedSigns(n)
		nodes[n.Nodes]++
		around[len(way)]++
		negative := 0
		for _, sign := range signs {
			if sign < 0 {
				negative++
			}
		}
		against[negative]++
		if signs[0] == 0 {
			later++
		}
	}
	for number := 2; number <= impl.MaxNodes; number++ {
		if nodes[number] < 60 || around[number] < 5 {
			t.Error("too few rings of", number, "nodes:", nodes[number], around[number])
		}
	}
	if min(against[0], against[1], against[2], against[3], later) < 50 {
		t.Error("too few rings of some kind:", against, later)
	}
	for name, n := range noRings() {
		if !impl.IsValidNetwork(n) || isRing(n) {
			t.Error("invalid or a ring:", name)
		}
	}
	for name, n := range invalidRings() {
		if impl.IsValidNetwork(n) {
			t.Error("valid:", name)
		}
	}
}

func TestRingsAndOtherNetworks(t *testing.T) {
	for _, n := range someRings() {
		if ring, ok := impl.IsRing(n); !ok || !ring {
			t.Errorf("IsRing(%v) = %v, %v", n, ring, ok)
		}
	}
	for name, n := range noRings() {
		if ring, ok := impl.IsRing(n); !ok || ring {
			t.Errorf("%s: IsRing(%v) = %v, %v", name, n, ring, ok)
		}
	}
	rings, apart, fewer, more := 0, 0, 0, 0
	for _, n := range append(allNetworks(), someNetworks()...) {
		ring, ok := impl.IsRing(n)
		if !ok || ring != isRing(n) {
			t.Fatalf("IsRing(%v) = %v, %v", n, ring, ok)
		}
		switch {
		case ring:
			rings++
		case len(n.Pipes) == n.Nodes:
			apart++
		case len(n.Pipes) < n.Nodes:
			fewer++
		default:
			more++
		}
	}
	if min(rings, apart, fewer, more) < 50 {
		t.Error("too few networks of some kind:", rings, apart, fewer, more)
	}
}

func TestKnownLoops(t *testing.T) {
	for _, k := range []struct {
		n          impl.Network
		ids, turns []int
	}{
		{lasso(), []int{2, 3, 5}, []int{1, 1, 1}}, {twins(1, 1), []int{1, 2}, []int{1, -1}}, {opposites(1, 1), []int{7, 99}, []int{1, 1}},
		{network(2, [4]int{4, 1, 2, 5}, [4]int{5, 2, 1, 6}), []int{4, 5}, []int{1, 1}}, {network(2, [4]int{4, 2, 1, 5}, [4]int{5, 2, 1, 6}), []int{4, 5}, []int{1, -1}},
		{roundRing(), []int{1, 2, 3, 4, 5, 6, 7, 8}, []int{1, 1, 1, 1, 1, 1, 1, 1}}, {greatRing(), []int{3, 4, 20, 21, 30, 44, 45, 98}, []int{1, 1, -1, -1, 1, 1, 1, -1}},
		{hungRing(), []int{40, 41}, []int{1, -1}}, {network(3, [4]int{1, 1, 2, 1}, [4]int{2, 2, 3, 1}, [4]int{3, 3, 1, 1}), []int{1, 2, 3}, []int{1, 1, 1}},
		{network(3, [4]int{1, 2, 1, 1}, [4]int{2, 2, 3, 1}, [4]int{3, 3, 1, 1}), []int{1, 2, 3}, []int{1, -1, -1}},
		{network(3, [4]int{1, 1, 2, 1}, [4]int{2, 1, 3, 1}, [4]int{3, 2, 3, 1}), []int{1, 2, 3}, []int{1, -1, 1}},
		{network(3, [4]int{1, 1, 2, 4}, [4]int{2, 3, 2, 4}, [4]int{3, 2, 3, 1}), []int{2, 3}, []int{1, 1}},
		{network(3, [4]int{10, 3, 2, 4}, [4]int{20, 1, 2, 4}, [4]int{30, 3, 2, 1}), []int{10, 30}, []int{1, -1}},
		{network(4, [4]int{1, 1, 2, 1}, [4]int{2, 4, 3, 1}, [4]int{3, 2, 3, 1}, [4]int{4, 1, 4, 1}), []int{1, 2, 3, 4}, []int{1, -1, 1, -1}},
		{network(4, [4]int{6, 4, 1, 1}, [4]int{7, 3, 2, 1}, [4]int{8, 1, 2, 1}, [4]int{9, 1, 3, 1}), []int{7, 8, 9}, []int{1, -1, 1}},
	} {
		if ids, turns, ok := impl.LoopOf(k.n); !ok || !slices.Equal(ids, k.ids) || !slices.Equal(turns, k.turns) {
			t.Errorf("LoopOf(%v) = %v, %v, %v, want %v, %v", k.n, ids, turns, ok, k.ids, k.turns)
		}
	}
}

func TestLoopsArePassedOnTheFirstWayAround(t *testing.T) {
	whole, hung := 0, 0
	for _, n := range someRings() {
		signs, way := wantedSigns(n)
		wantIds, wantTurns := slices.Sorted(slices.Values(way)), slices.DeleteFunc(slices.Clone(signs), func(sign int) bool { return sign == 0 })
		ids, turns, ok := impl.LoopOf(n)
		if !ok || !slices.Equal(ids, wantIds) || !slices.Equal(turns, wantTurns) {
			t.Fatalf("LoopOf(%v) = %v, %v, %v, want %v, %v", n, ids, turns, ok, wantIds, wantTurns)
		}
		bridges, _ := impl.BridgePipes(n)
		if both := slices.Sorted(slices.Values(slices.Concat(ids, bridges))); len(both) != len(n.Pipes) || turns[0] != 1 {
			t.Fatalf("LoopOf(%v) = %v, %v, but the bridges are %v", n, ids, turns, bridges)
		}
		if len(bridges) == 0 {
			whole++
		} else {
			hung++
		}
	}
	if min(whole, hung) < 100 {
		t.Error("too few of some kind:", whole, hung)
	}
}

func TestReversingAPipeChangesTheWayAround(t *testing.T) {
	for _, n := range someRings() {
		ids, turns, _ := impl.LoopOf(n)
		for _, p := range n.Pipes {
			turned, _, _ := impl.ReversedPipe(n, make([]int, len(n.Pipes)), p.Id)
			want := slices.Clone(turns)
			// With the first pipe, the way around is reversed; without it, only that one pipe.
			for i, id := range ids {
				if (id == p.Id) != (ids[0] == p.Id) {
					want[i] = -want[i]
				}
			}
			if sameIds, got, ok := impl.LoopOf(turned); !ok || !slices.Equal(sameIds, ids) || !slices.Equal(got, want) {
				t.Fatalf("LoopOf(%v) = %v, %v, %v, want %v, %v", turned, sameIds, got, ok, ids, want)
			}
		}
	}
}

func TestKnownTurns(t *testing.T) {
	for _, k := range []struct {
		n     impl.Network
		flows []int
		x     int
		want  []int // nil if it fails
	}{
		{lasso(), []int{11, 6, 0, -5, -2}, -2, []int{11, 4, -2, -7, -2}}, {lasso(), []int{11, 6, 0, -5, -2}, 0, []int{11, 6, 0, -5, -2}},
		{lasso(), []int{11, 6, 0, -5, -2}, 5, []int{11, 11, 5, 0, -2}}, {lasso(), []int{8000, 0, 0, 0, -8000}, 8000, []int{8000, 8000, 8000, 8000, -8000}},
		{lasso(), []int{8000, 0, 0, 0, -8000}, -8000, []int{8000, -8000, -8000, -8000, -8000}}, {lasso(), []int{0, -1, -1, -1, 0}, 8001, nil},
		{lasso(), []int{0, 1, 1, 1, 0}, -8001, nil}, {lasso(), []int{0, 0, 0, 1, 0}, 8000, nil}, {lasso(), []int{0, 0, 0, 1, 0}, 7999, []int{0, 7999, 7999, 8000, 0}},
		{lasso(), []int{0, 0, 0, 1, 0}, -8000, []int{0, -8000, -8000, -7999, 0}}, {lasso(), []int{0, -1, 0, 0, 0}, -8000, nil}, {lasso(), []int{0, -1, 0, 0, 0}, -7999, []int{0, -8000, -7999, -7999, 0}},
		{lasso(), []int{0, -8000, -8000, -8000, 0}, 8000, []int{0, 0, 0, 0, 0}}, {lasso(), []int{0, 8000, 8000, 8000, 0}, -8000, []int{0, 0, 0, 0, 0}},
		{lasso(), []int{0, 8000, -8000, 0, 0}, 0, []int{0, 8000, -8000, 0, 0}}, {lasso(), []int{0, 8000, -8000, 0, 0}, 1, nil}, {lasso(), []int{0, 8000, -8000, 0, 0}, -1, nil},
		{twins(1, 1), []int{3, 4}, 1, []int{4, 3}}, {twins(1, 1), []int{3, 4}, -5, []int{-2, 9}}, {twins(1, 1), []int{-8000, 8000}, 8000, []int{0, 0}}, {twins(1, 1), []int{0, 0}, -8000, []int{-8000, 8000}},
		{twins(1, 1), []int{0, -1}, 8000, nil}, {twins(1, 1), []int{0, -1}, 7999, []int{7999, -8000}}, {twins(1, 1), []int{0, -1}, -8000, []int{-8000, 7999}}, {twins(1, 1), []int{0, 1}, -8000, nil},
		{opposites(1, 1), []int{3, 4}, 1, []int{4, 5}}, {opposites(1, 1), []int{3, 4}, -5, []int{-2, -1}}, {opposites(1, 1), []int{-8000, -8000}, 8000, []int{0, 0}},
		{opposites(1, 1), []int{-8000, -7999}, 8000, []int{0, 1}}, {opposites(1, 1), []int{8000, -8000}, 0, []int{8000, -8000}}, {opposites(1, 1), []int{8000, -8000}, 1, nil}, {opposites(1, 1), []int{8000, -8000}, -1, nil},
		{greatRing(), []int{1, 2, 3, 4, 5, 6, 7, 8}, 10, []int{11, 12, -7, -6, 15, 16, 17, -2}}, {roundRing(), make([]int, 8), -3, slices.Repeat([]int{-3}, 8)},
		{hungRing(), []int{1, 2, 3, 4, 5, 6, 7, 8}, 9, []int{1, 2, 3, 13, -4, 6, 7, 8}},
	} {
		if got, ok := impl.TurnFlows(k.n, k.flows, k.x); ok != (k.want != nil) || !slices.Equal(got, k.want) {
			t.Errorf("TurnFlows(%v, %v, %d) = %v, %v, want %v", k.n, k.flows, k.x, got, ok, k.want)
		}
	}
}

// turnLimits returns the smallest and the greatest number by which flows can be turned.
func turnLimits(flows []int, signs []int) (int, int) {
	low, high := -8000, 8000
	for i, flow := range flows {
		if signs[i] != 0 {
			low, high = max(low, -8000-flow*signs[i]), min(high, 8000-flow*signs[i])
		}
	}
	return low, high
}

func TestTurnedFlowsStayFlows(t *testing.T) {
	r := rand.New(rand.NewSource(101))
	good, bad := 0, 0
	for _, n := range someRings() {
		signs, _ := wantedSigns(n)
		few := make([]int, len(n.Pipes))
		for i := range few {
			few[i] = r.Intn(2001) - 1000
		}
		for _, flows := range [][]int{make([]int, len(n.Pipes)), drawnFlows(r, n), few} {
			low, high := turnLimits(flows, signs)
			for _, x := range append([]int{low - 1, low, low + 1, high - 1, high, high + 1, 0, 1, -1, 8000, -8000, r.Intn(16001) - 8000}, otherTurns...) {
				got, ok := impl.TurnFlows(n, flows, x)
				if x < low || x > high {
					bad++
					if ok || len(got) != 0 {
						t.Fatalf("TurnFlows(%v, %v, %d) = %v, %v", n, flows, x, got, ok)
					}
					continue
				}
				good++
				if want := wantedTurn(flows, signs, x); !ok || !slices.Equal(got, want) {
					t.Fatalf("TurnFlows(%v, %v, %d) = %v, %v, want %v", n, flows, x, got, ok, want)
				}
				if back, ok := impl.TurnFlows(n, got, -x); !ok || !slices.Equal(back, flows) {
					t.Fatalf("TurnFlows(%v, %v, %d) = %v, %v, want %v", n, got, -x, back, ok, flows)
				}
			}
		}
	}
	if min(good, bad) < 10000 {
		t.Error("too few of some kind:", good, bad)
	}
}

func TestTurnsChangeNoImbalance(t *testing.T) {
	r := rand.New(rand.NewSource(102))
	for _, n := range someRings() {
		flows, source, demands := make([]int, len(n.Pipes)), 1+r.Intn(n.Nodes), someDemands(r, n.Nodes)[5]
		for i := range flows {
			flows[i] = r.Intn(4001) - 2000
		}
		turned, ok := impl.TurnFlows(n, flows, r.Intn(12001)-6000)
		if !ok {
			t.Fatalf("TurnFlows(%v, %v) fails", n, flows)
		}
		for node := 1; node <= n.Nodes; node++ {
			before, _ := impl.ImbalanceAt(n, source, demands, flows, node)
			if after, ok := impl.ImbalanceAt(n, source, demands, turned, node); !ok || after != before {
				t.Fatalf("ImbalanceAt(%v, %d, %v, %v, %d) = %d, %v, but %d before the turn", n, source, demands, turned, node, after, ok, before)
			}
		}
	}
}

func TestKnownFlowsOfRings(t *testing.T) {
	for _, k := range []struct {
		n       impl.Network
		source  int
		demands []int
		want    []int // nil if it fails
	}{
		{lasso(), 1, []int{0, 0, 6, 3, 2}, []int{11, 6, 0, -5, -2}}, {lasso(), 1, []int{0, 0, 0, 0, 0}, []int{0, 0, 0, 0, 0}}, {lasso(), 1, []int{200, 0, 0, 0, 0}, []int{0, 0, 0, 0, 0}},
		{lasso(), 1, []int{201, 0, 0, 0, 0}, nil}, {lasso(), 1, []int{0, 0, 0, 0, 201}, nil}, {lasso(), 1, []int{100, 0, 0, 0, 100}, []int{100, 50, 50, -50, -100}},
		{lasso(), 1, []int{100, 0, 0, 1, 100}, nil}, {lasso(), 1, []int{1000, 1000, 1000, 1000, 1000}, nil},
		{twins(1, 1), 1, []int{0, 0}, []int{0, 0}}, {twins(1, 1), 1, []int{0, 1}, []int{0, 1}}, {twins(1, 1), 1, []int{5, 2}, []int{1, 1}}, {twins(1, 1), 1, []int{0, 3}, []int{1, 2}},
		{twins(1, 1), 2, []int{3, 9}, []int{-2, -1}}, {twins(1, 1), 2, []int{4, 0}, []int{-2, -2}}, {twins(1, 1), 1, []int{0, 200}, []int{100, 100}}, {twins(1, 1), 1, []int{0, 199}, []int{99, 100}},
		{twins(1, 1), 1, []int{0, 201}, nil}, {twins(1, 1), 1, []int{1, 200}, nil}, {twins(1, 1), 2, []int{199, 1}, []int{-100, -99}},
		{twins(1, 4), 1, []int{0, 3}, []int{2, 1}}, {twins(4, 1), 1, []int{0, 3}, []int{1, 2}}, {twins(9, 1), 1, []int{0, 200}, []int{50, 150}}, {twins(1, 9), 2, []int{200, 0}, []int{-150, -50}},
		{opposites(1, 1), 1, []int{0, 3}, []int{-2, 1}}, {opposites(1, 1), 1, []int{0, 4}, []int{-2, 2}}, {opposites(1, 1), 2, []int{3, 0}, []int{1, -2}}, {opposites(1, 1), 2, []int{200, 0}, []int{100, -100}},
		{opposites(4, 1), 2, []int{9, 0}, []int{3, -6}}, {opposites(1, 1), 2, []int{0, 200}, []int{0, 0}}, {opposites(1, 1), 2, []int{0, 201}, nil},
		{roundRing(), 1, []int{0, 0, 0, 0, 8, 0, 0, 0}, []int{4, 4, 4, 4, -4, -4, -4, -4}}, {roundRing(), 1, []int{0, 0, 0, 0, 7, 0, 0, 0}, []int{3, 3, 3, 3, -4, -4, -4, -4}},
		{roundRing(), 5, []int{7, 0, 0, 0, 0, 0, 0, 0}, []int{-4, -4, -4, -4, 3, 3, 3, 3}}, {roundRing(), 1, []int{25, 25, 25, 25, 25, 25, 25, 25}, []int{87, 62, 37, 12, -13, -38, -63, -88}},
		{hungRing(), 7, []int{1, 0, 0, 0, 0, 0, 0, 4}, []int{5, 4, -5, 3, 2, 0, 5, 0}}, {hungRing(), 8, []int{0, 0, 0, 0, 0, 6, 0, 0}, []int{-6, -6, 6, -3, -3, -6, 0, 0}},
	} {
		if got, ok := impl.RingFlows(k.n, k.source, k.demands); ok != (k.want != nil) || !slices.Equal(got, k.want) {
			t.Errorf("RingFlows(%v, %d, %v) = %v, %v, want %v", k.n, k.source, k.demands, got, ok, k.want)
		}
	}
}

// checkNoBetterTurn checks that a turn of flows by one makes the energy no smaller, and returns
// in how many directions it stays the same.
func checkNoBetterTurn(t *testing.T, n impl.Network, flows []int) int {
	t.Helper()
	same := 0
	energy, ok := impl.EnergyOf(n, flows)
	if want, _ := wantedEnergy(n, flows); !ok || energy != want {
		t.Fatalf("EnergyOf(%v, %v) = %d, %v, want %d", n, flows, energy, ok, want)
	}
	for _, x := range []int{-1, 1} {
		turned, ok := impl.TurnFlows(n, flows, x)
		other, fine := impl.EnergyOf(n, turned)
		if !ok || !fine || other < energy || other == energy && x < 0 {
			t.Fatalf("a turn of %v in %v by %d changes the energy %d to %d", flows, n, x, energy, other)
		}
		if other == energy {
			same++
		}
		// The loss of the loop tells in which direction the energy falls.
		if loss, ok := impl.LoopLoss(n, turned); !ok || loss*x <= 0 {
			t.Fatalf("LoopLoss(%v, %v) = %d, %v", n, turned, loss, ok)
		}
	}
	return same
}

// evened returns a network with pipes of one size, with which many energies are equal.
func evened(n impl.Network) impl.Network {
	even := impl.Network{Nodes: n.Nodes, Pipes: slices.Clone(n.Pipes)}
	for i := range even.Pipes {
		even.Pipes[i].Size = 2
	}
	return even
}

func TestNoTurnOfARingMakesTheEnergySmaller(t *testing.T) {
	r := rand.New(rand.NewSource(103))
	ties, single, with, against, still := 0, 0, 0, 0, 0
	check := func(n impl.Network, source int, demands []int) {
		flows, ok := impl.RingFlows(n, source, demands)
		want, number := wantedRingFlows(n, source, demands)
		if !ok || !slices.Equal(flows, want) {
			t.Fatalf("RingFlows(%v, %d, %v) = %v, %v, want %v", n, source, demands, flows, ok, want)
		}
		if !checkBalance(t, n, source, demands, flows) {
			t.Fatalf("RingFlows(%v, %d, %v) = %v do not balance", n, source, demands, flows)
		}
		if same := checkNoBetterTurn(t, n, flows); same != number-1 {
			t.Fatalf("RingFlows(%v, %d, %v) = %v, but %d lists are as good", n, source, demands, flows, number)
		}
		if number > 1 {
			ties++
		} else {
			single++
		}
		ids, _, _ := impl.LoopOf(n)
		switch first := flows[pipeIndex(n, ids[0])]; {
		case first > 0:
			with++
		case first < 0:
			against++
		default:
			still++
		}
	}
	for _, n := range someRings() {
		for _, demands := range ringDemands(r, n.Nodes) {
			source := 1 + r.Intn(n.Nodes)
			check(n, source, demands)
			check(evened(n), source, demands)
		}
	}
	if min(ties, single, with, against, still) < 500 {
		t.Error("too few of some kind:", ties, single, with, against, still)
	}
}

// allLists calls a function with all lists of a length with numbers in -bound..bound, in memory
// that is used again.
func allLists(length int, bound int, call func(list []int)) {
	list := make([]int, length)
	var fill func(place int)
	fill = func(place int) {
		if place == length {
			call(list)
			return
		}
		for value := -bound; value <= bound; value++ {
			list[place] = value
			fill(place + 1)
		}
	}
	fill(0)
}

func TestNoFlowsThatBalanceHaveASmallerEnergy(t *testing.T) {
	r := rand.New(rand.NewSource(105))
	ties := 0
	for i, n := range smallRings() {
		if i%2 == 0 {
			n = evened(n)
		}
		source, demands := 1+r.Intn(n.Nodes), drops(r, n.Nodes, 1+r.Intn(3))
		flows, ok := impl.RingFlows(n, source, demands)
		if !ok {
			t.Fatalf("RingFlows(%v, %d, %v) fails", n, source, demands)
		}
		energy, _ := wantedEnergy(n, flows)
		signs, _ := wantedSigns(n)
		first := slices.Index(signs, 1)
		found := false
		allLists(len(n.Pipes), 4, func(list []int) {
			if !wantedBalance(n, source, demands, list) {
				return
			}
			other, _ := wantedEnergy(n, list)
			if other < energy || other == energy && list[first] < flows[first] {
				t.Fatalf("RingFlows(%v, %d, %v) = %v with the energy %d, but %v has %d", n, source, demands, flows, energy, list, other)
			}
			if other == energy && list[first] > flows[first] {
				ties++
			}
			found = found || slices.Equal(list, flows)
			if turned, ok := impl.TurnFlows(n, flows, list[first]-flows[first]); !ok || !slices.Equal(turned, list) {
				t.Fatalf("%v is no turn of %v in %v, but balances from %d with %v", list, flows, n, source, demands)
			}
		})
		if !found {
			t.Fatalf("RingFlows(%v, %d, %v) = %v do not balance", n, source, demands, flows)
		}
	}
	if ties < 50 {
		t.Error("too few ties:", ties)
	}
}

func TestRingsAreSuppliedUpToTheLimit(t *testing.T) {
	r := rand.New(rand.NewSource(106))
	for _, n := range someRings() {
		for number := 199; number <= 202; number++ {
			demands, source := drops(r, n.Nodes, number), 1+r.Intn(n.Nodes)
			flows, ok := impl.RingFlows(n, source, demands)
			if ok != (number <= 200) || ok != (len(flows) > 0) {
				t.Fatalf("RingFlows(%v, %d, %v) = %v, %v", n, source, demands, flows, ok)
			}
		}
		one := make([]int, n.Nodes)
		for node := 1; node <= n.Nodes; node++ {
			one[node-1] = 200
			if flows, ok := impl.RingFlows(n, 1, one); !ok || !checkBalance(t, n, 1, one, flows) {
				t.Fatalf("RingFlows(%v, 1, %v) = %v, %v", n, one, flows, ok)
			}
			for _, demand := range []int{201, 1000} {
				one[node-1] = demand
				checkNoRingFlows(t, n, 1, one)
			}
			one[node-1] = 0
		}
	}
}

func TestKnownLossesOfLoops(t *testing.T) {
	for _, k := range []struct {
		n     impl.Network
		flows []int
		want  int
	}{
		{lasso(), []int{11, 6, 0, -5, -2}, 72 - 75}, {lasso(), []int{11, 5, -1, -6, -2}, 50 - 1 - 108}, {lasso(), []int{-8000, 0, 0, 0, 8000}, 0}, {lasso(), []int{0, -1, -2, -3, 0}, -2 - 4 - 27},
		{lasso(), []int{0, 8000, 8000, 8000, 0}, 6 * 64000000}, {lasso(), []int{0, -8000, -8000, -8000, 0}, -6 * 64000000},
		{twins(1, 1), []int{3, 4}, -7}, {twins(1, 1), []int{4, 3}, 7}, {twins(2, 3), []int{-4, 3}, -32 - 27}, {twins(2, 3), []int{-4, -3}, -32 + 27}, {twins(2, 3), []int{0, -3}, 27}, {twins(9, 9), []int{8000, -8000}, 18 * 64000000},
		{opposites(1, 1), []int{3, 4}, 25}, {opposites(2, 3), []int{-4, 3}, -32 + 27}, {opposites(2, 3), []int{4, -3}, 32 - 27}, {opposites(2, 3), []int{-4, -3}, -32 - 27}, {opposites(2, 3), []int{0, 0}, 0},
		{greatRing(), []int{1, 2, 3, 4, 5, 6, 7, 8}, 9 + 4 - 18 - 48 + 25 + 180 + 49 - 128}, {greatRing(), []int{-1, 2, -3, 4, -5, 6, -7, 8}, -9 + 4 + 18 - 48 - 25 + 180 - 49 - 128},
		{hungRing(), []int{100, 200, 300, 5, 4, 600, 700, 800}, 50 - 48}, {hungRing(), []int{0, 0, 0, -5, 4, 0, 0, 0}, -50 - 48},
	} {
		if got, ok := impl.LoopLoss(k.n, k.flows); !ok || got != k.want {
			t.Errorf("LoopLoss(%v, %v) = %d, %v, want %d", k.n, k.flows, got, ok, k.want)
		}
	}
}

func TestLossesOfLoopsAddUpOnTheWayAround(t *testing.T) {
	r := rand.New(rand.NewSource(107))
	positive, zero, negative := 0, 0, 0
	for _, n := range someRings() {
		_, way := wantedSigns(n)
		start := n.Pipes[pipeIndex(n, way[0])].From
		for _, flows := range [][]int{drawnFlows(r, n), drawnFlows(r, n), make([]int, len(n.Pipes)), slices.Repeat([]int{8000}, len(n.Pipes)), slices.Repeat([]int{-1}, len(n.Pipes))} {
			got, ok := impl.LoopLoss(n, flows)
			if want := wantedAlong(n, flows, start, way); !ok || got != want {
				t.Fatalf("LoopLoss(%v, %v) = %d, %v, want %d", n, flows, got, ok, want)
			}
			switch {
			case got > 0:
				positive++
			case got < 0:
				negative++
			default:
				zero++
			}
		}
	}
	if min(positive, zero, negative) < 500 {
		t.Error("too few of some kind:", positive, zero, negative)
	}
}

// divisions calls a function with all divisions of a total into a number of parts, the
// lexicographically greatest one first, in memory that is used again.
func divisions(total int, number int, call func(parts []int)) {
	parts := make([]int, number)
	var fill func(place int, left int)
	fill = func(place int, left int) {
		if place == number-1 {
			parts[place] = left
			call(parts)
			return
		}
		for part := left; part >= 0; part-- {
			parts[place] = part
			fill(place+1, left-part)
		}
	}
	fill(0, total)
}

// splitEnergy returns the energy of a division.
func splitEnergy(sizes []int, parts []int) int {
	energy := 0
	for i, q := range parts {
		energy += sizes[i] * q * q * q
	}
	return energy
}

// wantedSplit returns the first best one of all divisions, and how many are as good.
func wantedSplit(sizes []int, total int) ([]int, int) {
	best, least, ties := make([]int, len(sizes)), math.MaxInt, 0
	divisions(total, len(sizes), func(parts []int) {
		switch energy := splitEnergy(sizes, parts); {
		case energy < least:
			copy(best, parts)
			least, ties = energy, 1
		case energy == least:
			ties++
		}
	})
	return best, ties
}

// leastEnergies returns the smallest energies for all totals: pipe after pipe, what is best for
// the pipes so far is tried with every flow of the next one.
func leastEnergies(sizes []int) []int {
	least := make([]int, maxSplit+1)
	for total := range least {
		least[total] = sizes[0] * total * total * total
	}
	for _, size := range sizes[1:] {
		for total := maxSplit; total >= 0; total-- {
			for q := range total + 1 {
				least[total] = min(least[total], least[total-q]+size*q*q*q)
			}
		}
	}
	return least
}

// checkSplit checks SplitFlow against the best division and against all exchanges of a unit.
func checkSplit(t *testing.T, sizes []int, total int) int {
	t.Helper()
	want, ties := wantedSplit(sizes, total)
	got, ok := impl.SplitFlow(sizes, total)
	if !ok || !slices.Equal(got, want) {
		t.Fatalf("SplitFlow(%v, %d) = %v, %v, want %v", sizes, total, got, ok, want)
	}
	checkNoBetterExchange(t, sizes, got)
	return ties
}

// checkNoBetterExchange checks that an exchange of a unit between two parts makes the energy no
// smaller, and not the same with a division that is lexicographically greater.
func checkNoBetterExchange(t *testing.T, sizes []int, parts []int) {
	t.Helper()
	energy, ok := impl.SplitEnergy(sizes, parts)
	if !ok || energy != splitEnergy(sizes, parts) {
		t.Fatalf("SplitEnergy(%v, %v) = %d, %v", sizes, parts, energy, ok)
	}
	for i := range parts {
		for j := range parts {
			if i == j || parts[j] == 0 {
				continue
			}
			other := slices.Clone(parts)
			other[i]++
			other[j]--
			after, ok := impl.SplitEnergy(sizes, other)
			if !ok || after < energy || after == energy && i < j {
				t.Fatalf("SplitFlow(%v) = %v with the energy %d, but %v has %d, %v", sizes, parts, energy, other, after, ok)
			}
		}
	}
}

// sizeLists returns all lists of a number of sizes.
func sizeLists(number int) [][]int {
	lists := [][]int{{}}
	for range number {
		var longer [][]int
		for _, list := range lists {
			for size := 1; size <= 9; size++ {
				longer = append(longer, append(slices.Clone(list), size))
			}
		}
		lists = longer
	}
	return lists
}

func TestKnownSplits(t *testing.T) {
	for _, k := range []struct {
		sizes  []int
		total  int
		want   []int
		energy int
	}{
		{[]int{1, 1, 2}, 5, []int{2, 2, 1}, 18}, {[]int{1, 1, 2}, 3, []int{1, 1, 1}, 4}, {[]int{1, 1, 2}, 0, []int{0, 0, 0}, 0}, {[]int{1, 1, 2}, 1, []int{1, 0, 0}, 1}, {[]int{2, 1, 1}, 1, []int{0, 1, 0}, 1},
		{[]int{1}, 0, []int{0}, 0}, {[]int{1}, 60, []int{60}, 216000}, {[]int{9}, 60, []int{60}, 1944000}, {[]int{9}, 1, []int{1}, 9}, {[]int{9, 9}, 1, []int{1, 0}, 9}, {[]int{9, 9}, 59, []int{30, 29}, 9 * (27000 + 24389)},
		{[]int{1, 1}, 60, []int{30, 30}, 54000}, {[]int{1, 1, 1}, 4, []int{2, 1, 1}, 10}, {[]int{1, 1, 1}, 5, []int{2, 2, 1}, 17}, {[]int{5, 5, 5, 5, 5}, 60, []int{12, 12, 12, 12, 12}, 25 * 1728},
		{[]int{5, 5, 5, 5, 5}, 58, []int{12, 12, 12, 11, 11}, 15*1728 + 10*1331}, {[]int{5, 5, 5, 5, 5}, 3, []int{1, 1, 1, 0, 0}, 15}, {[]int{1, 4}, 3, []int{2, 1}, 12}, {[]int{4, 1}, 3, []int{1, 2}, 12},
		{[]int{1, 9}, 60, []int{45, 15}, 91125 + 30375}, {[]int{9, 1}, 4, []int{1, 3}, 36}, {[]int{7, 1}, 2, []int{1, 1}, 8}, {[]int{1, 7}, 2, []int{2, 0}, 8}, {[]int{8, 1}, 2, []int{0, 2}, 8}, {[]int{6, 1}, 2, []int{1, 1}, 7},
		{[]int{9, 9, 1, 9, 9}, 3, []int{1, 0, 2, 0, 0}, 17}, {[]int{9, 9, 1, 9, 9}, 4, []int{1, 1, 2, 0, 0}, 26}, {[]int{7, 7, 1}, 3, []int{1, 1, 1}, 15}, {[]int{1, 7, 7}, 3, []int{2, 1, 0}, 15}, {[]int{7, 1, 7}, 2, []int{1, 1, 0}, 8},
	} {
		if got, ok := impl.SplitFlow(k.sizes, k.total); !ok || !slices.Equal(got, k.want) {
			t.Errorf("SplitFlow(%v, %d) = %v, %v, want %v", k.sizes, k.total, got, ok, k.want)
		}
		if got, ok := impl.SplitEnergy(k.sizes, k.want); !ok || got != k.energy {
			t.Errorf("SplitEnergy(%v, %v) = %d, %v, want %d", k.sizes, k.want, got, ok, k.energy)
		}
	}
}

func TestSplitsOfUpToThreePipesAreTheFirstOfTheBest(t *testing.T) {
	ties, single := 0, 0
	for number := 1; number <= 3; number++ {
		for i, sizes := range sizeLists(number) {
			for total := 0; total <= maxSplit; total++ {
				if number == 3 && total > 20 && (i+total)%5 != 0 {
					continue
				}
				if checkSplit(t, sizes, total) > 1 {
					ties++
				} else {
					single++
				}
			}
		}
	}
	if min(ties, single) < 500 {
		t.Error("too few of some kind:", ties, single)
	}
}

func TestSplitsOfMorePipesAreTheFirstOfTheBest(t *testing.T) {
	r := rand.New(rand.NewSource(108))
	ties := 0
	for i, sizes := range append(sizeLists(4), sizeLists(5)...) {
		if i%17 == 0 && checkSplit(t, sizes, r.Intn(13)) > 1 {
			ties++
		}
	}
	for range 25 {
		all := []int{1 + r.Intn(9), 1 + r.Intn(9), 1 + r.Intn(9), 1 + r.Intn(9), 1 + r.Intn(9)}
		checkSplit(t, all[:4], maxSplit-r.Intn(20))
		checkSplit(t, all, 25+r.Intn(16))
	}
	for _, sizes := range [][]int{{1, 1, 1, 1, 1}, {9, 9, 9, 9, 9}, {1, 2, 3, 4, 5}, {9, 7, 5, 3, 1}} {
		checkSplit(t, sizes, maxSplit)
	}
	if ties < 100 {
		t.Error("too few ties:", ties)
	}
}

func TestNoExchangeOfAUnitMakesASplitBetter(t *testing.T) {
	for i, sizes := range append(sizeLists(4), sizeLists(5)...) {
		if i%31 != 0 {
			continue
		}
		least := leastEnergies(sizes)
		for sum := 0; sum <= maxSplit; sum++ {
			parts, ok := impl.SplitFlow(sizes, sum)
			if !ok || len(parts) != len(sizes) || total(parts) != sum || slices.Min(parts) < 0 {
				t.Fatalf("SplitFlow(%v, %d) = %v, %v", sizes, sum, parts, ok)
			}
			checkNoBetterExchange(t, sizes, parts)
			if energy := splitEnergy(sizes, parts); energy != least[sum] {
				t.Fatalf("SplitFlow(%v, %d) = %v with the energy %d, want %d", sizes, sum, parts, energy, least[sum])
			}
		}
	}
}

func TestEqualPipesGetNearlyEqualParts(t *testing.T) {
	for size := 1; size <= 9; size++ {
		for number := 1; number <= 5; number++ {
			for sum := 0; sum <= maxSplit; sum++ {
				var want []int
				for i := range number {
					want = append(want, (sum+number-1-i)/number)
				}
				if got, ok := impl.SplitFlow(slices.Repeat([]int{size}, number), sum); !ok || !slices.Equal(got, want) {
					t.Fatalf("SplitFlow of %d pipes of size %d, %d = %v, %v, want %v", number, size, sum, got, ok, want)
				}
			}
		}
	}
}

func TestSplitsAreTheFlowsOfParallelPipes(t *testing.T) {
	for first := 1; first <= 9; first++ {
		for second := 1; second <= 9; second++ {
			for sum := 0; sum <= maxSplit; sum++ {
				// The division with the greatest first part has the smallest one behind it.
				parts, _ := impl.SplitFlow([]int{second, first}, sum)
				flows, ok := impl.RingFlows(twins(first, second), 1, []int{0, sum})
				if want := []int{parts[1], parts[0]}; !ok || !slices.Equal(flows, want) {
					t.Fatalf("RingFlows(%v, 1, [0 %d]) = %v, %v, want %v", twins(first, second), sum, flows, ok, want)
				}
			}
		}
	}
}

func TestSplitEnergiesAddUp(t *testing.T) {
	r := rand.New(rand.NewSource(109))
	for _, k := range []struct {
		sizes, parts []int
		want         int
	}{
		{[]int{1, 1, 2}, []int{2, 2, 1}, 18}, {[]int{1}, []int{0}, 0}, {[]int{9}, []int{60}, 1944000}, {[]int{9, 9, 9, 9, 9}, []int{60, 60, 60, 60, 60}, 9720000},
		{[]int{2, 3}, []int{5, 0}, 250}, {[]int{2, 3}, []int{0, 5}, 375}, {[]int{1, 2, 3, 4, 5}, []int{5, 4, 3, 2, 1}, 125 + 128 + 81 + 32 + 5}, {[]int{1, 9}, []int{60, 1}, 216009},
	} {
		if got, ok := impl.SplitEnergy(k.sizes, k.parts); !ok || got != k.want {
			t.Errorf("SplitEnergy(%v, %v) = %d, %v, want %d", k.sizes, k.parts, got, ok, k.want)
		}
	}
	for number := 1; number <= 5; number++ {
		for range 400 {
			sizes, parts := make([]int, number), make([]int, number)
			for i := range sizes {
				sizes[i], parts[i] = 1+r.Intn(9), []int{0, 60, r.Intn(61)}[r.Intn(3)]
			}
			if got, ok := impl.SplitEnergy(sizes, parts); !ok || got != splitEnergy(sizes, parts) {
				t.Fatalf("SplitEnergy(%v, %v) = %d, %v", sizes, parts, got, ok)
			}
		}
	}
}

func TestOpenedRingsAreTrees(t *testing.T) {
	opened, bridges, others := 0, 0, 0
	for _, n := range someRings() {
		signs, _ := wantedSigns(n)
		for id := -1; id <= 101; id++ {
			i := pipeIndex(n, id)
			if i < 0 || signs[i] == 0 {
				checkNotOpened(t, n, id)
				if i < 0 {
					others++
				} else {
					bridges++
				}
				continue
			}
			opened++
			want := impl.Network{Nodes: n.Nodes, Pipes: without(n.Pipes, i)}
			got, ok := impl.OpenedRing(n, id)
			if !ok || !sameNetwork(got, want) || !isTree(got) {
				t.Fatalf("OpenedRing(%v, %d) = %v, %v, want %v", n, id, got, ok, want)
			}
			if back, ok := impl.AddPipe(got, n.Pipes[i]); !ok || !sameNetwork(back, n) {
				t.Fatalf("AddPipe(%v, %v) = %v, %v, want %v", got, n.Pipes[i], back, ok, n)
			}
			checkNotOpened(t, got, id)
		}
	}
	if min(opened, bridges, others) < 500 {
		t.Error("too few of some kind:", opened, bridges, others)
	}
}

// checkNotOpened checks that OpenedRing returns zero values.
func checkNotOpened(t *testing.T, n impl.Network, pipe int) {
	t.Helper()
	if m, ok := impl.OpenedRing(n, pipe); ok || !isZero(m) {
		t.Errorf("OpenedRing(%v, %d) = %v, %v", n, pipe, m, ok)
	}
}

// checkNoRingFlows checks that RingFlows returns zero values.
func checkNoRingFlows(t *testing.T, n impl.Network, source int, demands []int) {
	t.Helper()
	if flows, ok := impl.RingFlows(n, source, demands); ok || len(flows) != 0 {
		t.Errorf("RingFlows(%v, %d, %v) = %v, %v", n, source, demands, flows, ok)
	}
}

// checkNoTurn checks that the functions with flows return zero values.
func checkNoTurn(t *testing.T, n impl.Network, flows []int) {
	t.Helper()
	if loss, ok := impl.LoopLoss(n, flows); ok || loss != 0 {
		t.Errorf("LoopLoss(%v, %v) = %d, %v", n, flows, loss, ok)
	}
	for _, x := range []int{0, 1, -1, 8000, -8000, 8001, math.MinInt, math.MaxInt} {
		if turned, ok := impl.TurnFlows(n, flows, x); ok || len(turned) != 0 {
			t.Errorf("TurnFlows(%v, %v, %d) = %v, %v", n, flows, x, turned, ok)
		}
	}
}

// checkNoRing checks that all functions that need a ring return zero values.
func checkNoRing(t *testing.T, n impl.Network) {
	t.Helper()
	if ids, turns, ok := impl.LoopOf(n); ok || len(ids) != 0 || len(turns) != 0 {
		t.Errorf("LoopOf(%v) = %v, %v, %v", n, ids, turns, ok)
	}
	for _, flow := range []int{0, 1, -8000} {
		checkNoTurn(t, n, slices.Repeat([]int{flow}, len(n.Pipes)))
	}
	for _, p := range append(n.Pipes[:min(len(n.Pipes), 12):min(len(n.Pipes), 12)], impl.Pipe{Id: 50}) {
		checkNotOpened(t, n, p.Id)
	}
	nodes := min(max(n.Nodes, 0), 12)
	for _, source := range []int{0, 1, 2, nodes, nodes + 1} {
		for _, length := range []int{0, nodes, nodes + 1} {
			checkNoRingFlows(t, n, source, make([]int, length))
			checkNoRingFlows(t, n, source, slices.Repeat([]int{7}, length))
		}
	}
}

func TestInvalidNetworksOfRingsYieldZeroValues(t *testing.T) {
	all := invalidRings()
	maps.Copy(all, invalidNetworks())
	maps.Copy(all, invalidTrees())
	for name, n := range all {
		if ring, ok := impl.IsRing(n); ok || ring {
			t.Errorf("%s: IsRing = %v, %v", name, ring, ok)
		}
		checkNoRing(t, n)
	}
}

func TestNetworksThatAreNoRingsYieldZeroValues(t *testing.T) {
	apart, fewer, more := 0, 0, 0
	for _, n := range slices.Concat(inOrder(noRings()), mixedNetworks(), someTrees()[:60], smallNetworks()[:400]) {
		if isRing(n) {
			continue
		}
		checkNoRing(t, n)
		switch {
		case len(n.Pipes) == n.Nodes:
			apart++
		case len(n.Pipes) < n.Nodes:
			fewer++
		default:
			more++
		}
	}
	if min(apart, fewer, more) < 50 {
		t.Error("too few of some kind:", apart, fewer, more)
	}
}

func TestInvalidDemandsYieldNoRingFlows(t *testing.T) {
	for _, n := range knownRings() {
		for source := 1; source <= n.Nodes; source++ {
			for _, demands := range invalidDemands(n) {
				checkNoRingFlows(t, n, source, demands)
			}
			for _, length := range []int{0, n.Nodes - 1, n.Nodes + 1} {
				checkNoRingFlows(t, n, source, make([]int, length))
			}
			for i := range n.Nodes {
				for _, demand := range otherDemandValues {
					demands := make([]int, n.Nodes)
					demands[i] = demand
					checkNoRingFlows(t, n, source, demands)
					// Its sum alone is not too great.
					demands[(i+1)%n.Nodes] = min(max(-demand, 0), 1000)
					checkNoRingFlows(t, n, source, demands)
				}
			}
		}
	}
}

func TestInvalidFlowsYieldNoTurns(t *testing.T) {
	for _, n := range knownRings() {
		for _, flows := range invalidFlows(n) {
			checkNoTurn(t, n, flows)
		}
		// A turn back into the limits makes no flows of what is none.
		for i := range n.Pipes {
			for _, x := range []int{-1, 1} {
				for _, flow := range []int{-8001, 8001} {
					flows := make([]int, len(n.Pipes))
					flows[i] = flow
					if turned, ok := impl.TurnFlows(n, flows, x); ok || len(turned) != 0 {
						t.Errorf("TurnFlows(%v, %v, %d) = %v, %v", n, flows, x, turned, ok)
					}
				}
			}
		}
	}
}

func TestOtherNodesAndIdsOfRingsYieldZeroValues(t *testing.T) {
	for _, n := range someRings() {
		for _, source := range []int{0, -1, n.Nodes + 1, 9, 100, 1 << 32, math.MaxInt, math.MinInt} {
			checkNoRingFlows(t, n, source, make([]int, n.Nodes))
			checkNoRingFlows(t, n, source, slices.Repeat([]int{3}, n.Nodes))
		}
		for _, id := range otherPipes {
			if pipeIndex(n, id) < 0 {
				checkNotOpened(t, n, id)
			}
		}
	}
}

func TestInvalidSplitsYieldZeroValues(t *testing.T) {
	check := func(sizes []int, total int) {
		t.Helper()
		if parts, ok := impl.SplitFlow(sizes, total); ok || len(parts) != 0 {
			t.Errorf("SplitFlow(%v, %d) = %v, %v", sizes, total, parts, ok)
		}
	}
	checkEnergy := func(sizes []int, parts []int) {
		t.Helper()
		if energy, ok := impl.SplitEnergy(sizes, parts); ok || energy != 0 {
			t.Errorf("SplitEnergy(%v, %v) = %d, %v", sizes, parts, energy, ok)
		}
	}
	for _, sizes := range [][]int{nil, {}, {1, 1, 1, 1, 1, 1}, {1, 2, 3, 4, 5, 6}, slices.Repeat([]int{1}, 60), slices.Repeat([]int{1}, 5000)} {
		for _, total := range []int{0, 1, 5, 60, 61, -1} {
			check(sizes, total)
		}
		checkEnergy(sizes, nil)
		checkEnergy(sizes, make([]int, len(sizes)))
		checkEnergy(sizes, []int{1})
		checkEnergy(sizes, make([]int, 5))
	}
	for number := 1; number <= 5; number++ {
		good := []int{1, 9, 4, 2, 3}[:number]
		for _, total := range []int{-1, 61, -60, 1000, 1 << 32, -1 << 32, math.MinInt, math.MaxInt} {
			check(good, total)
		}
		for i := range good {
			for _, size := range []int{0, 10, -1, -9, 1 << 32, math.MinInt, math.MaxInt} {
				sizes := slices.Clone(good)
				sizes[i] = size
				check(sizes, 0)
				check(sizes, 7)
				checkEnergy(sizes, make([]int, number))
				checkEnergy(sizes, good)
			}
			for _, part := range []int{-1, 61, -60, 1 << 32, math.MinInt, math.MaxInt} {
				parts := make([]int, number)
				parts[i] = part
				checkEnergy(good, parts)
			}
		}
		for _, length := range []int{0, number - 1, number + 1, 6, 5000} {
			checkEnergy(good, make([]int, length))
			checkEnergy(good, slices.Repeat([]int{2}, length))
		}
		checkEnergy(good, nil)
	}
}

// callAllForLoops calls every function of the chapter and overwrites all memory of the results.
func callAllForLoops(n impl.Network, demands []int, flows []int) {
	spoil := func(lists ...[]int) {
		for _, list := range lists {
			all := list[:cap(list)]
			for i := range all {
				all[i] = -7
			}
		}
	}
	impl.IsRing(n)
	impl.LoopLoss(n, flows)
	impl.SplitEnergy(demands, flows)
	impl.SplitEnergy(demands, demands)
	ids, turns, _ := impl.LoopOf(n)
	spoil(ids, turns)
	for _, x := range []int{0, 1, -5, 8000, -8000, 8001} {
		turned, _ := impl.TurnFlows(n, flows, x)
		spoil(turned)
	}
	for source := -1; source <= 9; source++ {
		found, _ := impl.RingFlows(n, source, demands)
		spoil(found)
	}
	for _, total := range []int{-1, 0, 7, 60, 61} {
		parts, _ := impl.SplitFlow(demands, total)
		spoil(parts)
	}
	for id := range 101 {
		opened, _ := impl.OpenedRing(n, id)
		pipes := opened.Pipes[:cap(opened.Pipes)]
		for i := range pipes {
			pipes[i] = impl.Pipe{Id: -7}
		}
	}
}

func TestLoopFunctionsLeaveTheirArgumentsAlone(t *testing.T) {
	r := rand.New(rand.NewSource(110))
	check := func(n impl.Network, demands []int, flows []int) {
		arg, pipes := filled(n)
		demands, allDemands := roomBehind(demands)
		flows, allFlows := roomBehind(flows)
		pipesBefore, demandsBefore, flowsBefore := slices.Clone(pipes), slices.Clone(allDemands), slices.Clone(allFlows)
		callAllForLoops(arg, demands, flows)
		if !slices.Equal(pipes, pipesBefore) || !slices.Equal(allDemands, demandsBefore) || !slices.Equal(allFlows, flowsBefore) {
			t.Fatalf("an argument of %v, %v, %v is modified: %v, %v, %v", pipesBefore, demandsBefore, flowsBefore, pipes, allDemands, allFlows)
		}
	}
	for i, n := range someRings() {
		if i%4 == 0 {
			check(n, ringDemands(r, n.Nodes)[r.Intn(5)], drawnFlows(r, n))
			check(n, slices.Repeat([]int{3}, n.Nodes), make([]int, len(n.Pipes)))
		}
	}
	for _, n := range append(knownRings(), inOrder(noRings())...) {
		check(n, binary[:n.Nodes], drawnFlows(r, n))
		check(n, invalidDemands(n)[r.Intn(4)], drawnFlows(r, n))
		check(n, make([]int, n.Nodes), invalidFlows(n)[r.Intn(3)])
	}
	for _, all := range []map[string]impl.Network{invalidNetworks(), invalidRings()} {
		for _, n := range all {
			check(n, make([]int, min(max(n.Nodes, 0), 12)), make([]int, len(n.Pipes)))
		}
	}
}

func TestNothingBehindTheArgumentsOfLoopsIsRead(t *testing.T) {
	r := rand.New(rand.NewSource(111))
	for _, n := range someRings() {
		arg, _ := filled(n)
		source, demands, flows := 1+r.Intn(n.Nodes), ringDemands(r, n.Nodes)[r.Intn(5)], drawnFlows(r, n)
		demandsArg, _ := roomBehind(demands)
		flowsArg, _ := roomBehind(flows)
		want, _ := impl.RingFlows(n, source, demands)
		if got, ok := impl.RingFlows(arg, source, demandsArg); !ok || !slices.Equal(got, want) {
			t.Fatalf("RingFlows(%v, %d, %v) = %v, %v, want %v", n, source, demands, got, ok, want)
		}
		loss, _ := impl.LoopLoss(n, flows)
		if got, ok := impl.LoopLoss(arg, flowsArg); !ok || got != loss {
			t.Fatalf("LoopLoss(%v, %v) = %d, %v, want %d", n, flows, got, ok, loss)
		}
		ids, turns, _ := impl.LoopOf(n)
		if gotIds, got, ok := impl.LoopOf(arg); !ok || !slices.Equal(gotIds, ids) || !slices.Equal(got, turns) {
			t.Fatalf("LoopOf(%v) = %v, %v, %v, want %v, %v", n, gotIds, got, ok, ids, turns)
		}
		for _, p := range arg.Pipes[len(n.Pipes):cap(arg.Pipes)] {
			if pipeIndex(n, p.Id) < 0 {
				checkNotOpened(t, arg, p.Id)
			}
		}
		short, _ := roomBehind(demands[:n.Nodes-1])
		checkNoRingFlows(t, arg, source, short)
		short, _ = roomBehind(flows[:len(flows)-1])
		checkNoTurn(t, arg, short)
		// The last pipe of a ring that is cut off behind the length is missing.
		checkNoRing(t, impl.Network{Nodes: n.Nodes, Pipes: arg.Pipes[:len(n.Pipes)-1]})
	}
	sizes, _ := roomBehind([]int{1, 4})
	parts, _ := roomBehind([]int{2, 1})
	if got, ok := impl.SplitFlow(sizes, 3); !ok || !slices.Equal(got, []int{2, 1}) {
		t.Errorf("SplitFlow(%v, 3) = %v, %v", sizes, got, ok)
	}
	if got, ok := impl.SplitEnergy(sizes, parts); !ok || got != 12 {
		t.Errorf("SplitEnergy(%v, %v) = %d, %v", sizes, parts, got, ok)
	}
}

func TestLoopResultsShareNoMemory(t *testing.T) {
	n, flows, demands, sizes := greatRing(), []int{0, 1, 2, 3, 4, 5, 6, 7}, []int{9, 8, 7, 6, 5, 4, 3, 2}, []int{1, 2, 3}
	for name, call := range map[string]func() ([]int, []int, bool){
		"LoopOf": func() ([]int, []int, bool) { return impl.LoopOf(n) },
		"TurnFlows": func() ([]int, []int, bool) {
			list, ok := impl.TurnFlows(n, flows, 2)
			return list, nil, ok
		},
		"TurnFlows by 0": func() ([]int, []int, bool) {
			list, ok := impl.TurnFlows(n, flows, 0)
			return list, nil, ok
		},
		"RingFlows": func() ([]int, []int, bool) {
			list, ok := impl.RingFlows(n, 2, demands)
			return list, nil, ok
		},
		"SplitFlow": func() ([]int, []int, bool) {
			list, ok := impl.SplitFlow(sizes, 20)
			return list, nil, ok
		},
	} {
		first, other, ok := call()
		wantFirst, wantOther := slices.Clone(first), slices.Clone(other)
		again, againOther, _ := call()
		// All memory of one list is overwritten, also what is behind it.
		for i := range first[:cap(first)] {
			first[:cap(first)][i] = -7
		}
		if !ok || len(wantFirst) == 0 || !slices.Equal(other, wantOther) || !slices.Equal(again, wantFirst) || !slices.Equal(againOther, wantOther) {
			t.Error(name, "shares memory:", wantFirst, wantOther, other, again, againOther)
		}
		if third, thirdOther, _ := call(); !slices.Equal(third, wantFirst) || !slices.Equal(thirdOther, wantOther) {
			t.Error(name, "keeps memory:", wantFirst, wantOther, third, thirdOther)
		}
	}
	opened, ok := impl.OpenedRing(n, 98)
	for i := range opened.Pipes {
		opened.Pipes[i] = impl.Pipe{Id: -7}
	}
	again, _ := impl.OpenedRing(n, 98)
	if !ok || !sameNetwork(again, impl.Network{Nodes: 8, Pipes: greatRing().Pipes[:7]}) || !sameNetwork(n, greatRing()) {
		t.Error("OpenedRing shares memory:", again, n)
	}
	if !slices.Equal(flows, []int{0, 1, 2, 3, 4, 5, 6, 7}) || !slices.Equal(demands, []int{9, 8, 7, 6, 5, 4, 3, 2}) || !slices.Equal(sizes, []int{1, 2, 3}) {
		t.Error("an argument is modified:", flows, demands, sizes)
	}
}
