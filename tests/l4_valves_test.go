package tests

import (
	"cmp"
	"fmt"
	"math"
	"math/rand"
	"slices"
	"testing"

	"loop.example/g00853/impl"
)

// system is a network with a list of valves, valid or not.
type system struct {
	n    impl.Network
	list []impl.Valve
}

// valves returns open valves that are given by Id, Pipe and Node, valid or not.
func valves(list ...[3]int) []impl.Valve {
	var made []impl.Valve
	for _, v := range list {
		made = append(made, impl.Valve{Id: v[0], Pipe: v[1], Node: v[2]})
	}
	return made
}

// withShut returns the valves, of which exactly those with the given Ids are Shut.
func withShut(list []impl.Valve, ids ...int) []impl.Valve {
	turned := slices.Clone(list)
	for i := range turned {
		turned[i].Shut = slices.Contains(ids, turned[i].Id)
	}
	return turned
}

// valveIds returns the Ids of the valves.
func valveIds(list []impl.Valve) []int {
	var ids []int
	for _, v := range list {
		ids = append(ids, v.Id)
	}
	return ids
}

// fullSystem has MaxValves valves in the fullNetwork: pipes 1 and 20 and nodes 3 and 8 are
// segments alone, and valve 50 has the same segment on both sides.
func fullSystem() system {
	return system{fullNetwork(), valves([3]int{1, 1, 1}, [3]int{2, 1, 2}, [3]int{3, 2, 3}, [3]int{10, 10, 3}, [3]int{12, 11, 3},
		[3]int{20, 20, 4}, [3]int{21, 20, 5}, [3]int{50, 50, 6}, [3]int{98, 98, 8}, [3]int{99, 99, 8})}
}

// forkNetwork has three nodes, two pipes between two of them, and no pipe whose Id is its place
// or a node.
func forkNetwork() impl.Network {
	return network(3, [4]int{5, 1, 2, 3}, [4]int{7, 2, 3, 3}, [4]int{8, 3, 2, 3})
}

// otherIds are numbers that neither a pipe nor a valve of forkSystem has as its Id.
var otherIds = []int{0, 1, 2, 3, 4, 6, 9, 98, 100, -1, -5, math.MaxInt, math.MinInt}

// forkSystem has the forkNetwork with an open and a Shut valve, whose Ids are no Ids of pipes.
func forkSystem() system {
	return system{forkNetwork(), []impl.Valve{{Id: 40, Pipe: 7, Node: 3}, {Id: 41, Pipe: 5, Node: 2, Shut: true}}}
}

// ends returns a valve without an Id at each end of each pipe.
func ends(n impl.Network) []impl.Valve {
	var list []impl.Valve
	for _, p := range n.Pipes {
		list = append(list, impl.Valve{Pipe: p.Id, Node: p.From}, impl.Valve{Pipe: p.Id, Node: p.To})
	}
	return list
}

// byId compares two valves by their Ids.
func byId(a impl.Valve, b impl.Valve) int { return cmp.Compare(a.Id, b.Id) }

// smallSystems returns all systems of up to four nodes with up to two pipes, with no valve, an
// open one or a Shut one at each end.
func smallSystems() []system {
	ids := []int{60, 99, 1, 2}
	var list []system
	for _, n := range smallNetworks() {
		places := ends(n)
		if len(places) > len(ids) {
			continue
		}
		level := [][]impl.Valve{nil}
		for i, v := range places {
			v.Id = ids[i]
			var next [][]impl.Valve
			for _, made := range level {
				next = append(next, made)
				for _, v.Shut = range []bool{false, true} {
					next = append(next, append(slices.Clone(made), v))
				}
			}
			level = next
		}
		for _, made := range level {
			slices.SortFunc(made, byId)
			list = append(list, system{n, made})
		}
	}
	return list
}

// mixedSystems returns systems of all numbers of nodes, pipes and valves; the seed is fixed, so
// that every run tests the same ones.
func mixedSystems() []system {
	r := rand.New(rand.NewSource(4))
	var list []system
	for _, n := range mixedNetworks() {
		for range 3 {
			places := ends(n)
			r.Shuffle(len(places), func(i int, j int) { places[i], places[j] = places[j], places[i] })
			made := places[:r.Intn(min(len(places), impl.MaxValves)+1)]
			ids := r.Perm(99)
			shut := r.Intn(3)
			for i := range made {
				made[i].Id = ids[i] + 1
				made[i].Shut = r.Intn(2) < shut
			}
			slices.SortFunc(made, byId)
			list = append(list, system{n, made})
		}
	}
	return list
}

// allSystems returns the systems that the general tests go through.
func allSystems() []system {
	list := append(smallSystems(), mixedSystems()...)
	full := fullSystem()
	return append(list, forkSystem(), full, system{full.n, nil}, system{full.n, withShut(full.list, valveIds(full.list)...)},
		system{network(1), nil}, system{network(8), nil})
}

// A grid tells of every two elements whether they are connected: the nodes by their numbers,
// and behind them the pipes in order.
type grid [impl.MaxNodes + impl.MaxPipes + 1][impl.MaxNodes + impl.MaxPipes + 1]bool

// wantedGrid tells which elements are connected through ends of pipes without any of the
// barriers, by joining way to way until nothing changes.
func wantedGrid(n impl.Network, barriers []impl.Valve) grid {
	var g grid
	count := n.Nodes + len(n.Pipes)
	for a := 1; a <= count; a++ {
		g[a][a] = true
	}
	for i, p := range n.Pipes {
		for _, node := range []int{p.From, p.To} {
			if !slices.ContainsFunc(barriers, func(v impl.Valve) bool { return v.Pipe == p.Id && v.Node == node }) {
				g[n.Nodes+1+i][node], g[node][n.Nodes+1+i] = true, true
			}
		}
	}
	for via := 1; via <= count; via++ {
		for a := 1; a <= count; a++ {
			for b := 1; b <= count; b++ {
				g[a][b] = g[a][b] || g[a][via] && g[via][b]
			}
		}
	}
	return g
}

// wantedWater tells which elements water reaches from which.
func wantedWater(s system) grid {
	return wantedGrid(s.n, slices.DeleteFunc(slices.Clone(s.list), func(v impl.Valve) bool { return !v.Shut }))
}

// element returns the number of the pipe with this Id in a grid.
func element(n impl.Network, pipe int) int {
	return n.Nodes + 1 + slices.IndexFunc(n.Pipes, func(p impl.Pipe) bool { return p.Id == pipe })
}

// split returns the nodes and the Ids of the pipes whose mark in a row of a grid is marked.
func split(n impl.Network, row [impl.MaxNodes + impl.MaxPipes + 1]bool, marked bool) ([]int, []int) {
	var nodes, pipes []int
	for node := 1; node <= n.Nodes; node++ {
		if row[node] == marked {
			nodes = append(nodes, node)
		}
	}
	for _, p := range n.Pipes {
		if row[element(n, p.Id)] == marked {
			pipes = append(pipes, p.Id)
		}
	}
	return nodes, pipes
}

func TestIsValidValvesMeetsTheLimits(t *testing.T) {
	full := fullSystem()
	for _, s := range append(allSystems(),
		system{network(1), []impl.Valve{}}, system{network(8), []impl.Valve{}}, system{forkNetwork(), nil},
		system{forkNetwork(), valves([3]int{1, 5, 1})}, system{forkNetwork(), valves([3]int{99, 5, 2})},
		system{forkNetwork(), valves([3]int{1, 8, 2}, [3]int{2, 8, 3}, [3]int{98, 7, 3}, [3]int{99, 7, 2})},
		system{full.n, full.list[:9]}, system{full.n, withShut(full.list, 1, 50, 99)}) {
		if !impl.IsValidValves(s.n, s.list) {
			t.Error("refused", s)
		}
	}
	if len(full.list) != impl.MaxValves {
		t.Error("not MaxValves", len(full.list))
	}
}

// invalidLists returns lists that are no Valves of forkNetwork, of which each breaks one rule.
func invalidLists() map[string][]impl.Valve {
	good := [3]int{50, 7, 2}
	list := map[string][]impl.Valve{
		"zero": make([]impl.Valve, 1), "two of zero": make([]impl.Valve, 2), "many of zero": make([]impl.Valve, 5000),
		"Id 0": valves([3]int{0, 5, 1}, good), "Id -1": valves([3]int{-1, 5, 1}, good), "Id 100": valves(good, [3]int{100, 5, 1}),
		"greatest Id": valves(good, [3]int{math.MaxInt, 5, 1}), "smallest Id": valves([3]int{math.MinInt, 5, 1}, good),
		"Id 0 alone": valves([3]int{0, 5, 1}), "Id 100 alone": valves([3]int{100, 5, 1}),
		"same Id": valves(good, [3]int{50, 5, 1}), "same Id behind": valves([3]int{1, 5, 1}, good, [3]int{50, 8, 2}), "twice the same": valves(good, good),
		"descending": valves([3]int{51, 5, 1}, good), "last descends": valves([3]int{1, 5, 1}, [3]int{51, 5, 2}, good),
		"first descends": valves([3]int{51, 5, 1}, good, [3]int{52, 5, 2}),
		"two at one end": valves(good, [3]int{51, 7, 2}), "two at one end apart": valves(good, [3]int{51, 7, 3}, [3]int{52, 5, 2}, [3]int{53, 7, 2}),
		"two at one end, one Shut": withShut(valves(good, [3]int{51, 7, 2}), 51), "two at the other end": valves([3]int{1, 7, 3}, good, [3]int{51, 7, 3}),
	}
	for _, pipe := range []int{0, 1, 2, 3, 4, 6, 9, 50, 99, 100, -1, -5, math.MaxInt, math.MinInt} {
		for _, node := range []int{1, 2, 3} {
			list[fmt.Sprint("pipe ", pipe, " at node ", node)] = valves([3]int{49, pipe, node}, good)
		}
	}
	for _, node := range append([]int{3}, oddNodes...) {
		list[fmt.Sprint("pipe 5 at node ", node)] = valves([3]int{49, 5, node}, good)
	}
	for _, node := range append([]int{1}, oddNodes...) {
		list[fmt.Sprint("pipe 8 at node ", node)] = valves(good, [3]int{51, 8, node})
	}
	return list
}

func TestIsValidValvesRefusesOtherLists(t *testing.T) {
	for name, list := range invalidLists() {
		if impl.IsValidValves(forkNetwork(), list) {
			t.Error("accepted:", name)
		}
	}
	for name, n := range invalidNetworks() {
		for _, list := range [][]impl.Valve{nil, valves([3]int{1, 5, 1}), valves([3]int{1, 5, 2})} {
			if impl.IsValidValves(n, list) {
				t.Error("accepted:", name, list)
			}
		}
	}
}

func TestIsValidValvesRefusesMoreThanMaxValves(t *testing.T) {
	n := fullNetwork()
	list := ends(n)
	for i := range list {
		list[i].Id = i + 1
	}
	for count := range len(list) + 1 {
		if got := impl.IsValidValves(n, list[:count]); got != (count <= impl.MaxValves) {
			t.Error(count, "valves", got)
		}
	}
}

// checkZero checks that every function fails for a system, with node in place of each node and
// id in place of each Id, and returns nothing but zero values.
func checkZero(t *testing.T, s system, node int, id int) {
	checkZeroForNode(t, s, node)
	checkZeroForId(t, s, id)
	count, okCount := impl.CountSegments(s.n, s.list)
	needless, okNeedless := impl.NeedlessValves(s.n, s.list)
	if okCount || okNeedless || count != 0 || len(needless) != 0 {
		t.Error("CountSegments or NeedlessValves:", s, count, needless)
	}
}

// checkZeroForNode does this for the functions with a node.
func checkZeroForNode(t *testing.T, s system, node int) {
	if nodes, pipes, ok := impl.SegmentOfNode(s.n, s.list, node); ok || len(nodes)+len(pipes) != 0 {
		t.Error("SegmentOfNode:", s, node, nodes, pipes, ok)
	}
	nodes, okNodes := impl.DryNodes(s.n, s.list, node)
	pipes, okPipes := impl.DryPipes(s.n, s.list, node)
	if okNodes || okPipes || len(nodes)+len(pipes) != 0 {
		t.Error("DryNodes or DryPipes:", s, node, nodes, pipes)
	}
}

// checkZeroForId does this for the functions with an Id.
func checkZeroForId(t *testing.T, s system, id int) {
	if nodes, pipes, ok := impl.SegmentOfPipe(s.n, s.list, id); ok || len(nodes)+len(pipes) != 0 {
		t.Error("SegmentOfPipe:", s, id, nodes, pipes, ok)
	}
	if around, ok := impl.ValvesAround(s.n, s.list, id); ok || len(around) != 0 {
		t.Error("ValvesAround:", s, id, around, ok)
	}
	for _, shut := range []bool{false, true} {
		if turned, ok := impl.TurnValve(s.n, s.list, id, shut); ok || len(turned) != 0 {
			t.Error("TurnValve:", s, id, shut, turned, ok)
		}
	}
}

func TestInvalidValvesYieldZeroValues(t *testing.T) {
	for _, list := range invalidLists() {
		s := system{forkNetwork(), list}
		for node := 0; node <= 4; node++ {
			checkZero(t, s, node, 5)
		}
		for _, id := range append([]int{7, 8}, valveIds(list[:min(len(list), 4)])...) {
			checkZero(t, s, 1, id)
		}
	}
	full := fullSystem()
	full.list = slices.Insert(full.list, 8, impl.Valve{Id: 51, Pipe: 51, Node: 7})
	for id := 0; id <= 100; id++ {
		checkZero(t, full, 1+id%8, id)
	}
}

func TestInvalidNetworksWithValvesYieldZeroValues(t *testing.T) {
	for _, n := range invalidNetworks() {
		for _, list := range [][]impl.Valve{nil, {}, valves([3]int{5, 5, 1}), valves([3]int{5, 5, 2}), valves([3]int{5, 1, 1}, [3]int{6, 11, 2})} {
			for _, node := range []int{1, 2, 0, -1, 4, math.MaxInt} {
				for _, id := range []int{5, 6, 1, 0, 100, -1} {
					checkZero(t, system{n, list}, node, id)
				}
			}
		}
	}
}

func TestOtherNodesAndIdsYieldZeroValues(t *testing.T) {
	fork := forkSystem()
	for _, s := range []system{fork, {fork.n, nil}} {
		for _, node := range oddNodes {
			checkZeroForNode(t, s, node)
		}
		for _, id := range otherIds {
			checkZeroForId(t, s, id)
		}
	}
	for _, id := range []int{40, 41} {
		if nodes, pipes, ok := impl.SegmentOfPipe(fork.n, fork.list, id); ok || len(nodes)+len(pipes) != 0 {
			t.Error("SegmentOfPipe of a valve's Id:", id, nodes, pipes)
		}
		if around, ok := impl.ValvesAround(fork.n, fork.list, id); ok || len(around) != 0 {
			t.Error("ValvesAround of a valve's Id:", id, around)
		}
	}
	for _, id := range []int{5, 7, 8} {
		for _, shut := range []bool{false, true} {
			if turned, ok := impl.TurnValve(fork.n, fork.list, id, shut); ok || len(turned) != 0 {
				t.Error("TurnValve of a pipe's Id:", id, shut, turned)
			}
		}
	}
	for _, n := range []impl.Network{network(1), network(8)} {
		for id := -1; id <= 100; id++ {
			checkZeroForId(t, system{n, nil}, id)
		}
	}
}

func TestSegmentsOfKnownSystems(t *testing.T) {
	full, fork := fullSystem(), forkSystem()
	around := valves([3]int{1, 7, 3}, [3]int{2, 8, 3}, [3]int{3, 5, 2})
	for _, c := range []struct {
		s            system
		node, pipe   int
		nodes, pipes []int
	}{
		{full, 1, 98, []int{1}, []int{98}}, {full, 0, 1, nil, []int{1}}, {full, 2, 99, []int{2}, []int{2, 10, 99}},
		{full, 2, 2, []int{2}, []int{2, 10, 99}}, {full, 3, 0, []int{3}, nil}, {full, 4, 11, []int{4}, []int{11}},
		{full, 0, 20, nil, []int{20}}, {full, 5, 33, []int{5, 6, 7}, []int{33, 50, 51}}, {full, 6, 50, []int{5, 6, 7}, []int{33, 50, 51}},
		{full, 7, 51, []int{5, 6, 7}, []int{33, 50, 51}}, {full, 8, 0, []int{8}, nil},
		{system{full.n, nil}, 8, 50, []int{1, 2, 3, 4, 5, 6, 7, 8}, []int{1, 2, 10, 11, 20, 33, 50, 51, 98, 99}},
		{fork, 1, 5, []int{1}, []int{5}}, {fork, 2, 7, []int{2, 3}, []int{7, 8}}, {fork, 3, 8, []int{2, 3}, []int{7, 8}},
		{system{fork.n, around}, 3, 0, []int{3}, nil}, {system{fork.n, around}, 2, 8, []int{2}, []int{7, 8}},
		{system{network(1), nil}, 1, 0, []int{1}, nil}, {system{network(8), nil}, 8, 0, []int{8}, nil},
	} {
		if nodes, pipes, ok := impl.SegmentOfNode(c.s.n, c.s.list, c.node); c.node != 0 && (!ok || !slices.Equal(nodes, c.nodes) || !slices.Equal(pipes, c.pipes)) {
			t.Error("SegmentOfNode", c, nodes, pipes, ok)
		}
		if nodes, pipes, ok := impl.SegmentOfPipe(c.s.n, c.s.list, c.pipe); c.pipe != 0 && (!ok || !slices.Equal(nodes, c.nodes) || !slices.Equal(pipes, c.pipes)) {
			t.Error("SegmentOfPipe", c, nodes, pipes, ok)
		}
	}
}

func TestSegmentsDoNotDependOnShutValves(t *testing.T) {
	for _, s := range mixedSystems()[:500] {
		open, shut := system{s.n, withShut(s.list)}, system{s.n, withShut(s.list, valveIds(s.list)...)}
		first, _ := impl.CountSegments(open.n, open.list)
		for _, other := range []system{s, shut} {
			if count, ok := impl.CountSegments(other.n, other.list); !ok || count != first {
				t.Fatalf("CountSegments(%v) = %d, %v, with open valves %d", other, count, ok, first)
			}
		}
	}
}

func TestCountsOfKnownSystems(t *testing.T) {
	full, fork := fullSystem(), forkSystem()
	pair := network(2, [4]int{1, 1, 2, 1}, [4]int{99, 2, 1, 9})
	for _, c := range []struct {
		s    system
		want int
	}{
		{full, 8}, {system{full.n, nil}, 1}, {fork, 2}, {system{fork.n, nil}, 1}, {system{network(1), nil}, 1}, {system{network(8), nil}, 8},
		{system{pair, valves([3]int{1, 1, 1}, [3]int{2, 1, 2})}, 2}, {system{pair, valves([3]int{1, 1, 1})}, 1},
		{system{pair, valves([3]int{1, 1, 1}, [3]int{2, 99, 1})}, 2}, {system{pair, valves([3]int{1, 1, 1}, [3]int{2, 99, 2})}, 2},
		{system{pair, valves([3]int{1, 1, 1}, [3]int{2, 1, 2}, [3]int{98, 99, 1}, [3]int{99, 99, 2})}, 4},
		{system{pair, valves([3]int{1, 1, 1}, [3]int{2, 1, 2}, [3]int{99, 99, 2})}, 3},
	} {
		if count, ok := impl.CountSegments(c.s.n, c.s.list); !ok || count != c.want {
			t.Errorf("CountSegments(%v) = %d, %v, want %d", c.s, count, ok, c.want)
		}
	}
}

func TestValvesAroundKnownSegments(t *testing.T) {
	full, fork := fullSystem(), forkSystem()
	for _, c := range []struct {
		s    system
		pipe int
		want []int
	}{
		{full, 1, []int{1, 2}}, {full, 2, []int{2, 3, 10, 99}}, {full, 10, []int{2, 3, 10, 99}}, {full, 99, []int{2, 3, 10, 99}},
		{full, 11, []int{12, 20}}, {full, 20, []int{20, 21}}, {full, 33, []int{21}}, {full, 50, []int{21}}, {full, 98, []int{1, 98}},
		{system{full.n, nil}, 20, nil}, {fork, 5, []int{41}}, {fork, 7, []int{41}}, {fork, 8, []int{41}},
	} {
		for _, shut := range [][]int{nil, {1, 3, 20, 41, 50}, valveIds(c.s.list)} {
			list := withShut(c.s.list, shut...)
			if around, ok := impl.ValvesAround(c.s.n, list, c.pipe); !ok || !slices.Equal(around, c.want) {
				t.Errorf("ValvesAround(%v, %d) = %v, %v, want %v", list, c.pipe, around, ok, c.want)
			}
		}
	}
}

func TestNeedlessValvesOfKnownSystems(t *testing.T) {
	full, fork := fullSystem(), forkSystem()
	for _, c := range []struct {
		s    system
		want []int
	}{
		{full, []int{50}}, {system{full.n, nil}, nil}, {system{network(1), nil}, nil}, {fork, []int{40}},
		{system{fork.n, valves([3]int{3, 7, 3}, [3]int{4, 7, 2})}, nil}, {system{fork.n, valves([3]int{3, 7, 3}, [3]int{4, 8, 2})}, nil},
		{system{full.n, valves([3]int{7, 51, 5}, [3]int{8, 1, 2}, [3]int{9, 11, 3}, [3]int{99, 10, 2})}, []int{7, 8, 99}},
	} {
		for _, shut := range [][]int{nil, {3, 40, 50}, valveIds(c.s.list)} {
			list := withShut(c.s.list, shut...)
			if needless, ok := impl.NeedlessValves(c.s.n, list); !ok || !slices.Equal(needless, c.want) {
				t.Errorf("NeedlessValves(%v) = %v, %v, want %v", list, needless, ok, c.want)
			}
		}
	}
}

// checkSegments checks everything that is said of the segments of a system.
func checkSegments(t *testing.T, s system) {
	wanted := wantedGrid(s.n, s.list)
	first := map[int]bool{}
	for a := 1; a <= s.n.Nodes+len(s.n.Pipes); a++ {
		wantNodes, wantPipes := split(s.n, wanted[a], true)
		first[slices.Index(wanted[a][:], true)] = true
		var nodes, pipes []int
		var ok bool
		if a <= s.n.Nodes {
			nodes, pipes, ok = impl.SegmentOfNode(s.n, s.list, a)
		} else {
			nodes, pipes, ok = impl.SegmentOfPipe(s.n, s.list, s.n.Pipes[a-s.n.Nodes-1].Id)
		}
		if !ok || !slices.Equal(nodes, wantNodes) || !slices.Equal(pipes, wantPipes) {
			t.Fatalf("the segment of element %d of %v is %v, %v, %v, want %v, %v", a, s, nodes, pipes, ok, wantNodes, wantPipes)
		}
	}
	if count, ok := impl.CountSegments(s.n, s.list); !ok || count != len(first) {
		t.Fatalf("CountSegments(%v) = %d, %v, want %d", s, count, ok, len(first))
	}
	for _, p := range s.n.Pipes {
		want := valveIds(wantedAround(s, wanted[element(s.n, p.Id)]))
		if around, ok := impl.ValvesAround(s.n, s.list, p.Id); !ok || !slices.Equal(around, want) {
			t.Fatalf("ValvesAround(%v, %d) = %v, %v, want %v", s, p.Id, around, ok, want)
		}
	}
	var needless []int
	for _, v := range s.list {
		if wanted[v.Node][element(s.n, v.Pipe)] {
			needless = append(needless, v.Id)
		}
	}
	if got, ok := impl.NeedlessValves(s.n, s.list); !ok || !slices.Equal(got, needless) {
		t.Fatalf("NeedlessValves(%v) = %v, %v, want %v", s, got, ok, needless)
	}
}

// wantedAround returns the valves of which one side is in a row of a grid and the other is not.
func wantedAround(s system, row [impl.MaxNodes + impl.MaxPipes + 1]bool) []impl.Valve {
	return slices.DeleteFunc(slices.Clone(s.list), func(v impl.Valve) bool { return row[v.Node] == row[element(s.n, v.Pipe)] })
}

func TestSegmentsFollowTheJoinedElements(t *testing.T) {
	for _, s := range allSystems() {
		checkSegments(t, s)
	}
}

func TestEveryElementBelongsToOneSegment(t *testing.T) {
	for _, s := range allSystems() {
		count, _ := impl.CountSegments(s.n, s.list)
		nodesIn, pipesIn := map[int]int{}, map[int]int{}
		found := 0
		note := func(nodes []int, pipes []int) {
			found++
			for _, node := range nodes {
				nodesIn[node]++
			}
			for _, id := range pipes {
				pipesIn[id]++
			}
		}
		for node := 1; node <= s.n.Nodes; node++ {
			if nodesIn[node] == 0 {
				nodes, pipes, _ := impl.SegmentOfNode(s.n, s.list, node)
				note(nodes, pipes)
			}
		}
		for _, p := range s.n.Pipes {
			if pipesIn[p.Id] == 0 {
				nodes, pipes, _ := impl.SegmentOfPipe(s.n, s.list, p.Id)
				note(nodes, pipes)
			}
		}
		for node := 1; node <= s.n.Nodes; node++ {
			if nodesIn[node] != 1 {
				t.Fatalf("node %d of %v belongs to %d segments", node, s, nodesIn[node])
			}
		}
		for _, p := range s.n.Pipes {
			if pipesIn[p.Id] != 1 {
				t.Fatalf("pipe %d of %v belongs to %d segments", p.Id, s, pipesIn[p.Id])
			}
		}
		if found != count || len(nodesIn) != s.n.Nodes || len(pipesIn) != len(s.n.Pipes) {
			t.Fatalf("%v has %d segments, counted %d, with nodes %v and pipes %v", s, found, count, nodesIn, pipesIn)
		}
	}
}

func TestTurnValveChangesThisValveOnly(t *testing.T) {
	for _, s := range append(mixedSystems()[:1000], fullSystem(), forkSystem()) {
		for i, v := range s.list {
			want := slices.Clone(s.list)
			want[i].Shut = !v.Shut
			turned, ok := impl.TurnValve(s.n, s.list, v.Id, !v.Shut)
			if !ok || !slices.Equal(turned, want) {
				t.Fatalf("TurnValve(%v, %d) = %v, %v", s, v.Id, turned, ok)
			}
			if back, ok := impl.TurnValve(s.n, turned, v.Id, v.Shut); !ok || !slices.Equal(back, s.list) {
				t.Fatalf("TurnValve(%v, %d) back = %v, %v", turned, v.Id, back, ok)
			}
			if same, ok := impl.TurnValve(s.n, s.list, v.Id, v.Shut); ok || len(same) != 0 {
				t.Fatalf("TurnValve(%v, %d) to what it is = %v, %v", s, v.Id, same, ok)
			}
		}
	}
}

func TestWaterInAKnownSystem(t *testing.T) {
	full := fullSystem()
	all := valveIds(full.list)
	for _, c := range []struct {
		shut         []int
		source       int
		nodes, pipes []int
	}{
		{nil, 1, nil, nil}, {nil, 8, nil, nil},
		{all, 1, []int{2, 3, 4, 5, 6, 7, 8}, []int{1, 2, 10, 11, 20, 33, 50, 51, 99}},
		{all, 3, []int{1, 2, 4, 5, 6, 7, 8}, []int{1, 2, 10, 11, 20, 33, 50, 51, 98, 99}},
		{all, 6, []int{1, 2, 3, 4, 8}, []int{1, 2, 10, 11, 20, 98, 99}},
		{[]int{1, 98}, 1, []int{2, 3, 4, 5, 6, 7, 8}, []int{1, 2, 10, 11, 20, 33, 50, 51, 99}},
		{[]int{1, 98}, 2, []int{1}, []int{98}},
		{[]int{2, 99}, 1, []int{2, 3, 4, 5, 6, 7}, []int{2, 10, 11, 20, 33, 50, 51, 99}},
		{[]int{1, 2}, 1, nil, []int{1}}, {[]int{2}, 1, nil, nil}, {[]int{50}, 1, nil, nil}, {[]int{3}, 3, nil, nil},
		{[]int{20, 21}, 1, []int{5, 6, 7}, []int{20, 33, 50, 51}}, {[]int{20, 21}, 7, []int{1, 2, 3, 4, 8}, []int{1, 2, 10, 11, 20, 98, 99}},
		{[]int{21}, 1, []int{5, 6, 7}, []int{33, 50, 51}}, {[]int{20}, 1, []int{5, 6, 7}, []int{20, 33, 50, 51}},
	} {
		list := withShut(full.list, c.shut...)
		nodes, okNodes := impl.DryNodes(full.n, list, c.source)
		pipes, okPipes := impl.DryPipes(full.n, list, c.source)
		if !okNodes || !okPipes || !slices.Equal(nodes, c.nodes) || !slices.Equal(pipes, c.pipes) {
			t.Errorf("with %v shut, dry from %d: %v and %v, want %v and %v", c.shut, c.source, nodes, pipes, c.nodes, c.pipes)
		}
	}
}

func TestPartsWithoutTheSourceAreDry(t *testing.T) {
	apart := network(5, [4]int{1, 1, 4, 1}, [4]int{2, 3, 2, 1})
	for _, list := range [][]impl.Valve{nil, valves([3]int{1, 1, 4}), valves([3]int{1, 2, 3}, [3]int{2, 2, 2})} {
		for source, want := range map[int][2][]int{1: {{2, 3, 5}, {2}}, 4: {{2, 3, 5}, {2}}, 2: {{1, 4, 5}, {1}}, 3: {{1, 4, 5}, {1}}, 5: {{1, 2, 3, 4}, {1, 2}}} {
			nodes, okNodes := impl.DryNodes(apart, list, source)
			pipes, okPipes := impl.DryPipes(apart, list, source)
			if !okNodes || !okPipes || !slices.Equal(nodes, want[0]) || !slices.Equal(pipes, want[1]) {
				t.Errorf("with %v, dry from %d: %v and %v, want %v", list, source, nodes, pipes, want)
			}
		}
	}
	if nodes, ok := impl.DryNodes(network(3), nil, 2); !ok || !slices.Equal(nodes, []int{1, 3}) {
		t.Error("without pipes", nodes, ok)
	}
	if pipes, ok := impl.DryPipes(network(3), nil, 2); !ok || len(pipes) != 0 {
		t.Error("without pipes", pipes, ok)
	}
}

func TestWaterFollowsJoinedEndsAndOpenValves(t *testing.T) {
	for _, s := range allSystems() {
		wanted := wantedWater(s)
		for source := 1; source <= s.n.Nodes; source++ {
			wantNodes, wantPipes := split(s.n, wanted[source], false)
			if nodes, ok := impl.DryNodes(s.n, s.list, source); !ok || !slices.Equal(nodes, wantNodes) {
				t.Fatalf("DryNodes(%v, %d) = %v, %v, want %v", s, source, nodes, ok, wantNodes)
			}
			if pipes, ok := impl.DryPipes(s.n, s.list, source); !ok || !slices.Equal(pipes, wantPipes) {
				t.Fatalf("DryPipes(%v, %d) = %v, %v, want %v", s, source, pipes, ok, wantPipes)
			}
		}
	}
}

// shutAll turns the valves with these Ids to Shut, one after the other, as far as they are not.
func shutAll(t *testing.T, s system, ids []int) []impl.Valve {
	list, want := s.list, slices.Clone(s.list)
	for i, v := range s.list {
		if !slices.Contains(ids, v.Id) {
			continue
		}
		want[i].Shut = true
		if turned, ok := impl.TurnValve(s.n, list, v.Id, true); ok {
			list = turned
		}
	}
	if !slices.Equal(list, want) {
		t.Fatalf("shutting %v of %v one after the other leaves %v", ids, s, list)
	}
	return list
}

// containsAll reports whether all elements of some occur in list.
func containsAll(list []int, some []int) bool {
	return !slices.ContainsFunc(some, func(x int) bool { return !slices.Contains(list, x) })
}

// checkCutOff shuts the valves around a segment, which is given by its row in a grid, and
// checks that no water gets into it from a source outside or out of it from one inside.
func checkCutOff(t *testing.T, s system, row [impl.MaxNodes + impl.MaxPipes + 1]bool, around []int) {
	insideNodes, insidePipes := split(s.n, row, true)
	outsideNodes, outsidePipes := split(s.n, row, false)
	list := shutAll(t, s, around)
	opened := shutAll(t, system{s.n, withShut(s.list)}, around)
	for source := 1; source <= s.n.Nodes; source++ {
		wantNodes, wantPipes := insideNodes, insidePipes
		if row[source] {
			wantNodes, wantPipes = outsideNodes, outsidePipes
		}
		nodes, okNodes := impl.DryNodes(s.n, list, source)
		pipes, okPipes := impl.DryPipes(s.n, list, source)
		if !okNodes || !okPipes || !containsAll(nodes, wantNodes) || !containsAll(pipes, wantPipes) {
			t.Fatalf("with %v, dry from %d: %v and %v, want at least %v and %v", list, source, nodes, pipes, wantNodes, wantPipes)
		}
		// If all other valves are open, water from inside fills the segment.
		nodes, okNodes = impl.DryNodes(s.n, opened, source)
		pipes, okPipes = impl.DryPipes(s.n, opened, source)
		exact := slices.Equal(nodes, wantNodes) && slices.Equal(pipes, wantPipes)
		if !okNodes || !okPipes || !containsAll(nodes, wantNodes) || !containsAll(pipes, wantPipes) || row[source] && !exact {
			t.Fatalf("with %v, dry from %d: %v and %v, want %v and %v", opened, source, nodes, pipes, wantNodes, wantPipes)
		}
	}
}

func TestSegmentsBehindShutValvesAreDry(t *testing.T) {
	for _, s := range allSystems() {
		wanted := wantedGrid(s.n, s.list)
		for _, p := range s.n.Pipes {
			around, ok := impl.ValvesAround(s.n, s.list, p.Id)
			if !ok {
				t.Fatalf("ValvesAround(%v, %d)", s, p.Id)
			}
			checkCutOff(t, s, wanted[element(s.n, p.Id)], around)
		}
		// A node may be a segment alone, for which ValvesAround can't be asked.
		for node := 1; node <= s.n.Nodes; node++ {
			checkCutOff(t, s, wanted[node], valveIds(wantedAround(s, wanted[node])))
		}
	}
}

// behind returns s with its pipes and valves in memory that goes on behind them, and that whole
// memory.
func behind(s system) (system, []impl.Pipe, []impl.Valve) {
	n, pipes := filled(s.n)
	whole := append(slices.Clone(s.list), impl.Valve{Id: 98, Pipe: 77, Node: 1, Shut: true}, impl.Valve{Id: 99, Pipe: 88, Node: 2}, impl.Valve{})
	return system{n, whole[:len(s.list)]}, pipes, whole
}

// callAllForValves calls every function for s and overwrites all memory of the results.
func callAllForValves(s system) {
	spoil := func(lists ...[]int) {
		for _, list := range lists {
			all := list[:cap(list)]
			for i := range all {
				all[i] = -7
			}
		}
	}
	impl.IsValidValves(s.n, s.list)
	impl.CountSegments(s.n, s.list)
	needless, _ := impl.NeedlessValves(s.n, s.list)
	spoil(needless)
	for node := -1; node <= s.n.Nodes+1; node++ {
		nodes, pipes, _ := impl.SegmentOfNode(s.n, s.list, node)
		dryNodes, _ := impl.DryNodes(s.n, s.list, node)
		dryPipes, _ := impl.DryPipes(s.n, s.list, node)
		spoil(nodes, pipes, dryNodes, dryPipes)
	}
	for id := 0; id <= 100; id++ {
		nodes, pipes, _ := impl.SegmentOfPipe(s.n, s.list, id)
		around, _ := impl.ValvesAround(s.n, s.list, id)
		spoil(nodes, pipes, around)
		for _, shut := range []bool{false, true} {
			turned, _ := impl.TurnValve(s.n, s.list, id, shut)
			all := turned[:cap(turned)]
			for i := range all {
				all[i] = impl.Valve{Id: -7}
			}
		}
	}
}

func TestValveFunctionsLeaveTheirArgumentsAlone(t *testing.T) {
	systems := append(mixedSystems()[:300], fullSystem(), forkSystem(), system{network(1), nil})
	for _, s := range systems {
		arg, _, _ := behind(s)
		checkSegments(t, arg)
	}
	for _, list := range invalidLists() {
		systems = append(systems, system{forkNetwork(), list})
	}
	for _, n := range invalidNetworks() {
		n.Nodes = min(max(n.Nodes, -1), 9)
		systems = append(systems, system{n, valves([3]int{1, 5, 1}, [3]int{2, 5, 2})})
	}
	for _, s := range systems {
		arg, pipes, list := behind(s)
		pipesBefore, listBefore := slices.Clone(pipes), slices.Clone(list)
		callAllForValves(arg)
		if !slices.Equal(pipes, pipesBefore) || !slices.Equal(list, listBefore) {
			t.Fatalf("an argument is modified: %v and %v become %v and %v", pipesBefore, listBefore, pipes, list)
		}
	}
}

func TestTurnedValvesShareNoMemory(t *testing.T) {
	spoil := func(list []impl.Valve) {
		all := list[:cap(list)]
		for i := range all {
			all[i] = impl.Valve{Id: -7}
		}
	}
	for _, id := range valveIds(fullSystem().list) {
		full, open := fullSystem(), fullSystem().list
		shut := withShut(open, id)
		first, _ := impl.TurnValve(full.n, full.list, id, true)
		second, _ := impl.TurnValve(full.n, full.list, id, true)
		back, _ := impl.TurnValve(full.n, first, id, false)
		spoil(first)
		if !slices.Equal(full.list, open) || !slices.Equal(second, shut) || !slices.Equal(back, open) {
			t.Fatal("a result shares memory with the argument or another result", id, full.list, second, back)
		}
		spoil(full.list)
		if !slices.Equal(second, shut) || !slices.Equal(back, open) {
			t.Fatal("a result shares memory with the argument", id, second, back)
		}
	}
}

func TestSegmentResultsShareNoMemory(t *testing.T) {
	full := fullSystem()
	for _, segment := range []func() ([]int, []int, bool){
		func() ([]int, []int, bool) { return impl.SegmentOfPipe(full.n, full.list, 33) },
		func() ([]int, []int, bool) { return impl.SegmentOfNode(full.n, full.list, 7) },
	} {
		nodes, pipes, _ := segment()
		otherNodes, otherPipes, _ := segment()
		allNodes, allPipes := nodes[:cap(nodes)], pipes[:cap(pipes)]
		for i := range allNodes {
			allNodes[i] = -7
		}
		if !slices.Equal(pipes, []int{33, 50, 51}) {
			t.Error("the pipes share memory with the nodes", pipes)
		}
		for i := range allPipes {
			allPipes[i] = -8
		}
		if slices.Contains(allNodes, -8) || !slices.Equal(otherNodes, []int{5, 6, 7}) || !slices.Equal(otherPipes, []int{33, 50, 51}) {
			t.Error("results share memory", allNodes, otherNodes, otherPipes)
		}
	}
}
