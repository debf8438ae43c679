package tests

import (
	"fmt"
	"math"
	"math/rand"
	"regexp"
	"slices"
	"strconv"
	"strings"
	"testing"

	"loop.example/g00853/impl"
)

// network returns a network whose pipes are given by Id, From, To and Size, valid or not.
func network(nodes int, pipes ...[4]int) impl.Network {
	n := impl.Network{Nodes: nodes}
	for _, p := range pipes {
		n.Pipes = append(n.Pipes, impl.Pipe{Id: p[0], From: p[1], To: p[2], Size: p[3]})
	}
	return n
}

// sameNetwork reports whether two networks are equal, whatever lies behind their pipes.
func sameNetwork(a impl.Network, b impl.Network) bool {
	return a.Nodes == b.Nodes && slices.Equal(a.Pipes, b.Pipes)
}

// isZero reports whether n is the zero value that stands beside false.
func isZero(n impl.Network) bool { return n.Nodes == 0 && len(n.Pipes) == 0 }

// wantedText writes a network by the document's rule, without any check.
func wantedText(n impl.Network) string {
	s := fmt.Sprintf("nodes %d\n", n.Nodes)
	for _, p := range n.Pipes {
		s += fmt.Sprintf("%d: %d-%d size %d\n", p.Id, p.From, p.To, p.Size)
	}
	return s
}

// wantedConnected tells, for every two nodes, whether they are connected without the pipe with
// the Id without, by joining way to way until nothing changes.
func wantedConnected(n impl.Network, without int) [impl.MaxNodes + 1][impl.MaxNodes + 1]bool {
	var c [impl.MaxNodes + 1][impl.MaxNodes + 1]bool
	for a := 1; a <= n.Nodes; a++ {
		c[a][a] = true
	}
	for _, p := range n.Pipes {
		if p.Id != without {
			c[p.From][p.To], c[p.To][p.From] = true, true
		}
	}
	for via := 1; via <= n.Nodes; via++ {
		for a := 1; a <= n.Nodes; a++ {
			for b := 1; b <= n.Nodes; b++ {
				c[a][b] = c[a][b] || c[a][via] && c[via][b]
			}
		}
	}
	return c
}

// waysFrom returns all ways that pass no node twice and begin with the given one, by their last
// nodes.
func waysFrom(n impl.Network, from int) map[int][][]int {
	found := map[int][][]int{}
	var walk func(here int, passed []int, way []int)
	walk = func(here int, passed []int, way []int) {
		found[here] = append(found[here], slices.Clone(way))
		for _, p := range n.Pipes {
			for _, ends := range [2][2]int{{p.From, p.To}, {p.To, p.From}} {
				if ends[0] == here && !slices.Contains(passed, ends[1]) {
					walk(ends[1], append(slices.Clone(passed), ends[1]), append(slices.Clone(way), p.Id))
				}
			}
		}
	}
	walk(from, []int{from}, nil)
	return found
}

// bestWay returns the shortest one of some ways, and of several the lexicographically smallest.
func bestWay(ways [][]int) []int {
	return slices.MinFunc(ways, func(a []int, b []int) int {
		if len(a) != len(b) {
			return len(a) - len(b)
		}
		return slices.Compare(a, b)
	})
}

// smallNetworks returns all networks of up to four nodes with up to three pipes, but for Sizes.
func smallNetworks() []impl.Network {
	ids := []int{1, 9, 10}
	var list []impl.Network
	for nodes := 1; nodes <= 4; nodes++ {
		level := []impl.Network{{Nodes: nodes}}
		for k := 0; k <= len(ids); k++ {
			list = append(list, level...)
			var next []impl.Network
			for _, n := range level {
				for a := 1; a <= nodes && k < len(ids); a++ {
					for b := 1; b <= nodes; b++ {
						if a != b {
							p := impl.Pipe{Id: ids[k], From: a, To: b, Size: 1 + (a+3*b+k)%9}
							next = append(next, impl.Network{Nodes: nodes, Pipes: append(slices.Clone(n.Pipes), p)})
						}
					}
				}
			}
			level = next
		}
	}
	return list
}

// mixedNetworks returns networks of all numbers of nodes and pipes; the seed is fixed, so that
// every run tests the same ones.
func mixedNetworks() []impl.Network {
	r := rand.New(rand.NewSource(2))
	var list []impl.Network
	for range 1500 {
		n := impl.Network{Nodes: 1 + r.Intn(impl.MaxNodes)}
		ids := r.Perm(99)[:r.Intn(impl.MaxPipes+1)]
		slices.Sort(ids)
		for _, id := range ids {
			if n.Nodes > 1 {
				ends := r.Perm(n.Nodes)
				n.Pipes = append(n.Pipes, impl.Pipe{Id: id + 1, From: ends[0] + 1, To: ends[1] + 1, Size: 1 + r.Intn(9)})
			}
		}
		list = append(list, n)
	}
	return list
}

// allNetworks returns the networks that the general tests go through.
func allNetworks() []impl.Network { return append(smallNetworks(), mixedNetworks()...) }

// fullNetwork has MaxNodes nodes and MaxPipes pipes, among them two between two nodes, the first
// and the last Id, and the smallest and the greatest Size.
func fullNetwork() impl.Network {
	return network(8, [4]int{1, 1, 2, 1}, [4]int{2, 3, 2, 9}, [4]int{10, 2, 3, 5}, [4]int{11, 3, 4, 1}, [4]int{20, 5, 4, 2},
		[4]int{33, 5, 6, 3}, [4]int{50, 6, 7, 4}, [4]int{51, 7, 5, 6}, [4]int{98, 1, 8, 7}, [4]int{99, 8, 2, 8})
}

// oddNodes are numbers that no network of three nodes has as a node.
var oddNodes = []int{0, -1, 4, 9, 100, math.MaxInt, math.MinInt}

// invalidNetworks returns networks of which each breaks one rule.
func invalidNetworks() map[string]impl.Network {
	good := [4]int{5, 1, 2, 3}
	list := map[string]impl.Network{
		"zero": {}, "no node": network(0), "fewer than no node": network(-1), "too many nodes": network(9, good),
		"far too many nodes": network(math.MaxInt), "far too few nodes": network(math.MinInt),
		"Id 0": network(3, [4]int{0, 1, 2, 3}), "Id 100": network(3, [4]int{100, 1, 2, 3}), "Id -1": network(3, [4]int{-1, 1, 2, 3}, good),
		"Id 100 behind": network(3, good, [4]int{100, 1, 2, 3}), "greatest Id": network(3, [4]int{math.MaxInt, 1, 2, 3}),
		"Size 0": network(3, [4]int{5, 1, 2, 0}), "Size 10": network(3, [4]int{5, 1, 2, 10}), "Size -1": network(3, good, [4]int{6, 1, 2, -1}),
		"From 0": network(3, [4]int{5, 0, 2, 3}), "From 4": network(3, [4]int{5, 4, 2, 3}), "From -1": network(3, [4]int{5, -1, 2, 3}),
		"To 0": network(3, [4]int{5, 1, 0, 3}), "To 4": network(3, [4]int{5, 1, 4, 3}), "To 9 of 8": network(8, [4]int{5, 1, 9, 3}),
		"From far away": network(3, [4]int{5, math.MaxInt, 2, 3}), "To far away": network(3, [4]int{5, 1, math.MinInt, 3}),
		"from a node to itself": network(3, good, [4]int{6, 2, 2, 3}), "one node": network(1, [4]int{5, 1, 1, 3}), "second of one": network(1, good),
		"same Id": network(3, good, [4]int{5, 2, 3, 3}), "twice the same": network(3, good, good),
		"descending": network(3, [4]int{6, 1, 2, 3}, good), "last descends": network(3, [4]int{4, 1, 2, 3}, [4]int{6, 1, 2, 3}, good),
	}
	for _, count := range []int{11, 99, 5000} {
		var n impl.Network
		for id := 1; id <= count; id++ {
			n.Pipes = append(n.Pipes, impl.Pipe{Id: id, From: 1, To: 2, Size: 3})
		}
		n.Nodes = 3
		list[strconv.Itoa(count)+" pipes"] = n
	}
	return list
}

func TestIsValidNetworkAcceptsTheLimits(t *testing.T) {
	for _, n := range append(allNetworks(), fullNetwork(), network(1), network(8), impl.Network{Nodes: 1, Pipes: []impl.Pipe{}},
		network(2, [4]int{1, 1, 2, 1}), network(2, [4]int{99, 2, 1, 9}), network(2, [4]int{1, 1, 2, 1}, [4]int{2, 1, 2, 1}, [4]int{3, 2, 1, 1})) {
		if !impl.IsValidNetwork(n) {
			t.Error("refused", n)
		}
	}
}

func TestInvalidNetworksYieldZeroValues(t *testing.T) {
	for name, n := range invalidNetworks() {
		if impl.IsValidNetwork(n) {
			t.Error("accepted:", name)
		}
		for _, node := range []int{1, 2, 0, -1, 4, math.MaxInt} {
			at, okAt := impl.PipesAt(n, node)
			reached, okReached := impl.ReachedFrom(n, node)
			if okAt || okReached || len(at)+len(reached) != 0 {
				t.Error("PipesAt or ReachedFrom:", name, node, at, reached)
			}
			for _, to := range []int{1, 2, node} {
				if way, ok := impl.ShortestWay(n, node, to); ok || len(way) != 0 {
					t.Error("ShortestWay:", name, node, to, way)
				}
			}
		}
		parts, okParts := impl.NetworkParts(n)
		bridges, okBridges := impl.BridgePipes(n)
		text, okText := impl.NetworkText(n)
		if okParts || okBridges || okText || len(parts)+len(bridges)+len(text) != 0 {
			t.Error("NetworkParts, BridgePipes or NetworkText:", name, parts, bridges, text)
		}
		for _, id := range []int{5, 1, 7, 0, 100, -1, math.MaxInt} {
			added, okAdded := impl.AddPipe(n, impl.Pipe{Id: id, From: 1, To: 2, Size: 3})
			removed, okRemoved := impl.RemovePipe(n, id)
			if okAdded || okRemoved || !isZero(added) || !isZero(removed) {
				t.Error("AddPipe or RemovePipe:", name, id, added, removed)
			}
		}
		if back, ok := impl.ParseNetwork(wantedText(n)); ok || !isZero(back) {
			t.Error("ParseNetwork:", name, back)
		}
	}
}

func TestRemovingMakesNoInvalidNetworkValid(t *testing.T) {
	n := network(3, [4]int{4, 1, 2, 3}, [4]int{5, 1, 2, 10}, [4]int{5, 2, 3, 1})
	for _, id := range []int{4, 5, 6} {
		if m, ok := impl.RemovePipe(n, id); ok || !isZero(m) {
			t.Error("removed", id, m)
		}
	}
}

func TestNodesThatDoNotOccurYieldZeroValues(t *testing.T) {
	n := network(3, [4]int{5, 1, 2, 3}, [4]int{6, 2, 3, 3})
	for _, node := range oddNodes {
		at, okAt := impl.PipesAt(n, node)
		reached, okReached := impl.ReachedFrom(n, node)
		if okAt || okReached || len(at)+len(reached) != 0 {
			t.Error("PipesAt or ReachedFrom", node, at, reached)
		}
		for _, ends := range [][2]int{{node, 1}, {1, node}, {node, node}} {
			if way, ok := impl.ShortestWay(n, ends[0], ends[1]); ok || len(way) != 0 {
				t.Error("ShortestWay", ends, way)
			}
		}
	}
}

func TestPipesAtListsBothEnds(t *testing.T) {
	full := fullNetwork()
	for node, want := range map[int][]int{1: {1, 98}, 2: {1, 2, 10, 99}, 3: {2, 10, 11}, 4: {11, 20}, 5: {20, 33, 51}, 8: {98, 99}} {
		if got, ok := impl.PipesAt(full, node); !ok || !slices.Equal(got, want) {
			t.Errorf("PipesAt(%d) = %v, %v, want %v", node, got, ok, want)
		}
	}
	for _, n := range allNetworks() {
		for node := 1; node <= n.Nodes; node++ {
			var want []int
			for _, p := range n.Pipes {
				if p.From == node || p.To == node {
					want = append(want, p.Id)
				}
			}
			if got, ok := impl.PipesAt(n, node); !ok || !slices.Equal(got, want) {
				t.Fatalf("PipesAt(%v, %d) = %v, %v, want %v", n, node, got, ok, want)
			}
		}
	}
}

func TestReachedFromAndPartsFollowThePipes(t *testing.T) {
	for _, n := range append(allNetworks(), fullNetwork(), network(1), network(8)) {
		connected := wantedConnected(n, 0)
		var wantParts [][]int
		for a := 1; a <= n.Nodes; a++ {
			var want []int
			for b := 1; b <= n.Nodes; b++ {
				if connected[a][b] {
					want = append(want, b)
				}
			}
			if want[0] == a {
				wantParts = append(wantParts, want)
			}
			if got, ok := impl.ReachedFrom(n, a); !ok || !slices.Equal(got, want) {
				t.Fatalf("ReachedFrom(%v, %d) = %v, %v, want %v", n, a, got, ok, want)
			}
		}
		if got, ok := impl.NetworkParts(n); !ok || !slices.EqualFunc(got, wantParts, slices.Equal) {
			t.Fatalf("NetworkParts(%v) = %v, %v, want %v", n, got, ok, wantParts)
		}
	}
}

func TestPartsOfKnownNetworks(t *testing.T) {
	for _, c := range []struct {
		n    impl.Network
		want [][]int
	}{
		{network(1), [][]int{{1}}},
		{network(3), [][]int{{1}, {2}, {3}}},
		{network(5, [4]int{1, 5, 2, 1}, [4]int{2, 4, 1, 1}), [][]int{{1, 4}, {2, 5}, {3}}},
		{network(8, [4]int{7, 8, 1, 1}), [][]int{{1, 8}, {2}, {3}, {4}, {5}, {6}, {7}}},
		{fullNetwork(), [][]int{{1, 2, 3, 4, 5, 6, 7, 8}}},
	} {
		if got, ok := impl.NetworkParts(c.n); !ok || !slices.EqualFunc(got, c.want, slices.Equal) {
			t.Errorf("NetworkParts(%v) = %v, %v, want %v", c.n, got, ok, c.want)
		}
	}
}

func TestBridgesAreNeededByTheirEnds(t *testing.T) {
	for _, c := range []struct {
		n    impl.Network
		want []int
	}{
		{network(1), nil},
		{network(2, [4]int{99, 2, 1, 9}), []int{99}},
		{network(2, [4]int{3, 1, 2, 1}, [4]int{4, 1, 2, 1}), nil},
		{network(3, [4]int{3, 1, 2, 1}, [4]int{4, 2, 1, 9}, [4]int{7, 3, 2, 1}), []int{7}},
		{network(3, [4]int{3, 1, 2, 1}, [4]int{4, 2, 3, 1}, [4]int{7, 1, 3, 1}), nil},
		{network(4, [4]int{3, 1, 2, 1}, [4]int{4, 3, 4, 1}), []int{3, 4}},
		{fullNetwork(), []int{11, 20}},
	} {
		if got, ok := impl.BridgePipes(c.n); !ok || !slices.Equal(got, c.want) {
			t.Errorf("BridgePipes(%v) = %v, %v, want %v", c.n, got, ok, c.want)
		}
	}
	for _, n := range allNetworks() {
		var want []int
		for _, p := range n.Pipes {
			if !wantedConnected(n, p.Id)[p.From][p.To] {
				want = append(want, p.Id)
			}
		}
		if got, ok := impl.BridgePipes(n); !ok || !slices.Equal(got, want) {
			t.Fatalf("BridgePipes(%v) = %v, %v, want %v", n, got, ok, want)
		}
	}
}

func TestAddPipePutsThePipeInItsPlace(t *testing.T) {
	n := network(3, [4]int{5, 1, 2, 3}, [4]int{7, 2, 3, 4})
	for place, id := range map[int]int{0: 4, 1: 6, 2: 8} {
		p := impl.Pipe{Id: id, From: 3, To: 1, Size: 9}
		want := impl.Network{Nodes: 3, Pipes: slices.Insert(slices.Clone(n.Pipes), place, p)}
		if got, ok := impl.AddPipe(n, p); !ok || !sameNetwork(got, want) {
			t.Errorf("AddPipe(%v) = %v, %v, want %v", p, got, ok, want)
		}
	}
	for _, p := range []impl.Pipe{{Id: 1, From: 2, To: 1, Size: 1}, {Id: 99, From: 2, To: 1, Size: 9}, {Id: 6, From: 1, To: 2, Size: 3}} {
		got, ok := impl.AddPipe(n, p)
		if !ok || len(got.Pipes) != 3 || !slices.Contains(got.Pipes, p) {
			t.Errorf("AddPipe(%v) = %v, %v", p, got, ok)
		}
	}
	first := impl.Pipe{Id: 50, From: 2, To: 3, Size: 1}
	if got, ok := impl.AddPipe(network(3), first); !ok || got.Nodes != 3 || !slices.Equal(got.Pipes, []impl.Pipe{first}) {
		t.Error("the first pipe", got, ok)
	}
}

func TestAddPipeRefusesOtherPipes(t *testing.T) {
	n := network(3, [4]int{5, 1, 2, 3}, [4]int{7, 2, 3, 4})
	for _, p := range []impl.Pipe{
		{}, {Id: 5, From: 1, To: 2, Size: 3}, {Id: 5, From: 1, To: 3, Size: 9}, {Id: 7, From: 1, To: 3, Size: 9},
		{Id: 0, From: 1, To: 2, Size: 3}, {Id: -1, From: 1, To: 2, Size: 3}, {Id: 100, From: 1, To: 2, Size: 3}, {Id: math.MaxInt, From: 1, To: 2, Size: 3},
		{Id: 6, From: 0, To: 2, Size: 3}, {Id: 6, From: 4, To: 2, Size: 3}, {Id: 6, From: 1, To: 0, Size: 3}, {Id: 6, From: 1, To: 4, Size: 3},
		{Id: 6, From: 2, To: 2, Size: 3}, {Id: 6, From: 1, To: 2, Size: 0}, {Id: 6, From: 1, To: 2, Size: 10}, {Id: 6, From: 1, To: 2, Size: -1},
	} {
		if got, ok := impl.AddPipe(n, p); ok || !isZero(got) {
			t.Errorf("AddPipe(%v) = %v, %v", p, got, ok)
		}
	}
}

func TestAddPipeMeetsTheLimit(t *testing.T) {
	n := network(2)
	for k := range impl.MaxPipes {
		added, ok := impl.AddPipe(n, impl.Pipe{Id: 99 - k, From: 1, To: 2, Size: 1})
		if !ok || len(added.Pipes) != k+1 || added.Pipes[0].Id != 99-k {
			t.Fatal("pipe", k+1, added, ok)
		}
		n = added
	}
	for _, id := range []int{1, 99} {
		if got, ok := impl.AddPipe(n, impl.Pipe{Id: id, From: 1, To: 2, Size: 1}); ok || !isZero(got) {
			t.Error("one pipe too many", id, got)
		}
	}
}

func TestRemovedPipesAreAddedAgain(t *testing.T) {
	for _, n := range append(allNetworks(), fullNetwork()) {
		for i, p := range n.Pipes {
			want := impl.Network{Nodes: n.Nodes, Pipes: slices.Delete(slices.Clone(n.Pipes), i, i+1)}
			removed, ok := impl.RemovePipe(n, p.Id)
			if !ok || !sameNetwork(removed, want) {
				t.Fatalf("RemovePipe(%v, %d) = %v, %v", n, p.Id, removed, ok)
			}
			if back, ok := impl.AddPipe(removed, p); !ok || !sameNetwork(back, n) {
				t.Fatalf("AddPipe(%v, %v) = %v, %v", removed, p, back, ok)
			}
		}
	}
}

func TestRemovePipeRefusesOtherIds(t *testing.T) {
	n := network(3, [4]int{5, 1, 2, 3}, [4]int{7, 2, 3, 4})
	for _, id := range []int{0, 1, 4, 6, 8, 99, 100, -5, math.MaxInt, math.MinInt} {
		if got, ok := impl.RemovePipe(n, id); ok || !isZero(got) {
			t.Errorf("RemovePipe(%d) = %v, %v", id, got, ok)
		}
		if got, ok := impl.RemovePipe(network(3), id); ok || !isZero(got) {
			t.Errorf("RemovePipe(%d) of no pipes = %v, %v", id, got, ok)
		}
	}
}

func TestShortestWayOfKnownNetworks(t *testing.T) {
	square := network(4, [4]int{1, 1, 2, 1}, [4]int{2, 1, 3, 9}, [4]int{3, 4, 3, 1}, [4]int{4, 2, 4, 9})
	twice := network(3, [4]int{2, 2, 1, 9}, [4]int{3, 1, 2, 1}, [4]int{8, 3, 2, 9}, [4]int{9, 2, 3, 1}, [4]int{10, 2, 3, 1})
	long := network(3, [4]int{1, 1, 2, 1}, [4]int{2, 2, 3, 1}, [4]int{50, 3, 1, 9})
	for _, c := range []struct {
		n        impl.Network
		from, to int
		want     []int
	}{
		{network(1), 1, 1, nil}, {square, 3, 3, nil}, {network(2), 2, 2, nil},
		{square, 1, 4, []int{1, 4}}, {square, 4, 1, []int{3, 2}}, {square, 2, 3, []int{1, 2}}, {square, 3, 2, []int{2, 1}},
		{twice, 1, 3, []int{2, 8}}, {twice, 3, 1, []int{8, 2}},
		{long, 1, 3, []int{50}}, {long, 3, 1, []int{50}}, {long, 2, 1, []int{1}},
		{fullNetwork(), 8, 7, []int{99, 2, 11, 20, 51}}, {fullNetwork(), 1, 6, []int{1, 2, 11, 20, 33}},
	} {
		if got, ok := impl.ShortestWay(c.n, c.from, c.to); !ok || !slices.Equal(got, c.want) {
			t.Errorf("ShortestWay(%v, %d, %d) = %v, %v, want %v", c.n, c.from, c.to, got, ok, c.want)
		}
	}
}

func TestShortestWayIsTheFirstOfAllWays(t *testing.T) {
	for _, n := range allNetworks() {
		for from := 1; from <= n.Nodes; from++ {
			ways := waysFrom(n, from)
			for to := 1; to <= n.Nodes; to++ {
				got, ok := impl.ShortestWay(n, from, to)
				if ok != (len(ways[to]) > 0) || !ok && len(got) != 0 {
					t.Fatalf("ShortestWay(%v, %d, %d) = %v, %v", n, from, to, got, ok)
				}
				if ok && !slices.Equal(got, bestWay(ways[to])) {
					t.Fatalf("ShortestWay(%v, %d, %d) = %v, want %v", n, from, to, got, bestWay(ways[to]))
				}
			}
		}
	}
}

func TestNetworksAreRecoveredFromTheirTexts(t *testing.T) {
	for _, n := range append(allNetworks(), fullNetwork(), network(1), network(8)) {
		s, ok := impl.NetworkText(n)
		if !ok || s != wantedText(n) {
			t.Fatalf("NetworkText(%v) = %q, %v", n, s, ok)
		}
		if back, ok := impl.ParseNetwork(s); !ok || !sameNetwork(back, n) {
			t.Fatalf("ParseNetwork(%q) = %v, %v, want %v", s, back, ok, n)
		}
	}
}

func TestTextsOfKnownNetworks(t *testing.T) {
	for want, n := range map[string]impl.Network{
		"nodes 1\n":                 network(1),
		"nodes 8\n":                 network(8),
		"nodes 2\n99: 2-1 size 9\n": network(2, [4]int{99, 2, 1, 9}),
		"nodes 3\n1: 1-2 size 1\n10: 3-2 size 5\n":  network(3, [4]int{1, 1, 2, 1}, [4]int{10, 3, 2, 5}),
		"nodes 8\n7: 8-7 size 2\n8: 7-8 size 2\n":   network(8, [4]int{7, 8, 7, 2}, [4]int{8, 7, 8, 2}),
		"nodes 4\n20: 4-1 size 3\n21: 4-1 size 3\n": network(4, [4]int{20, 4, 1, 3}, [4]int{21, 4, 1, 3}),
		"nodes 2\n9: 1-2 size 1\n10: 1-2 size 1\n":  network(2, [4]int{9, 1, 2, 1}, [4]int{10, 1, 2, 1}),
		"nodes 5\n1: 5-4 size 9\n99: 4-5 size 1\n":  network(5, [4]int{1, 5, 4, 9}, [4]int{99, 4, 5, 1}),
	} {
		if s, ok := impl.NetworkText(n); !ok || s != want {
			t.Errorf("NetworkText(%v) = %q, %v, want %q", n, s, ok, want)
		}
		if back, ok := impl.ParseNetwork(want); !ok || !sameNetwork(back, n) {
			t.Errorf("ParseNetwork(%q) = %v, %v", want, back, ok)
		}
	}
}

func TestParseNetworkRefusesOtherStrings(t *testing.T) {
	for _, s := range []string{
		"", "\n", "nodes", "nodes\n", "nodes \n", "nodes 2", "nodes 02\n", "nodes +2\n", "nodes -2\n", "nodes  2\n", " nodes 2\n", "nodes 2 \n", "Nodes 2\n",
		"nodes 0\n", "nodes 9\n", "nodes 10\n", "nodes 2\n\n", "\nnodes 2\n", "nodes 2\r\n", "nodes x\n", "nodes 2\x00\n", "2\n", "node 1\n",
		"nodes 2\n1: 1-2 size 3", "nodes 2\n01: 1-2 size 3\n", "nodes 2\n1: 01-2 size 3\n", "nodes 2\n1: 1-02 size 3\n", "nodes 2\n1: 1-2 size 03\n",
		"nodes 2\n1:  1-2 size 3\n", "nodes 2\n1 : 1-2 size 3\n", "nodes 2\n 1: 1-2 size 3\n", "nodes 2\n1: 1 -2 size 3\n", "nodes 2\n1: 1- 2 size 3\n",
		"nodes 2\n1: 1-2  size 3\n", "nodes 2\n1: 1-2 size  3\n", "nodes 2\n1: 1-2 size 3 \n", "nodes 2\n1:1-2 size 3\n", "nodes 2\n1: 1-2 size3\n", "nodes 2\n1: 1-2size 3\n",
		"nodes 2\n1: 1-2 size\n", "nodes 2\n1: 1-2\n", "nodes 2\n1: 1\n", "nodes 2\n1\n", "nodes 2\n1: 1-2 size 3 size 3\n", "nodes 2\n1: 1-2-1 size 3\n", "nodes 2\n1: 2: 1-2 size 3\n",
		"nodes 2\n1: --1-2 size 3\n", "nodes 2\n1: 1--2 size 3\n", "nodes 2\n1: 1-2 size -3\n", "nodes 2\n-1: 1-2 size 3\n", "nodes 2\n+1: 1-2 size 3\n", "nodes 2\n1: 1-2 size x\n",
		"nodes 2\n\n1: 1-2 size 3\n", "nodes 2\n1: 1-2 size 3\n\n", "nodes 2\n1: 1-2 size 3\n\n2: 1-2 size 3\n", "1: 1-2 size 3\n", "1: 1-2 size 3\nnodes 2\n",
		"nodes 2\n1: 1-2 size 3\n1: 1-2 size 3\n", "nodes 2\n2: 1-2 size 3\n1: 1-2 size 3\n", "nodes 2\n10: 1-2 size 3\n9: 1-2 size 3\n", "nodes 2\n0: 1-2 size 3\n", "nodes 2\n100: 1-2 size 3\n",
		"nodes 2\n1: 1-1 size 3\n", "nodes 2\n1: 1-3 size 3\n", "nodes 2\n1: 0-2 size 3\n", "nodes 2\n1: 1-2 size 0\n", "nodes 2\n1: 1-2 size 10\n", "nodes 1\n1: 1-2 size 3\n",
		"nodes 2\nnodes 2\n", "nodes 2\n1: 1-2 size 3\nnodes 2\n", strings.Repeat("\n", 100000), strings.Repeat("nodes 2\n", 100), "nodes 2\n" + strings.Repeat("9", 100000),
	} {
		if n, ok := impl.ParseNetwork(s); ok || !isZero(n) {
			t.Errorf("ParseNetwork(%.80q) = %v, %v", s, n, ok)
		}
	}
}

func TestParseNetworkMeetsTheLimit(t *testing.T) {
	s := "nodes 8\n"
	for id := 90; id <= 99; id++ {
		s += strconv.Itoa(id) + ": 8-7 size 9\n"
	}
	if n, ok := impl.ParseNetwork(s); !ok || n.Nodes != impl.MaxNodes || len(n.Pipes) != impl.MaxPipes || wantedText(n) != s {
		t.Error("MaxPipes pipes", n, ok)
	}
	more := strings.Replace(s, "\n", "\n89: 8-7 size 9\n", 1)
	if n, ok := impl.ParseNetwork(more); ok || !isZero(n) {
		t.Error("one pipe too many", n, ok)
	}
}

// textShape is the form of a text, but for the order of the Ids and the ends of the pipes.
var textShape = regexp.MustCompile(`\Anodes ([1-8])\n(?:[1-9][0-9]?: [1-8]-[1-8] size [1-9]\n){0,10}\z`)

// isText tells by its form and the numbers in it whether s is the text of a network.
func isText(s string) bool {
	shape := textShape.FindStringSubmatch(s)
	if shape == nil {
		return false
	}
	last := 0
	for _, line := range strings.Split(strings.TrimSuffix(s, "\n"), "\n")[1:] {
		var id, from, to, size int
		fmt.Sscanf(line, "%d: %d-%d size %d", &id, &from, &to, &size)
		nodes := int(shape[1][0] - '0')
		if id <= last || from == to || from > nodes || to > nodes {
			return false
		}
		last = id
	}
	return true
}

func TestParseNetworkReadsExactlyTheTexts(t *testing.T) {
	check := func(s string) {
		n, ok := impl.ParseNetwork(s)
		if ok != isText(s) || !ok && !isZero(n) || ok && wantedText(n) != s {
			t.Fatalf("ParseNetwork(%q) = %v, %v", s, n, ok)
		}
	}
	for _, s := range []string{
		"nodes 1\n", "nodes 3\n7: 1-2 size 4\n", "nodes 4\n5: 3-2 size 9\n10: 1-4 size 1\n", "nodes 2\n9: 1-2 size 3\n21: 2-1 size 3\n99: 1-2 size 1\n",
		wantedText(fullNetwork()),
	} {
		check(s)
		for i := range len(s) + 1 {
			check(s[:i])
			check(s[i:])
			for c := range 256 {
				check(s[:i] + string([]byte{byte(c)}) + s[i:])
				if i < len(s) {
					check(s[:i] + string([]byte{byte(c)}) + s[i+1:])
				}
			}
			for j := i; j <= len(s); j++ {
				check(s[:i] + s[j:])
				check(s[:j] + s[i:])
			}
		}
	}
}

// filled returns n with its pipes in memory that goes on behind them, and that whole memory.
func filled(n impl.Network) (impl.Network, []impl.Pipe) {
	whole := append(slices.Clone(n.Pipes), impl.Pipe{Id: 77, From: 1, To: 2, Size: 3}, impl.Pipe{Id: 88, From: 2, To: 1, Size: 4}, impl.Pipe{})
	return impl.Network{Nodes: n.Nodes, Pipes: whole[:len(n.Pipes)]}, whole
}

// callAll calls every function for n and overwrites all memory of the results.
func callAll(n impl.Network) {
	spoilPipes := func(m impl.Network) {
		all := m.Pipes[:cap(m.Pipes)]
		for i := range all {
			all[i] = impl.Pipe{Id: -7}
		}
	}
	spoil := func(list []int) {
		all := list[:cap(list)]
		for i := range all {
			all[i] = -7
		}
	}
	impl.IsValidNetwork(n)
	for node := -1; node <= n.Nodes+1; node++ {
		at, _ := impl.PipesAt(n, node)
		spoil(at)
		reached, _ := impl.ReachedFrom(n, node)
		spoil(reached)
		for to := -1; to <= n.Nodes+1; to++ {
			way, _ := impl.ShortestWay(n, node, to)
			spoil(way)
		}
	}
	parts, _ := impl.NetworkParts(n)
	for _, part := range parts {
		spoil(part)
	}
	bridges, _ := impl.BridgePipes(n)
	spoil(bridges)
	for id := 0; id <= 100; id++ {
		added, _ := impl.AddPipe(n, impl.Pipe{Id: id, From: 1, To: 2, Size: 3})
		spoilPipes(added)
		removed, _ := impl.RemovePipe(n, id)
		spoilPipes(removed)
	}
	text, _ := impl.NetworkText(n)
	back, _ := impl.ParseNetwork(text)
	spoilPipes(back)
}

func TestNetworkFunctionsLeaveTheirArgumentsAlone(t *testing.T) {
	networks := append(mixedNetworks()[:200], fullNetwork(), network(1), network(2, [4]int{5, 1, 2, 3}))
	for _, n := range invalidNetworks() {
		networks = append(networks, impl.Network{Nodes: min(max(n.Nodes, -1), 9), Pipes: n.Pipes})
	}
	for _, n := range networks {
		arg, whole := filled(n)
		before := slices.Clone(whole)
		callAll(arg)
		if !slices.Equal(whole, before) || !sameNetwork(arg, n) {
			t.Fatalf("an argument is modified: %v becomes %v", before, whole)
		}
	}
}

func TestNetworkResultsShareNoMemory(t *testing.T) {
	n := network(6, [4]int{1, 1, 4, 1}, [4]int{2, 4, 5, 1}, [4]int{3, 2, 6, 1})
	want := [][]int{{1, 4, 5}, {2, 6}, {3}}
	first, _ := impl.NetworkParts(n)
	second, _ := impl.NetworkParts(n)
	for i := range first {
		all := first[i][:cap(first[i])]
		for k := range all {
			all[k] = -1
		}
		for j := i + 1; j < len(first); j++ {
			if !slices.Equal(first[j], want[j]) {
				t.Error("two parts share memory", i, j, first)
			}
		}
	}
	if !slices.EqualFunc(second, want, slices.Equal) {
		t.Error("the parts of two calls share memory", second)
	}

	p := impl.Pipe{Id: 9, From: 1, To: 2, Size: 1}
	one, _ := impl.AddPipe(n, p)
	other, _ := impl.AddPipe(n, p)
	for i := range one.Pipes {
		one.Pipes[i] = impl.Pipe{}
	}
	if len(other.Pipes) != 4 || other.Pipes[3] != p || !slices.Equal(other.Pipes[:3], n.Pipes) {
		t.Error("two added networks share memory", other)
	}
}
