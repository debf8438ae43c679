package tests

import (
	"maps"
	"math"
	"math/rand"
	"slices"
	"testing"

	"loop.example/g00853/impl"
)

// maxHead is the limit MaxHead, written out.
const maxHead = 100000000000

// otherHeads are numbers that are no heads at a source, no heights and no needs.
var otherHeads = []int{-1, maxHead + 1, -maxHead, 2 * maxHead, -2, 1 << 40, -1 << 40, math.MinInt, math.MaxInt}

// binaryHeights are heights that tell all sums of some of them apart from each other.
var binaryHeights = []int{100, 200, 400, 800, 1600, 3200, 6400, 12800}

// hill is what the functions of a tree with heads get.
type hill struct {
	n       impl.Network
	source  int
	demands []int
	head    int
	heights []int
	need    int
}

// riverHill is the hill of the river of four nodes, with the losses 1369, -200 and 400.
func riverHill() hill {
	return hill{n: river(), source: 1, demands: []int{5, 7, 10, 20}, head: 5000, heights: []int{0, 31, 431, 4000}, need: 3500}
}

// twoRings has two rings, two pipes between two nodes, one in each direction, and node 7 apart.
func twoRings() impl.Network {
	return network(7, [4]int{1, 1, 2, 1}, [4]int{2, 1, 4, 2}, [4]int{3, 3, 4, 3}, [4]int{4, 3, 2, 4}, [4]int{5, 3, 5, 5},
		[4]int{6, 5, 3, 6}, [4]int{7, 5, 6, 7}, [4]int{8, 6, 3, 8})
}

// wantedLoss is the loss of a pipe: by the square of its flow, and in the direction of it.
func wantedLoss(p impl.Pipe, flow int) int {
	loss := p.Size * flow * flow
	if flow < 0 {
		return -loss
	}
	return loss
}

// wantedHeads returns the heads of a tree: from the head at the source on, a pipe with one head
// known tells the other one, until all are known.
func wantedHeads(h hill) []int {
	flows := wantedFlows(h.n, h.source, h.demands)
	heads, known := make([]int, h.n.Nodes), make([]bool, h.n.Nodes)
	heads[h.source-1], known[h.source-1] = h.head, true
	for range h.n.Nodes {
		for i, p := range h.n.Pipes {
			from, to, loss := p.From-1, p.To-1, wantedLoss(p, flows[i])
			if known[from] && !known[to] {
				heads[to], known[to] = heads[from]-loss, true
			} else if known[to] && !known[from] {
				heads[from], known[from] = heads[to]+loss, true
			}
		}
	}
	return heads
}

// wantedPressures returns the pressures of a tree.
func wantedPressures(h hill) []int {
	pressures := wantedHeads(h)
	for i, height := range h.heights {
		pressures[i] -= height
	}
	return pressures
}

// wantedWeak returns the nodes of a tree whose pressure is less than what they need.
func wantedWeak(h hill) []int {
	var weak []int
	for i, pressure := range wantedPressures(h) {
		if pressure < h.need {
			weak = append(weak, i+1)
		}
	}
	return weak
}

// wantedNeeded returns the smallest head with which no node is weak, and whether it is in range:
// the greatest of what the nodes ask for on their own.
func wantedNeeded(h hill) (int, bool) {
	needed := 0
	for i, head := range wantedHeads(h) {
		needed = max(needed, h.need+h.heights[i]+h.head-head)
	}
	if needed > maxHead {
		return 0, false
	}
	return needed, true
}

// wantedAlong returns the sum of the losses on a way that begins at a node.
func wantedAlong(n impl.Network, flows []int, here int, way []int) int {
	sum := 0
	for _, id := range way {
		i := pipeIndex(n, id)
		p := n.Pipes[i]
		if p.From == here {
			sum += wantedLoss(p, flows[i])
			here = p.To
		} else {
			sum -= wantedLoss(p, flows[i])
			here = p.From
		}
	}
	return sum
}

// someHeights returns lists of heights for a number of nodes: the limits, those that tell the
// nodes apart, one that differs from all others, and drawn ones.
func someHeights(r *rand.Rand, nodes int) [][]int {
	one, low, high := make([]int, nodes), make([]int, nodes), make([]int, nodes)
	one[r.Intn(nodes)] = []int{1, 5000, maxHead}[r.Intn(3)]
	for i := range nodes {
		low[i] = r.Intn(1 << (4 * r.Intn(8)))
		high[i] = maxHead - r.Intn(1<<(4*r.Intn(9)))
	}
	return [][]int{make([]int, nodes), slices.Repeat([]int{maxHead}, nodes), binaryHeights[:nodes], one, low, high}
}

// someHills returns hills of all kinds: each tree with several sources and demands, with the
// limits of heads, heights and needs, and with others near the pressures that arise.
func someHills() []hill {
	r := rand.New(rand.NewSource(9))
	list := []hill{riverHill()}
	for _, n := range someTrees() {
		for _, demands := range someDemands(r, n.Nodes) {
			for _, heights := range someHeights(r, n.Nodes) {
				h := hill{n: n, source: 1 + r.Intn(n.Nodes), demands: demands, heights: heights}
				h.head = []int{0, 1, 5000, r.Intn(1 << (4 * r.Intn(9))), maxHead - 1, maxHead}[r.Intn(6)]
				pressure := wantedPressures(h)[r.Intn(n.Nodes)] + r.Intn(3) - 1
				h.need = []int{0, 1, maxHead, maxHead - 1, r.Intn(1 << (4 * r.Intn(9))), min(max(pressure, 0), maxHead), min(max(pressure, 0), maxHead)}[r.Intn(7)]
				list = append(list, h)
			}
		}
	}
	return list
}

func TestTheLimitOfHeads(t *testing.T) {
	if impl.MaxHead != maxHead {
		t.Error("MaxHead is", impl.MaxHead)
	}
}

func TestKnownLosses(t *testing.T) {
	for _, k := range []struct {
		n     impl.Network
		flows []int
		want  []int
	}{
		{river(), []int{37, -10, 20}, []int{1369, -200, 400}}, {river(), []int{0, 0, 0}, []int{0, 0, 0}}, {river(), []int{1, 1, -1}, []int{1, 2, -1}},
		{river(), []int{-37, 10, -20}, []int{-1369, 200, -400}}, {river(), []int{8000, 8000, 7999}, []int{64000000, 128000000, 63984001}},
		{river(), []int{-8000, -8000, -7999}, []int{-64000000, -128000000, -63984001}},
		{network(2, [4]int{99, 2, 1, 9}), []int{8000}, []int{576000000}}, {network(2, [4]int{99, 2, 1, 9}), []int{-8000}, []int{-576000000}},
		{network(3, [4]int{5, 3, 2, 7}), []int{-3}, []int{-63}}, {network(2, [4]int{1, 1, 2, 3}, [4]int{2, 1, 2, 4}, [4]int{3, 2, 1, 4}), []int{5, -5, 5}, []int{75, -100, 100}},
		{fullNetwork(), []int{0, 1, -2, 3, -4, 5, -6, 7, -8, 9}, []int{0, 9, -20, 9, -32, 75, -144, 294, -448, 648}},
	} {
		for i, p := range k.n.Pipes {
			if got, ok := impl.LossOf(k.n, k.flows, p.Id); !ok || got != k.want[i] {
				t.Errorf("LossOf(%v, %v, %d) = %d, %v, want %d", k.n, k.flows, p.Id, got, ok, k.want[i])
			}
		}
	}
}

func TestLossesFollowTheFlows(t *testing.T) {
	r := rand.New(rand.NewSource(93))
	with, against, still := 0, 0, 0
	for _, n := range someNetworks() {
		flows := drawnFlows(r, n)
		for i, p := range n.Pipes {
			got, ok := impl.LossOf(n, flows, p.Id)
			if !ok || got != wantedLoss(p, flows[i]) {
				t.Fatalf("LossOf(%v, %v, %d) = %d, %v", n, flows, p.Id, got, ok)
			}
			turned, other, _ := impl.ReversedPipe(n, flows, p.Id)
			if back, ok := impl.LossOf(turned, other, p.Id); !ok || back != -got {
				t.Fatalf("LossOf(%v, %v, %d) = %d, %v, but %d before the pipe is reversed", turned, other, p.Id, back, ok, got)
			}
			switch {
			case got > 0:
				with++
			case got < 0:
				against++
			default:
				still++
			}
		}
	}
	if min(with, against, still) < 500 {
		t.Error("too few of some kind:", with, against, still)
	}
}

func TestKnownHeadsOfTrees(t *testing.T) {
	full := slices.Repeat([]int{1000}, 8)
	for _, k := range []struct {
		n       impl.Network
		source  int
		demands []int
		head    int
		want    []int
	}{
		{river(), 1, []int{5, 7, 10, 20}, 5000, []int{5000, 3631, 3431, 3231}}, {river(), 1, []int{5, 7, 10, 20}, 0, []int{0, -1369, -1569, -1769}},
		{river(), 1, []int{5, 7, 10, 20}, maxHead, []int{maxHead, maxHead - 1369, maxHead - 1569, maxHead - 1769}},
		{river(), 2, []int{5, 7, 10, 20}, 225, []int{200, 225, 25, -175}}, {river(), 3, []int{5, 7, 10, 20}, 2048, []int{-25, 0, 2048, -400}},
		{river(), 4, []int{5, 7, 10, 20}, 1000, []int{491, 516, 316, 1000}}, {river(), 1, []int{0, 0, 0, 0}, 7, []int{7, 7, 7, 7}},
		{river(), 1, []int{1000, 0, 0, 0}, 7, []int{7, 7, 7, 7}}, {river(), 1, []int{0, 0, 1000, 0}, 3000000, []int{3000000, 2000000, 0, 2000000}},
		{network(1), 1, []int{0}, 0, []int{0}}, {network(1), 1, []int{1000}, 5, []int{5}}, {network(1), 1, []int{1000}, maxHead, []int{maxHead}},
		{network(2, [4]int{99, 2, 1, 9}), 1, []int{3, 4}, 144, []int{144, 0}}, {network(2, [4]int{99, 2, 1, 9}), 2, []int{3, 4}, 80, []int{-1, 80}},
		{network(2, [4]int{99, 2, 1, 9}), 2, []int{1000, 1000}, 0, []int{-9000000, 0}},
		{rowTree(), 1, full, maxHead, []int{maxHead, maxHead - 49000000, maxHead - 85000000, maxHead - 110000000, maxHead - 126000000, maxHead - 135000000, maxHead - 139000000, maxHead - 140000000}},
		{rowTree(), 8, full, 0, []int{-140000000, -139000000, -135000000, -126000000, -110000000, -85000000, -49000000, 0}},
		{starTree(), 4, binary, 20000, []int{19999, 19996, 19984, 20000, 19744, 18976, 15904, 3616}},
		{starTree(), 3, binary, 63001, []int{-1, -4, 63001, 0, -256, -1024, -4096, -16384}},
		{deepTree(), 3, binary, 50000, []int{33356, 49316, 50000, 6416, 49352, 592, 6736, 33359}},
	} {
		if got, ok := impl.HeadsOf(k.n, k.source, k.demands, k.head); !ok || !slices.Equal(got, k.want) {
			t.Errorf("HeadsOf(%v, %d, %v, %d) = %v, %v, want %v", k.n, k.source, k.demands, k.head, got, ok, k.want)
		}
	}
}

func TestHeadFallsByTheLossOfEachPipe(t *testing.T) {
	r := rand.New(rand.NewSource(94))
	falls, rises, level, below := 0, 0, 0, 0
	for _, n := range someTrees() {
		for source := 1; source <= n.Nodes; source++ {
			for _, demands := range someDemands(r, n.Nodes) {
				h := hill{n: n, source: source, demands: demands, head: []int{0, maxHead, 1, maxHead - 1, r.Intn(1 << 20), r.Intn(maxHead)}[r.Intn(6)]}
				heads, ok := impl.HeadsOf(n, source, demands, h.head)
				if want := wantedHeads(h); !ok || !slices.Equal(heads, want) || heads[source-1] != h.head {
					t.Fatalf("HeadsOf(%v, %d, %v, %d) = %v, %v, want %v", n, source, demands, h.head, heads, ok, want)
				}
				flows, _ := impl.TreeFlows(n, source, demands)
				for _, p := range n.Pipes {
					loss, ok := impl.LossOf(n, flows, p.Id)
					if !ok || heads[p.From-1]-heads[p.To-1] != loss {
						t.Fatalf("HeadsOf(%v, %d, %v, %d) = %v, but pipe %d has the loss %d", n, source, demands, h.head, heads, p.Id, loss)
					}
					switch {
					case loss > 0:
						falls++
					case loss < 0:
						rises++
					default:
						level++
					}
				}
				if slices.Min(heads) < 0 {
					below++
				}
			}
		}
	}
	if min(falls, rises, level, below) < 1000 {
		t.Error("too few of some kind:", falls, rises, level, below)
	}
}

func TestHeadsDoNotDependOnTheDirectionOfPipes(t *testing.T) {
	for i, h := range someHills() {
		if i%7 != 0 {
			continue
		}
		want, _ := impl.HeadsOf(h.n, h.source, h.demands, h.head)
		for _, p := range h.n.Pipes {
			turned, _, _ := impl.ReversedPipe(h.n, make([]int, len(h.n.Pipes)), p.Id)
			if got, ok := impl.HeadsOf(turned, h.source, h.demands, h.head); !ok || !slices.Equal(got, want) {
				t.Fatalf("HeadsOf(%v, %d, %v, %d) = %v, %v, want %v", turned, h.source, h.demands, h.head, got, ok, want)
			}
		}
	}
}

func TestKnownPressures(t *testing.T) {
	limits := []int{0, maxHead, 0, maxHead}
	for _, k := range []struct {
		n       impl.Network
		source  int
		demands []int
		head    int
		heights []int
		want    []int
	}{
		{river(), 1, []int{5, 7, 10, 20}, 5000, []int{0, 31, 431, 4000}, []int{5000, 3600, 3000, -769}},
		{river(), 1, []int{5, 7, 10, 20}, 5000, []int{0, 0, 0, 0}, []int{5000, 3631, 3431, 3231}},
		{river(), 1, []int{5, 7, 10, 20}, 0, limits, []int{0, -1369 - maxHead, -1569, -1769 - maxHead}},
		{river(), 1, []int{5, 7, 10, 20}, maxHead, limits, []int{maxHead, -1369, maxHead - 1569, -1769}},
		{river(), 4, []int{0, 0, 0, 1000}, 3, []int{4, 3, 2, 1}, []int{-1, 0, 1, 2}}, {network(1), 1, []int{1000}, maxHead, []int{maxHead}, []int{0}},
		{network(1), 1, []int{0}, 0, []int{maxHead}, []int{-maxHead}}, {network(1), 1, []int{9}, 7, []int{3}, []int{4}},
		{network(2, [4]int{99, 2, 1, 9}), 1, []int{3, 4}, 144, []int{2, 1}, []int{142, -1}},
		{starTree(), 4, binary, 20000, binaryHeights, []int{19899, 19796, 19584, 19200, 18144, 15776, 9504, -9184}},
	} {
		if got, ok := impl.PressuresOf(k.n, k.source, k.demands, k.head, k.heights); !ok || !slices.Equal(got, k.want) {
			t.Errorf("PressuresOf(%v, %d, %v, %d, %v) = %v, %v, want %v", k.n, k.source, k.demands, k.head, k.heights, got, ok, k.want)
		}
	}
}

func TestPressuresAreHeadsMinusHeights(t *testing.T) {
	positive, zero, negative := 0, 0, 0
	for _, h := range someHills() {
		got, ok := impl.PressuresOf(h.n, h.source, h.demands, h.head, h.heights)
		if want := wantedPressures(h); !ok || !slices.Equal(got, want) {
			t.Fatalf("PressuresOf(%v) = %v, %v, want %v", h, got, ok, want)
		}
		for _, pressure := range got {
			switch {
			case pressure > 0:
				positive++
			case pressure < 0:
				negative++
			default:
				zero++
			}
		}
	}
	if min(positive, zero, negative) < 1000 {
		t.Error("too few of some kind:", positive, zero, negative)
	}
}

func TestKnownWeakNodes(t *testing.T) {
	flat := []int{0, 0, 0, 0}
	with := func(head int, heights []int, need int) hill {
		h := riverHill()
		h.head, h.heights, h.need = head, heights, need
		return h
	}
	for _, k := range []struct {
		h    hill
		want []int
	}{
		{riverHill(), []int{3, 4}}, {with(5000, riverHill().heights, 3600), []int{3, 4}}, {with(5000, riverHill().heights, 3601), []int{2, 3, 4}},
		{with(5000, riverHill().heights, 3000), []int{4}}, {with(5000, riverHill().heights, 3001), []int{3, 4}}, {with(5000, riverHill().heights, 0), []int{4}},
		{with(5000, riverHill().heights, 5000), []int{2, 3, 4}}, {with(5000, riverHill().heights, 5001), []int{1, 2, 3, 4}},
		{with(5000, riverHill().heights, maxHead), []int{1, 2, 3, 4}}, {with(5000, flat, 3231), nil}, {with(5000, flat, 3232), []int{4}},
		{with(0, flat, 0), []int{2, 3, 4}}, {with(1769, flat, 0), nil}, {with(1768, flat, 0), []int{4}}, {with(1768, flat, 199), []int{4}}, {with(1768, flat, 200), []int{3, 4}},
		{with(maxHead, flat, maxHead), []int{2, 3, 4}}, {with(maxHead, flat, maxHead-1769), nil}, {with(maxHead, []int{1, 0, 0, 0}, maxHead), []int{1, 2, 3, 4}},
		{with(5000, []int{5000, 0, 0, 0}, 1), []int{1}}, {with(5000, []int{0, 3632, 0, 3232}, 0), []int{2, 4}}, {with(5000, []int{0, 3631, 3431, 3231}, 0), nil},
		{hill{n: network(1), source: 1, demands: []int{1000}, head: maxHead, heights: []int{0}, need: maxHead}, nil},
		{hill{n: network(1), source: 1, demands: []int{1000}, head: maxHead - 1, heights: []int{0}, need: maxHead}, []int{1}},
		{hill{n: network(1), source: 1, demands: []int{0}, head: 0, heights: []int{0}, need: 0}, nil},
		{hill{n: network(1), source: 1, demands: []int{0}, head: 0, heights: []int{1}, need: 0}, []int{1}},
		{hill{n: starTree(), source: 4, demands: binary, head: 20000, heights: binaryHeights, need: 18144}, []int{6, 7, 8}},
		{hill{n: starTree(), source: 4, demands: make([]int, 8), head: 7, heights: []int{1, 8, 2, 8, 3, 8, 0, 0}, need: 5}, []int{2, 4, 5, 6}},
	} {
		if got, ok := impl.WeakNodes(k.h.n, k.h.source, k.h.demands, k.h.head, k.h.heights, k.h.need); !ok || !slices.Equal(got, k.want) {
			t.Errorf("WeakNodes(%v) = %v, %v, want %v", k.h, got, ok, k.want)
		}
	}
}

func TestWeakNodesLackPressure(t *testing.T) {
	none, some, all, just := 0, 0, 0, 0
	for _, h := range someHills() {
		got, ok := impl.WeakNodes(h.n, h.source, h.demands, h.head, h.heights, h.need)
		if want := wantedWeak(h); !ok || !slices.Equal(got, want) {
			t.Fatalf("WeakNodes(%v) = %v, %v, want %v", h, got, ok, want)
		}
		if slices.Contains(wantedPressures(h), h.need) {
			just++
		}
		switch len(got) {
		case 0:
			none++
		case h.n.Nodes:
			all++
		default:
			some++
		}
	}
	if min(none, some, all, just) < 1000 {
		t.Error("too few of some kind:", none, some, all, just)
	}
}

func TestKnownHeadsNeeded(t *testing.T) {
	flat := []int{0, 0, 0, 0}
	for _, k := range []struct {
		n             impl.Network
		source        int
		demands       []int
		heights       []int
		need, highest int
		ok            bool
	}{
		{river(), 1, []int{5, 7, 10, 20}, []int{0, 31, 431, 4000}, 10, 5779, true}, {river(), 1, []int{5, 7, 10, 20}, []int{0, 31, 431, 4000}, 0, 5769, true},
		{river(), 1, []int{5, 7, 10, 20}, []int{9000, 31, 431, 4000}, 10, 9010, true}, {river(), 1, []int{5, 7, 10, 20}, []int{0, 4401, 0, 4000}, 10, 5780, true},
		{river(), 1, []int{5, 7, 10, 20}, []int{0, 0, 4201, 4000}, 10, 5780, true}, {river(), 1, []int{5, 7, 10, 20}, flat, 0, 1769, true},
		{river(), 4, []int{5, 7, 10, 20}, flat, 0, 684, true}, {river(), 2, []int{5, 7, 10, 20}, flat, 0, 400, true}, {river(), 1, flat, flat, 0, 0, true}, {river(), 1, []int{1000, 0, 0, 0}, flat, 0, 0, true},
		{river(), 1, flat, flat, 1, 1, true}, {river(), 1, flat, []int{0, 0, 1, 0}, 0, 1, true}, {river(), 1, flat, flat, maxHead, maxHead, true}, {river(), 1, flat, []int{0, 0, 0, 1}, maxHead, 0, false},
		{river(), 1, flat, []int{1, 0, 0, 0}, maxHead, 0, false}, {river(), 1, flat, []int{0, maxHead, 0, 0}, 0, maxHead, true}, {river(), 1, flat, []int{0, maxHead, 0, 0}, 1, 0, false},
		{river(), 1, []int{0, 1, 0, 0}, flat, maxHead, 0, false}, {river(), 1, []int{0, 1, 0, 0}, flat, maxHead - 1, maxHead, true},
		{river(), 1, []int{5, 7, 10, 20}, flat, maxHead - 1769, maxHead, true}, {river(), 1, []int{5, 7, 10, 20}, flat, maxHead - 1768, 0, false},
		{river(), 1, []int{5, 7, 10, 20}, []int{maxHead, maxHead, maxHead, maxHead}, maxHead, 0, false},
		{network(1), 1, []int{1000}, []int{0}, 0, 0, true}, {network(1), 1, []int{0}, []int{5}, 7, 12, true}, {network(1), 1, []int{0}, []int{maxHead}, 0, maxHead, true},
		{network(1), 1, []int{0}, []int{maxHead}, 1, 0, false}, {network(1), 1, []int{0}, []int{1}, maxHead - 1, maxHead, true}, {network(1), 1, []int{0}, []int{1}, maxHead, 0, false},
		{rowTree(), 1, slices.Repeat([]int{1000}, 8), make([]int, 8), 0, 140000000, true}, {starTree(), 4, binary, binaryHeights, 0, 29184, true},
	} {
		if got, ok := impl.HeadNeeded(k.n, k.source, k.demands, k.heights, k.need); ok != k.ok || got != k.highest {
			t.Errorf("HeadNeeded(%v, %d, %v, %v, %d) = %d, %v, want %d, %v", k.n, k.source, k.demands, k.heights, k.need, got, ok, k.highest, k.ok)
		}
	}
}

func TestHeadNeededIsTheSmallestOne(t *testing.T) {
	nothing, found, none := 0, 0, 0
	for _, h := range someHills() {
		got, ok := impl.HeadNeeded(h.n, h.source, h.demands, h.heights, h.need)
		if want, wanted := wantedNeeded(h); ok != wanted || got != want {
			t.Fatalf("HeadNeeded(%v) = %d, %v, want %d, %v", h, got, ok, want, wanted)
		}
		if !ok {
			none++
			if weak, _ := impl.WeakNodes(h.n, h.source, h.demands, maxHead, h.heights, h.need); len(weak) == 0 {
				t.Fatalf("HeadNeeded(%v) fails, but nothing is weak with MaxHead", h)
			}
			continue
		}
		if weak, known := impl.WeakNodes(h.n, h.source, h.demands, got, h.heights, h.need); !known || len(weak) > 0 {
			t.Fatalf("HeadNeeded(%v) = %d, but %v are weak", h, got, weak)
		}
		if got == 0 {
			nothing++
			continue
		}
		found++
		if weak, _ := impl.WeakNodes(h.n, h.source, h.demands, got-1, h.heights, h.need); len(weak) == 0 {
			t.Fatalf("HeadNeeded(%v) = %d, but nothing is weak with one less", h, got)
		}
	}
	if min(nothing, found, none) < 100 {
		t.Error("too few of some kind:", nothing, found, none)
	}
}

func TestHeadNeededMeetsTheLimits(t *testing.T) {
	for i, h := range someHills() {
		h.need = 0
		needed, ok := impl.HeadNeeded(h.n, h.source, h.demands, h.heights, 0)
		if !ok || i%3 != 0 {
			continue
		}
		h.need = maxHead - needed
		if got, ok := impl.HeadNeeded(h.n, h.source, h.demands, h.heights, h.need); !ok || got != maxHead {
			t.Fatalf("HeadNeeded(%v) = %d, %v, want MaxHead", h, got, ok)
		}
		if got, ok := impl.HeadNeeded(h.n, h.source, h.demands, h.heights, h.need+1); ok || got != 0 {
			t.Fatalf("HeadNeeded(%v) with one more need = %d, %v", h, got, ok)
		}
	}
}

func TestKnownLossesAlong(t *testing.T) {
	flows := []int{37, -10, 20}
	rings := []int{1, 10, 100, 1000, -2, 20, 3, -30}
	for _, k := range []struct {
		n        impl.Network
		flows    []int
		from, to int
		want     int
	}{
		{river(), flows, 1, 1, 0}, {river(), flows, 3, 3, 0}, {river(), flows, 1, 2, 1369}, {river(), flows, 2, 1, -1369}, {river(), flows, 3, 2, -200}, {river(), flows, 2, 3, 200},
		{river(), flows, 1, 3, 1569}, {river(), flows, 3, 1, -1569}, {river(), flows, 3, 4, 200}, {river(), flows, 4, 3, -200}, {river(), flows, 1, 4, 1769}, {river(), flows, 4, 1, -1769},
		{river(), []int{0, 0, 0}, 1, 4, 0}, {river(), []int{8000, -8000, 8000}, 1, 3, 192000000}, {river(), []int{-8000, 8000, -8000}, 1, 3, -192000000}, {river(), []int{5, 3, 2}, 1, 3, 7},
		// The way from 1 to 3 is 1, 4, but that back is 3, 2.
		{twoRings(), rings, 1, 3, 1 - 4000000}, {twoRings(), rings, 3, 1, 30000 - 200}, {twoRings(), rings, 2, 4, -1 + 200}, {twoRings(), rings, 4, 2, -200 + 1},
		// Of the two pipes between 3 and 5, the one with the smaller Id is passed both times.
		{twoRings(), rings, 3, 5, -20}, {twoRings(), rings, 5, 3, 20}, {twoRings(), rings, 5, 6, 63}, {twoRings(), rings, 6, 3, -7200}, {twoRings(), rings, 3, 6, 7200},
		{twoRings(), rings, 1, 6, 1 - 4000000 + 7200}, {twoRings(), rings, 6, 1, -7200 + 30000 - 200}, {twoRings(), rings, 7, 7, 0},
		{network(2, [4]int{1, 2, 1, 3}, [4]int{2, 1, 2, 5}), []int{7, 9}, 1, 2, -147}, {network(2, [4]int{1, 2, 1, 3}, [4]int{2, 1, 2, 5}), []int{7, 9}, 2, 1, 147},
		{network(1), nil, 1, 1, 0}, {network(8), nil, 8, 8, 0}, {network(4, [4]int{5, 4, 2, 9}), []int{-8000}, 2, 4, 576000000}, {network(4, [4]int{5, 4, 2, 9}), []int{-8000}, 3, 3, 0},
		{rowTree(), []int{8000, 8000, -8000, 8000, -8000, 8000, -8000}, 1, 8, 448000000}, {rowTree(), []int{8000, 8000, -8000, 8000, -8000, 8000, -8000}, 8, 1, -448000000},
	} {
		if got, ok := impl.LossAlong(k.n, k.flows, k.from, k.to); !ok || got != k.want {
			t.Errorf("LossAlong(%v, %v, %d, %d) = %d, %v, want %d", k.n, k.flows, k.from, k.to, got, ok, k.want)
		}
	}
	for node := 1; node <= 6; node++ {
		checkNoLossAlong(t, twoRings(), rings, node, 7)
		checkNoLossAlong(t, twoRings(), rings, 7, node)
	}
}

func TestLossesAddUpAlongTheShortestWay(t *testing.T) {
	r := rand.New(rand.NewSource(95))
	apart, same, along := 0, 0, map[int]int{}
	for _, n := range someNetworks() {
		flows := drawnFlows(r, n)
		for from := 1; from <= n.Nodes; from++ {
			ways := waysFrom(n, from)
			for to := 1; to <= n.Nodes; to++ {
				if len(ways[to]) == 0 {
					apart++
					checkNoLossAlong(t, n, flows, from, to)
					continue
				}
				way := bestWay(ways[to])
				got, ok := impl.LossAlong(n, flows, from, to)
				if want := wantedAlong(n, flows, from, way); !ok || got != want {
					t.Fatalf("LossAlong(%v, %v, %d, %d) = %d, %v, want %d", n, flows, from, to, got, ok, want)
				}
				if from == to {
					same++
				}
				along[len(way)]++
			}
		}
	}
	if min(apart, same, along[1], along[2], along[3], along[4]) < 500 {
		t.Error("too few of some kind:", apart, same, along)
	}
}

func TestLossesAlongATreeTellItsHeads(t *testing.T) {
	for i, h := range someHills() {
		if i%11 != 0 {
			continue
		}
		heads, _ := impl.HeadsOf(h.n, h.source, h.demands, h.head)
		flows, _ := impl.TreeFlows(h.n, h.source, h.demands)
		for from := 1; from <= h.n.Nodes; from++ {
			for to := 1; to <= h.n.Nodes; to++ {
				if loss, ok := impl.LossAlong(h.n, flows, from, to); !ok || loss != heads[from-1]-heads[to-1] {
					t.Fatalf("LossAlong(%v, %v, %d, %d) = %d, %v, but the heads are %v", h.n, flows, from, to, loss, ok, heads)
				}
			}
		}
	}
}

func TestKnownEnergies(t *testing.T) {
	for _, k := range []struct {
		n     impl.Network
		flows []int
		want  int
	}{
		{river(), []int{37, -10, 20}, 50653 + 2000 + 8000}, {river(), []int{-37, 10, -20}, 50653 + 2000 + 8000}, {river(), []int{0, 0, 0}, 0}, {river(), []int{0, 0, -1}, 1}, {river(), []int{0, -1, 0}, 2},
		{river(), []int{2000, 0, 0}, 8000000000}, {river(), []int{0, -2000, 0}, 16000000000}, {river(), []int{2000, 2000, -2000}, 32000000000}, {river(), []int{1999, -1999, 0}, 3 * 7988005999},
		{network(1), nil, 0}, {network(8), nil, 0}, {network(2, [4]int{99, 2, 1, 9}), []int{-2000}, 72000000000}, {network(3, [4]int{5, 3, 2, 7}), []int{-3}, 189},
		{fullNetwork(), []int{0, 1, -2, 3, -4, 5, -6, 7, -8, 9}, 9 + 40 + 27 + 128 + 375 + 864 + 2058 + 3584 + 5832}, {fullNetwork(), slices.Repeat([]int{-2000}, 10), 46 * 8000000000},
	} {
		if got, ok := impl.EnergyOf(k.n, k.flows); !ok || got != k.want {
			t.Errorf("EnergyOf(%v, %v) = %d, %v, want %d", k.n, k.flows, got, ok, k.want)
		}
	}
}

func TestEnergiesAddUpOverAllPipes(t *testing.T) {
	r := rand.New(rand.NewSource(96))
	none, some := 0, 0
	for _, n := range someNetworks() {
		flows, want := make([]int, len(n.Pipes)), 0
		for i, p := range n.Pipes {
			flows[i] = []int{-2000, -1999, 0, 1, -1, 1999, 2000, r.Intn(4001) - 2000, r.Intn(4001) - 2000}[r.Intn(9)]
			amount := int(math.Abs(float64(flows[i])))
			want += p.Size * amount * amount * amount
		}
		if got, ok := impl.EnergyOf(n, flows); !ok || got != want {
			t.Fatalf("EnergyOf(%v, %v) = %d, %v, want %d", n, flows, got, ok, want)
		}
		if len(flows) == 0 {
			none++
		} else {
			some++
		}
		for i := range flows {
			for _, flow := range append([]int{-2001, 2001, -8000, 8000, 3000, -3000}, otherFlowValues...) {
				other := slices.Clone(flows)
				other[i] = flow
				checkNoEnergy(t, n, other)
			}
		}
	}
	if none < 10 || some < 1000 {
		t.Error("too few of some kind:", none, some)
	}
}

func TestKnownSteepestPipes(t *testing.T) {
	for _, k := range []struct {
		n            impl.Network
		flows        []int
		id, greatest int
	}{
		{river(), []int{37, -10, 20}, 4, 1369}, {river(), []int{3, -10, 7}, 7, 200}, {river(), []int{3, -10, 15}, 9, 225}, {river(), []int{12, 10, 5}, 7, 200}, {river(), []int{-15, 10, 5}, 4, 225},
		{river(), []int{5, 3, 5}, 4, 25}, {river(), []int{-5, 3, 5}, 4, 25}, {river(), []int{5, -3, -5}, 4, 25}, {river(), []int{4, 3, 5}, 9, 25}, {river(), []int{4, 4, 5}, 7, 32}, {river(), []int{4, -4, 5}, 7, 32},
		{river(), []int{0, 0, 0}, 4, 0}, {river(), []int{0, 0, -1}, 9, 1}, {river(), []int{0, 1, 0}, 7, 2}, {river(), []int{-1, 0, 0}, 4, 1}, {river(), []int{-1, -1, -1}, 7, 2}, {river(), []int{-3, -2, -1}, 4, 9},
		{river(), []int{-1, -1, -3}, 9, 9}, {river(), []int{-3, -2, -3}, 4, 9}, {river(), []int{8000, 5656, -8000}, 4, 64000000}, {river(), []int{8000, 5657, -8000}, 7, 64003298}, {river(), []int{8000, -8000, 8000}, 7, 128000000},
		{network(2, [4]int{99, 2, 1, 9}), []int{0}, 99, 0}, {network(2, [4]int{99, 2, 1, 9}), []int{-8000}, 99, 576000000}, {network(5, [4]int{1, 2, 4, 9}), []int{8000}, 1, 576000000},
		{network(2, [4]int{1, 1, 2, 1}, [4]int{2, 1, 2, 4}, [4]int{3, 2, 1, 9}), []int{6, -3, 2}, 1, 36}, {network(2, [4]int{1, 1, 2, 1}, [4]int{2, 1, 2, 4}, [4]int{3, 2, 1, 9}), []int{5, -3, 2}, 2, 36},
		{network(2, [4]int{1, 1, 2, 1}, [4]int{2, 1, 2, 4}, [4]int{3, 2, 1, 9}), []int{5, -2, -2}, 3, 36},
		{fullNetwork(), []int{0, 1, 2, 3, 4, -9, 6, 7, 8, 9}, 99, 648}, {fullNetwork(), []int{0, -9, 2, 3, 4, -9, 6, 7, 8, 9}, 2, 729}, {fullNetwork(), slices.Repeat([]int{-1}, 10), 2, 9},
	} {
		if id, greatest, ok := impl.SteepestPipe(k.n, k.flows); !ok || id != k.id || greatest != k.greatest {
			t.Errorf("SteepestPipe(%v, %v) = %d, %d, %v, want %d, %d", k.n, k.flows, id, greatest, ok, k.id, k.greatest)
		}
	}
}

func TestNoPipeIsSteeperThanTheSteepest(t *testing.T) {
	r := rand.New(rand.NewSource(97))
	ties, none, negative := 0, 0, 0
	for _, n := range someNetworks() {
		few, equal := make([]int, len(n.Pipes)), impl.Network{Nodes: n.Nodes, Pipes: slices.Clone(n.Pipes)}
		for i := range few {
			few[i] = r.Intn(5) - 2
			equal.Pipes[i].Size = []int{1, 4, 9}[r.Intn(3)]
		}
		for _, n := range []impl.Network{n, equal} {
			for _, flows := range [][]int{few, drawnFlows(r, n), make([]int, len(n.Pipes)), slices.Repeat([]int{-8000}, len(n.Pipes))} {
				id, greatest, ok := impl.SteepestPipe(n, flows)
				if len(n.Pipes) == 0 {
					none++
					if ok || id != 0 || greatest != 0 {
						t.Fatalf("SteepestPipe(%v, %v) = %d, %d, %v", n, flows, id, greatest, ok)
					}
					continue
				}
				steepest := pipeIndex(n, id)
				if !ok || steepest < 0 {
					t.Fatalf("SteepestPipe(%v, %v) = %d, %d, %v", n, flows, id, greatest, ok)
				}
				for i, p := range n.Pipes {
					loss := p.Size * flows[i] * flows[i]
					if loss > greatest || loss == greatest && i < steepest || i == steepest && loss != greatest {
						t.Fatalf("SteepestPipe(%v, %v) = %d, %d, but pipe %d loses %d", n, flows, id, greatest, p.Id, loss)
					}
					if loss == greatest && i > steepest {
						ties++
					}
				}
				if flows[steepest] < 0 {
					negative++
				}
			}
		}
	}
	if min(ties, negative) < 1000 || none < 10 {
		t.Error("too few of some kind:", ties, none, negative)
	}
}

// checkNoLossAlong checks that LossAlong returns zero values.
func checkNoLossAlong(t *testing.T, n impl.Network, flows []int, from int, to int) {
	t.Helper()
	if loss, ok := impl.LossAlong(n, flows, from, to); ok || loss != 0 {
		t.Errorf("LossAlong(%v, %v, %d, %d) = %d, %v", n, flows, from, to, loss, ok)
	}
}

// checkNoLossOf checks that LossOf returns zero values.
func checkNoLossOf(t *testing.T, n impl.Network, flows []int, pipe int) {
	t.Helper()
	if loss, ok := impl.LossOf(n, flows, pipe); ok || loss != 0 {
		t.Errorf("LossOf(%v, %v, %d) = %d, %v", n, flows, pipe, loss, ok)
	}
}

// checkNoEnergy checks that EnergyOf returns zero values.
func checkNoEnergy(t *testing.T, n impl.Network, flows []int) {
	t.Helper()
	if energy, ok := impl.EnergyOf(n, flows); ok || energy != 0 {
		t.Errorf("EnergyOf(%v, %v) = %d, %v", n, flows, energy, ok)
	}
}

// checkNoLosses checks that all functions with flows return zero values.
func checkNoLosses(t *testing.T, n impl.Network, flows []int) {
	t.Helper()
	checkNoEnergy(t, n, flows)
	if id, greatest, ok := impl.SteepestPipe(n, flows); ok || id != 0 || greatest != 0 {
		t.Errorf("SteepestPipe(%v, %v) = %d, %d, %v", n, flows, id, greatest, ok)
	}
	for _, p := range append(n.Pipes[:min(len(n.Pipes), 12):min(len(n.Pipes), 12)], impl.Pipe{Id: 50, From: 1, To: 1}) {
		checkNoLossOf(t, n, flows, p.Id)
		checkNoLossAlong(t, n, flows, p.From, p.To)
		checkNoLossAlong(t, n, flows, p.To, p.To)
	}
}

// checkNoHeads checks that HeadsOf returns zero values.
func checkNoHeads(t *testing.T, h hill) {
	t.Helper()
	if heads, ok := impl.HeadsOf(h.n, h.source, h.demands, h.head); ok || len(heads) != 0 {
		t.Errorf("HeadsOf(%v, %d, %v, %d) = %v, %v", h.n, h.source, h.demands, h.head, heads, ok)
	}
}

// checkNoPressures checks that PressuresOf returns zero values.
func checkNoPressures(t *testing.T, h hill) {
	t.Helper()
	if pressures, ok := impl.PressuresOf(h.n, h.source, h.demands, h.head, h.heights); ok || len(pressures) != 0 {
		t.Errorf("PressuresOf(%v) = %v, %v", h, pressures, ok)
	}
}

// checkNoWeakNodes checks that WeakNodes returns zero values.
func checkNoWeakNodes(t *testing.T, h hill) {
	t.Helper()
	if weak, ok := impl.WeakNodes(h.n, h.source, h.demands, h.head, h.heights, h.need); ok || len(weak) != 0 {
		t.Errorf("WeakNodes(%v) = %v, %v", h, weak, ok)
	}
}

// checkNoHeadNeeded checks that HeadNeeded returns zero values.
func checkNoHeadNeeded(t *testing.T, h hill) {
	t.Helper()
	if needed, ok := impl.HeadNeeded(h.n, h.source, h.demands, h.heights, h.need); ok || needed != 0 {
		t.Errorf("HeadNeeded(%v) = %v, %v", h, needed, ok)
	}
}

// checkNothingOfTheHill checks that all functions with heads return zero values.
func checkNothingOfTheHill(t *testing.T, h hill) {
	t.Helper()
	checkNoHeads(t, h)
	checkNoPressures(t, h)
	checkNoWeakNodes(t, h)
	checkNoHeadNeeded(t, h)
}

// knownHills returns hills of the kinds for which invalid arguments are tried.
func knownHills() []hill {
	list := []hill{riverHill()}
	for _, n := range []impl.Network{network(1), network(2, [4]int{99, 2, 1, 9}), deepTree(), starTree(), rowTree()} {
		for _, source := range []int{1, n.Nodes} {
			list = append(list, hill{n: n, source: source, demands: binary[:n.Nodes], head: 70000, heights: binaryHeights[:n.Nodes], need: 3000})
			list = append(list, hill{n: n, source: source, demands: make([]int, n.Nodes), heights: make([]int, n.Nodes)})
		}
	}
	return list
}

// hasHeads reports whether all functions with heads succeed, with results that are no zero values
// where they can be.
func hasHeads(h hill) bool {
	heads, ok1 := impl.HeadsOf(h.n, h.source, h.demands, h.head)
	pressures, ok2 := impl.PressuresOf(h.n, h.source, h.demands, h.head, h.heights)
	_, ok3 := impl.WeakNodes(h.n, h.source, h.demands, h.head, h.heights, h.need)
	_, ok4 := impl.HeadNeeded(h.n, h.source, h.demands, h.heights, h.need)
	return ok1 && ok2 && ok3 && ok4 && len(heads) == h.n.Nodes && len(pressures) == h.n.Nodes
}

func TestKnownHillsHaveHeads(t *testing.T) {
	for _, h := range knownHills() {
		if !hasHeads(h) {
			t.Error("no heads for", h)
		}
	}
}

func TestInvalidNetworksYieldNoHeadsAndLosses(t *testing.T) {
	all := invalidTrees()
	maps.Copy(all, invalidNetworks())
	for name, n := range all {
		for _, flow := range []int{0, 1, -2000} {
			checkNoLosses(t, n, slices.Repeat([]int{flow}, len(n.Pipes)))
		}
		checkNoLosses(t, n, nil)
		for _, source := range []int{1, 2, 3, 9, 0, -1} {
			for _, length := range []int{0, 1, 2, 3, 8, 9, 12} {
				checkNothingOfTheHill(t, hill{n: n, source: source, demands: make([]int, length), head: 5, heights: make([]int, length), need: 2})
			}
		}
		if t.Failed() {
			t.Fatal("with an invalid network:", name)
		}
	}
}

func TestNetworksThatAreNoTreesHaveNoHeads(t *testing.T) {
	r := rand.New(rand.NewSource(98))
	apart, loops := 0, 0
	for _, n := range append(allNetworks(), someNetworks()...) {
		if isTree(n) {
			continue
		}
		for _, demands := range [][]int{make([]int, n.Nodes), binary[:n.Nodes]} {
			h := hill{n: n, source: 1 + r.Intn(n.Nodes), demands: demands, head: r.Intn(maxHead), heights: someHeights(r, n.Nodes)[r.Intn(6)], need: r.Intn(5)}
			checkNothingOfTheHill(t, h)
			h.head, h.heights, h.need = 0, make([]int, n.Nodes), 0
			checkNothingOfTheHill(t, h)
		}
		if len(n.Pipes) < n.Nodes {
			apart++
		} else {
			loops++
		}
	}
	if min(apart, loops) < 100 {
		t.Error("too few of some kind:", apart, loops)
	}
}

func TestInvalidDemandsYieldNoHeads(t *testing.T) {
	for _, h := range knownHills() {
		for _, demands := range invalidDemands(h.n) {
			other := h
			other.demands = demands
			checkNothingOfTheHill(t, other)
		}
	}
}

func TestInvalidFlowsYieldNoLosses(t *testing.T) {
	for _, n := range append(checkedNetworks(), twoRings()) {
		for _, flows := range invalidFlows(n) {
			checkNoLosses(t, n, flows)
			for node := 1; node <= n.Nodes; node++ {
				checkNoLossAlong(t, n, flows, node, node)
				checkNoLossAlong(t, n, flows, node, 1)
			}
		}
	}
}

func TestOtherNodesYieldNoHeadsAndLosses(t *testing.T) {
	for _, h := range knownHills() {
		for _, node := range []int{0, -1, h.n.Nodes + 1, 9, 100, 1 << 32, math.MaxInt, math.MinInt} {
			other := h
			other.source = node
			checkNothingOfTheHill(t, other)
		}
	}
	for _, n := range append(checkedNetworks(), twoRings()) {
		flows := make([]int, len(n.Pipes))
		for _, node := range []int{0, -1, n.Nodes + 1, 9, 100, 1 << 32, math.MaxInt, math.MinInt} {
			checkNoLossAlong(t, n, flows, node, node)
			for other := 1; other <= n.Nodes; other++ {
				checkNoLossAlong(t, n, flows, node, other)
				checkNoLossAlong(t, n, flows, other, node)
			}
		}
		for _, id := range []int{0, -1, -4, 8, 14, 97, 100, 1 << 32, math.MaxInt, math.MinInt} {
			if pipeIndex(n, id) < 0 {
				checkNoLossOf(t, n, flows, id)
				checkNoLossOf(t, n, slices.Repeat([]int{8000}, len(n.Pipes)), id)
			}
		}
	}
}

func TestOtherHeadsAndNeedsYieldZeroValues(t *testing.T) {
	for _, h := range knownHills() {
		for _, number := range otherHeads {
			other := h
			other.head = number
			checkNoHeads(t, other)
			checkNoPressures(t, other)
			checkNoWeakNodes(t, other)
			other = h
			other.need = number
			checkNoWeakNodes(t, other)
			checkNoHeadNeeded(t, other)
		}
		for _, number := range []int{0, 1, maxHead - 1, maxHead} {
			other := h
			other.head = number
			if !hasHeads(other) {
				t.Error("no heads for", other)
			}
			other.heights, other.need = make([]int, h.n.Nodes), number
			if _, ok := impl.WeakNodes(other.n, other.source, other.demands, 0, other.heights, number); !ok {
				t.Error("no weak nodes for", other)
			}
			other.demands = make([]int, h.n.Nodes)
			if !hasHeads(other) {
				t.Error("no heads for", other)
			}
		}
	}
}

func TestOtherHeightsYieldZeroValues(t *testing.T) {
	for _, h := range knownHills() {
		good := h.heights
		lists := [][]int{nil, good[1:], good[:len(good)-1], append(slices.Clone(good), 0), append(slices.Clone(good), 5, 6), slices.Repeat([]int{0}, 5000)}
		for i := range good {
			for _, number := range otherHeads {
				other := slices.Clone(good)
				other[i] = number
				lists = append(lists, other)
			}
		}
		for _, heights := range lists {
			other := h
			other.heights = heights
			checkNoPressures(t, other)
			checkNoWeakNodes(t, other)
			checkNoHeadNeeded(t, other)
		}
		for i := range good {
			other := h
			other.heights = slices.Clone(good)
			other.heights[i], other.need = maxHead, 0
			if pressures, ok := impl.PressuresOf(other.n, other.source, other.demands, other.head, other.heights); !ok || !slices.Equal(pressures, wantedPressures(other)) {
				t.Errorf("PressuresOf(%v) = %v, %v", other, pressures, ok)
			}
		}
	}
}

func TestFlowsAtTheLimitsHaveLosses(t *testing.T) {
	for _, n := range append(checkedNetworks(), twoRings()) {
		for _, flow := range []int{-8000, 8000} {
			flows := slices.Repeat([]int{flow}, len(n.Pipes))
			if len(n.Pipes) == 0 {
				if energy, ok := impl.EnergyOf(n, flows); !ok || energy != 0 {
					t.Errorf("EnergyOf(%v, %v) = %d, %v", n, flows, energy, ok)
				}
				continue
			}
			checkNoEnergy(t, n, flows)
			p := n.Pipes[0]
			if loss, ok := impl.LossOf(n, flows, p.Id); !ok || loss != wantedLoss(p, flow) {
				t.Errorf("LossOf(%v, %v, %d) = %d, %v", n, flows, p.Id, loss, ok)
			}
			if loss, ok := impl.LossAlong(n, flows, p.From, p.To); !ok || loss != wantedLoss(p, flow) {
				t.Errorf("LossAlong(%v, %v, %d, %d) = %d, %v", n, flows, p.From, p.To, loss, ok)
			}
			if _, greatest, ok := impl.SteepestPipe(n, flows); !ok || greatest < 64000000 {
				t.Errorf("SteepestPipe(%v, %v) = %d, %v", n, flows, greatest, ok)
			}
		}
	}
}

// callAllForHeads calls every function of the chapter and overwrites all memory of the results.
func callAllForHeads(h hill, flows []int) {
	spoil := func(list []int) {
		all := list[:cap(list)]
		for i := range all {
			all[i] = -7
		}
	}
	impl.EnergyOf(h.n, flows)
	impl.SteepestPipe(h.n, flows)
	for id := -1; id <= 100; id++ {
		impl.LossOf(h.n, flows, id)
	}
	for source := -1; source <= 9; source++ {
		heads, _ := impl.HeadsOf(h.n, source, h.demands, h.head)
		spoil(heads)
		pressures, _ := impl.PressuresOf(h.n, source, h.demands, h.head, h.heights)
		spoil(pressures)
		weak, _ := impl.WeakNodes(h.n, source, h.demands, h.head, h.heights, h.need)
		spoil(weak)
		impl.HeadNeeded(h.n, source, h.demands, h.heights, h.need)
		for to := -1; to <= 9; to++ {
			impl.LossAlong(h.n, flows, source, to)
		}
	}
}

// checkKept checks that the functions of the chapter change no argument.
func checkKept(t *testing.T, h hill, flows []int) {
	t.Helper()
	var memory [3][]int
	var pipes []impl.Pipe
	h.n, pipes = filled(h.n)
	h.demands, memory[0] = roomBehind(h.demands)
	h.heights, memory[1] = roomBehind(h.heights)
	flows, memory[2] = roomBehind(flows)
	pipesBefore, before := slices.Clone(pipes), [3][]int{}
	for i := range memory {
		before[i] = slices.Clone(memory[i])
	}
	callAllForHeads(h, flows)
	for i := range memory {
		if !slices.Equal(memory[i], before[i]) {
			t.Fatalf("an argument of %v is modified: %v instead of %v", h, memory[i], before[i])
		}
	}
	if !slices.Equal(pipes, pipesBefore) {
		t.Fatalf("the pipes of %v are modified: %v instead of %v", h, pipes, pipesBefore)
	}
}

func TestHeadFunctionsLeaveTheirArgumentsAlone(t *testing.T) {
	r := rand.New(rand.NewSource(99))
	for i, h := range someHills() {
		if i%41 == 0 {
			checkKept(t, h, drawnFlows(r, h.n))
		}
	}
	for _, n := range append(checkedNetworks(), twoRings()) {
		h := hill{n: n, demands: binary[:n.Nodes], head: 70000, heights: binaryHeights[:n.Nodes], need: 3000}
		checkKept(t, h, drawnFlows(r, n))
		checkKept(t, h, invalidFlows(n)[r.Intn(3)])
		h.heights = append(slices.Clone(h.heights), 1)
		checkKept(t, h, make([]int, len(n.Pipes)))
		h.demands = invalidDemands(n)[r.Intn(4)]
		checkKept(t, h, make([]int, len(n.Pipes)))
	}
	for _, all := range []map[string]impl.Network{invalidNetworks(), invalidTrees()} {
		for _, n := range all {
			size := min(max(n.Nodes, 0), 12)
			checkKept(t, hill{n: n, demands: make([]int, size), heights: make([]int, size)}, make([]int, len(n.Pipes)))
		}
	}
}

func TestNothingBehindTheArgumentsOfHeadsIsRead(t *testing.T) {
	r := rand.New(rand.NewSource(100))
	for i, h := range someHills() {
		if i%17 != 0 {
			continue
		}
		flows := drawnFlows(r, h.n)
		arg := h
		arg.n, _ = filled(h.n)
		arg.demands, _ = roomBehind(h.demands)
		arg.heights, _ = roomBehind(h.heights)
		room, _ := roomBehind(flows)
		if got, ok := impl.PressuresOf(arg.n, arg.source, arg.demands, arg.head, arg.heights); !ok || !slices.Equal(got, wantedPressures(h)) {
			t.Fatalf("PressuresOf(%v) = %v, %v", h, got, ok)
		}
		if got, ok := impl.HeadNeeded(arg.n, arg.source, arg.demands, arg.heights, 0); ok {
			h.need = 0
			if want, _ := wantedNeeded(h); got != want {
				t.Fatalf("HeadNeeded(%v) = %d, want %d", h, got, want)
			}
		}
		if len(flows) > 0 {
			id, greatest, _ := impl.SteepestPipe(h.n, flows)
			if gotId, got, ok := impl.SteepestPipe(arg.n, room); !ok || gotId != id || got != greatest {
				t.Fatalf("SteepestPipe(%v, %v) = %d, %d, %v, want %d, %d", h.n, flows, gotId, got, ok, id, greatest)
			}
			short, _ := roomBehind(flows[:len(flows)-1])
			checkNoLosses(t, arg.n, short)
		}
		for _, p := range arg.n.Pipes[len(h.n.Pipes):cap(arg.n.Pipes)] {
			if pipeIndex(h.n, p.Id) < 0 {
				checkNoLossOf(t, arg.n, room, p.Id)
			}
		}
		short := arg
		short.heights, _ = roomBehind(h.heights[:h.n.Nodes-1])
		checkNoPressures(t, short)
		checkNoHeadNeeded(t, short)
		short = arg
		short.demands, _ = roomBehind(h.demands[:h.n.Nodes-1])
		checkNothingOfTheHill(t, short)
	}
}

func TestResultsOfHeadsShareNoMemory(t *testing.T) {
	h := hill{n: deepTree(), source: 3, demands: slices.Clone(binary), head: 70000, heights: slices.Clone(binaryHeights), need: 60000}
	level := hill{n: network(1), source: 1, demands: []int{9}, head: 7, heights: []int{0}, need: 8}
	for name, call := range map[string]func() ([]int, bool){
		"HeadsOf":     func() ([]int, bool) { return impl.HeadsOf(h.n, h.source, h.demands, h.head) },
		"PressuresOf": func() ([]int, bool) { return impl.PressuresOf(h.n, h.source, h.demands, h.head, h.heights) },
		"WeakNodes":   func() ([]int, bool) { return impl.WeakNodes(h.n, h.source, h.demands, h.head, h.heights, h.need) },
		"HeadsOf of one node": func() ([]int, bool) {
			return impl.HeadsOf(level.n, level.source, level.demands, level.head)
		},
		"PressuresOf of one node": func() ([]int, bool) {
			return impl.PressuresOf(level.n, level.source, level.demands, level.head, level.heights)
		},
		"WeakNodes of one node": func() ([]int, bool) {
			return impl.WeakNodes(level.n, level.source, level.demands, level.head, level.heights, level.need)
		},
	} {
		first, ok := call()
		want := slices.Clone(first)
		second, _ := call()
		for i := range first {
			first[i] = -7
		}
		third, _ := call()
		if !ok || len(want) == 0 || !slices.Equal(second, want) || !slices.Equal(third, want) {
			t.Error(name, "shares memory:", want, second, third)
		}
	}
	if !sameNetwork(h.n, deepTree()) || !slices.Equal(h.demands, binary) || !slices.Equal(h.heights, binaryHeights) {
		t.Error("an argument is modified:", h)
	}
}
