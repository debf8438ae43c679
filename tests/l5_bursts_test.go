package tests

import (
	"cmp"
	"math"
	"math/rand"
	"slices"
	"testing"

	"loop.example/g00853/impl"
)

// binary are customers of which the sum tells at which nodes they are: node k has 2^(k-1).
var binary = []int{1, 2, 4, 8, 16, 32, 64, 128}

// customersAt returns the binary customers at some nodes together.
func customersAt(nodes ...int) int {
	sum := 0
	for _, node := range nodes {
		sum += binary[node-1]
	}
	return sum
}

// twoWays has two pipes between its two nodes, each with an open valve at both ends, so that no
// pipe is hopeless.
func twoWays() system {
	return system{network(2, [4]int{3, 1, 2, 1}, [4]int{4, 2, 1, 1}), valves([3]int{10, 3, 1}, [3]int{20, 4, 1}, [3]int{30, 3, 2}, [3]int{40, 4, 2})}
}

// line has three nodes in a row and a valve in the first pipe, at its end at node 2.
func line() system {
	return system{network(3, [4]int{10, 1, 2, 1}, [4]int{20, 3, 2, 1}), valves([3]int{50, 10, 2})}
}

// A choice has the Ids of some valves that are not Shut, and the water if these are shut too.
type choice struct {
	ids   []int
	water grid
}

// choicesOf returns all choices of open valves of a system.
func choicesOf(s system) []choice {
	lists := [][]int{nil}
	for _, v := range s.list {
		if v.Shut {
			continue
		}
		for _, ids := range slices.Clone(lists) {
			lists = append(lists, append(slices.Clone(ids), v.Id))
		}
	}
	var choices []choice
	for _, ids := range lists {
		list := slices.Clone(s.list)
		for i := range list {
			list[i].Shut = list[i].Shut || slices.Contains(ids, list[i].Id)
		}
		choices = append(choices, choice{ids, wantedWater(system{s.n, list})})
	}
	return choices
}

// A plan is a list of Ids with its harm.
type plan struct {
	ids  []int
	harm int
}

// wantedHarm returns the customers at the nodes that are not marked in a row of a grid.
func wantedHarm(n impl.Network, row [impl.MaxNodes + impl.MaxPipes + 1]bool, customers []int) int {
	harm := 0
	for node := 1; node <= n.Nodes; node++ {
		if !row[node] {
			harm += customers[node-1]
		}
	}
	return harm
}

// plansAmong returns those choices that are plans for a pipe.
func plansAmong(choices []choice, n impl.Network, source int, pipe int, customers []int) []plan {
	var plans []plan
	for _, c := range choices {
		if !c.water[source][element(n, pipe)] {
			plans = append(plans, plan{c.ids, wantedHarm(n, c.water[source], customers)})
		}
	}
	return plans
}

// shorter compares two plans by their numbers of valves, and then by their Ids.
func shorter(a plan, b plan) int {
	return cmp.Or(cmp.Compare(len(a.ids), len(b.ids)), slices.Compare(a.ids, b.ids))
}

// gentler compares two plans by their harm first.
func gentler(a plan, b plan) int { return cmp.Or(cmp.Compare(a.harm, b.harm), shorter(a, b)) }

// someCustomers returns customers for a network, few different ones, so that harm is often equal.
func someCustomers(r *rand.Rand, n impl.Network) []int {
	var customers []int
	most := []int{1, 2, 4, 1001}[r.Intn(4)]
	for range n.Nodes {
		customers = append(customers, r.Intn(most))
	}
	return customers
}

// arguments are those of every function, valid or not.
type arguments struct {
	s            system
	source, pipe int
	plan         []int
	v            impl.Valve
	customers    []int
}

// checkNothing checks that every function fails and returns nothing but zero values.
func checkNothing(t *testing.T, w arguments) {
	checkNothingForPipes(t, w)
	checkNothingWithCustomers(t, w)
	if pipes, ok := impl.HopelessPipes(w.s.n, w.s.list, w.source); ok || len(pipes) != 0 {
		t.Error("HopelessPipes:", w, pipes, ok)
	}
	if pipe, harm, ok := impl.WorstBurst(w.s.n, w.s.list, w.source, w.customers); ok || pipe != 0 || harm != 0 {
		t.Error("WorstBurst:", w, pipe, harm, ok)
	}
}

// checkNothingForPipes does this for the functions with a pipe and without customers.
func checkNothingForPipes(t *testing.T, w arguments) {
	if impl.IsPlan(w.s.n, w.s.list, w.source, w.pipe, w.plan) {
		t.Error("IsPlan:", w)
	}
	if ids, ok := impl.ShortestPlan(w.s.n, w.s.list, w.source, w.pipe); ok || len(ids) != 0 {
		t.Error("ShortestPlan:", w, ids, ok)
	}
	if ids, ok := impl.SegmentPlan(w.s.n, w.s.list, w.source, w.pipe); ok || len(ids) != 0 {
		t.Error("SegmentPlan:", w, ids, ok)
	}
}

// checkNothingWithCustomers does this for the functions with a pipe and customers.
func checkNothingWithCustomers(t *testing.T, w arguments) {
	if harm, ok := impl.HarmOf(w.s.n, w.s.list, w.source, w.pipe, w.plan, w.customers); ok || harm != 0 {
		t.Error("HarmOf:", w, harm, ok)
	}
	if ids, harm, ok := impl.GentlestPlan(w.s.n, w.s.list, w.source, w.pipe, w.customers); ok || len(ids) != 0 || harm != 0 {
		t.Error("GentlestPlan:", w, ids, harm, ok)
	}
	if gain, ok := impl.NewValveGain(w.s.n, w.s.list, w.source, w.pipe, w.v, w.customers); ok || gain != 0 {
		t.Error("NewValveGain:", w, gain, ok)
	}
}

// knownPlans are the plans in the fullSystem with some valves Shut and the binary customers.
var knownPlans = []struct {
	shut         []int
	source, pipe int
	shortest     []int
	gentlest     []int
	segment      []int
	dry          []int // with the gentlest plan
}{
	{nil, 1, 1, []int{1, 2}, []int{1, 2}, []int{1, 2}, nil},
	{nil, 1, 2, []int{1, 98}, []int{1, 99}, []int{2, 3, 10, 99}, []int{2, 3, 4, 5, 6, 7}},
	{nil, 1, 99, []int{1, 98}, []int{1, 99}, []int{2, 3, 10, 99}, []int{2, 3, 4, 5, 6, 7}},
	{nil, 1, 11, []int{12}, []int{12}, []int{12, 20}, []int{4, 5, 6, 7}},
	{nil, 1, 20, []int{12}, []int{20}, []int{20, 21}, []int{5, 6, 7}},
	{nil, 1, 50, []int{12}, []int{20}, []int{21}, []int{5, 6, 7}},
	{nil, 5, 1, []int{12}, []int{1, 2}, []int{1, 2}, nil},
	{nil, 5, 2, []int{12}, []int{3, 10}, []int{2, 3, 10, 99}, []int{1, 2, 8}},
	{nil, 5, 11, []int{20}, []int{20}, []int{12, 20}, []int{1, 2, 3, 4, 8}},
	{nil, 5, 20, []int{21}, []int{21}, []int{20, 21}, []int{1, 2, 3, 4, 8}},
	{nil, 5, 98, []int{12}, []int{1, 98}, []int{1, 98}, []int{1}},
	{[]int{98}, 1, 2, []int{1}, []int{1}, []int{2, 3, 10, 99}, []int{2, 3, 4, 5, 6, 7, 8}},
	{[]int{98}, 1, 1, []int{1}, []int{1}, []int{1, 2}, []int{2, 3, 4, 5, 6, 7, 8}},
	{[]int{2}, 1, 1, []int{1}, []int{1}, []int{1}, nil},
	{[]int{2, 3}, 1, 2, []int{98}, []int{99}, []int{10, 99}, []int{2, 3, 4, 5, 6, 7}},
	{[]int{12}, 1, 11, nil, nil, []int{20}, []int{4, 5, 6, 7}},
	{[]int{12}, 1, 20, nil, nil, []int{20, 21}, []int{4, 5, 6, 7}},
	{[]int{1, 2, 3, 10, 12, 20, 21, 50, 98, 99}, 3, 20, nil, nil, nil, []int{1, 2, 4, 5, 6, 7, 8}},
}

func TestPlansInAKnownSystem(t *testing.T) {
	full := fullSystem()
	for _, c := range knownPlans {
		list, harm := withShut(full.list, c.shut...), customersAt(c.dry...)
		if ids, ok := impl.ShortestPlan(full.n, list, c.source, c.pipe); !ok || !slices.Equal(ids, c.shortest) {
			t.Error("ShortestPlan", c, ids, ok)
		}
		if ids, least, ok := impl.GentlestPlan(full.n, list, c.source, c.pipe, binary); !ok || !slices.Equal(ids, c.gentlest) || least != harm {
			t.Error("GentlestPlan", c, ids, least, ok)
		}
		if ids, ok := impl.SegmentPlan(full.n, list, c.source, c.pipe); !ok || !slices.Equal(ids, c.segment) {
			t.Error("SegmentPlan", c, ids, ok)
		}
		if got, ok := impl.HarmOf(full.n, list, c.source, c.pipe, c.gentlest, binary); !ok || got != harm {
			t.Error("HarmOf", c, got, ok)
		}
		for _, ids := range [][]int{c.shortest, c.gentlest, c.segment} {
			if !impl.IsPlan(full.n, list, c.source, c.pipe, ids) {
				t.Error("IsPlan", c, ids)
			}
		}
	}
}

func TestHopelessPipesAndWorstBurstInKnownSystems(t *testing.T) {
	full, two := fullSystem(), twoWays()
	alone := valves([3]int{1, 1, 1}, [3]int{3, 2, 3}, [3]int{10, 10, 3})
	for _, c := range []struct {
		s           system
		source      int
		hopeless    []int
		worst, harm int
	}{
		{full, 1, []int{98}, 2, customersAt(2, 3, 4, 5, 6, 7)}, {full, 2, []int{2, 10, 99}, 11, customersAt(4, 5, 6, 7)},
		{full, 3, nil, 2, customersAt(1, 2, 8)}, {full, 4, []int{11}, 2, customersAt(1, 2, 8)},
		{full, 5, []int{33, 50, 51}, 11, customersAt(1, 2, 3, 4, 8)}, {full, 8, nil, 2, customersAt(2, 3, 4, 5, 6, 7)},
		{system{full.n, withShut(full.list, 12)}, 1, []int{98}, 2, customersAt(2, 3, 4, 5, 6, 7)},
		{system{full.n, withShut(full.list, valveIds(full.list)...)}, 1, []int{98}, 1, customersAt(2, 3, 4, 5, 6, 7, 8)},
		{system{full.n, alone}, 1, []int{1, 2, 10, 98, 99}, 11, customersAt(3, 4, 5, 6, 7)},
		{two, 1, nil, 3, 0}, {two, 2, nil, 3, 0}, {system{two.n, two.list[:1]}, 2, []int{3, 4}, 0, 0},
		{system{two.n, two.list[:2]}, 1, nil, 3, 2}, {system{two.n, two.list[:2]}, 2, []int{3, 4}, 0, 0},
		{line(), 1, []int{10}, 20, customersAt(2, 3)}, {line(), 2, []int{20}, 10, 1}, {line(), 3, []int{20}, 10, 1},
	} {
		if pipes, ok := impl.HopelessPipes(c.s.n, c.s.list, c.source); !ok || !slices.Equal(pipes, c.hopeless) {
			t.Error("HopelessPipes", c, pipes, ok)
		}
		pipe, harm, ok := impl.WorstBurst(c.s.n, c.s.list, c.source, binary[:c.s.n.Nodes])
		if ok != (c.worst != 0) || pipe != c.worst || harm != c.harm {
			t.Error("WorstBurst", c, pipe, harm, ok)
		}
	}
}

func TestWithoutPlansNothingIsFound(t *testing.T) {
	full := fullSystem()
	openEnd := valves([3]int{7, 10, 2}, [3]int{8, 20, 3}, [3]int{9, 20, 2})
	for _, w := range []arguments{
		{s: system{full.n, nil}, source: 1, pipe: 1}, {s: system{full.n, nil}, source: 8, pipe: 51}, {s: system{full.n, []impl.Valve{}}, source: 4, pipe: 99},
		{s: full, source: 1, pipe: 98}, {s: full, source: 2, pipe: 10}, {s: full, source: 6, pipe: 51},
		{s: line(), source: 1, pipe: 10}, {s: line(), source: 2, pipe: 20}, {s: line(), source: 3, pipe: 20},
		{s: system{line().n, openEnd}, source: 1, pipe: 10}, {s: system{line().n, withShut(openEnd, 7, 8, 9)}, source: 1, pipe: 10},
	} {
		w.customers = binary[:w.s.n.Nodes]
		w.v = impl.Valve{Id: 99, Pipe: w.pipe, Node: 1}
		for _, w.plan = range [][]int{nil, {}, valveIds(slices.DeleteFunc(slices.Clone(w.s.list), func(v impl.Valve) bool { return v.Shut }))} {
			checkNothingForPipes(t, w)
			checkNothingWithCustomers(t, w)
		}
	}
	for source := 1; source <= 8; source++ {
		if pipe, harm, ok := impl.WorstBurst(full.n, nil, source, binary); ok || pipe != 0 || harm != 0 {
			t.Error("WorstBurst without valves", source, pipe, harm, ok)
		}
		if pipes, ok := impl.HopelessPipes(full.n, nil, source); !ok || !slices.Equal(pipes, []int{1, 2, 10, 11, 20, 33, 50, 51, 98, 99}) {
			t.Error("HopelessPipes without valves", source, pipes, ok)
		}
		if pipes, ok := impl.HopelessPipes(network(8), nil, source); !ok || len(pipes) != 0 {
			t.Error("HopelessPipes without pipes", source, pipes, ok)
		}
		if pipe, harm, ok := impl.WorstBurst(network(8), nil, source, binary); ok || pipe != 0 || harm != 0 {
			t.Error("WorstBurst without pipes", source, pipe, harm, ok)
		}
	}
}

func TestDryPipesNeedNoValves(t *testing.T) {
	apart := network(5, [4]int{1, 1, 4, 1}, [4]int{2, 3, 2, 1})
	for _, c := range []struct {
		s            system
		source, pipe int
		harm         int
		segment      []int
	}{
		{system{apart, nil}, 1, 2, customersAt(2, 3, 5), nil}, {system{apart, nil}, 3, 1, customersAt(1, 4, 5), nil},
		{system{apart, nil}, 5, 1, customersAt(1, 2, 3, 4), nil}, {system{apart, valves([3]int{8, 2, 2}, [3]int{9, 1, 1})}, 1, 2, customersAt(2, 3, 5), []int{8}},
		{system{line().n, withShut(line().list, 50)}, 1, 20, customersAt(2, 3), nil},
	} {
		customers := binary[:c.s.n.Nodes]
		if ids, ok := impl.ShortestPlan(c.s.n, c.s.list, c.source, c.pipe); !ok || len(ids) != 0 {
			t.Error("ShortestPlan", c, ids, ok)
		}
		if ids, harm, ok := impl.GentlestPlan(c.s.n, c.s.list, c.source, c.pipe, customers); !ok || len(ids) != 0 || harm != c.harm {
			t.Error("GentlestPlan", c, ids, harm, ok)
		}
		if ids, ok := impl.SegmentPlan(c.s.n, c.s.list, c.source, c.pipe); !ok || !slices.Equal(ids, c.segment) {
			t.Error("SegmentPlan", c, ids, ok)
		}
		for _, empty := range [][]int{nil, {}} {
			harm, ok := impl.HarmOf(c.s.n, c.s.list, c.source, c.pipe, empty, customers)
			if !impl.IsPlan(c.s.n, c.s.list, c.source, c.pipe, empty) || !ok || harm != c.harm {
				t.Error("the empty plan", c, harm, ok)
			}
		}
		if pipes, ok := impl.HopelessPipes(c.s.n, c.s.list, c.source); !ok || slices.Contains(pipes, c.pipe) {
			t.Error("HopelessPipes", c, pipes, ok)
		}
	}
	if pipe, harm, ok := impl.WorstBurst(apart, nil, 1, binary[:5]); !ok || pipe != 2 || harm != customersAt(2, 3, 5) {
		t.Error("WorstBurst", pipe, harm, ok)
	}
}

func TestOtherListsAreNoPlans(t *testing.T) {
	full := fullSystem()
	shut, dry := system{full.n, withShut(full.list, 3, 98)}, system{full.n, withShut(full.list, 12)}
	for _, c := range []struct {
		s    system
		pipe int
		good []int
		bad  [][]int
	}{
		{full, 1, []int{1, 2}, [][]int{nil, {1}, {2}, {2, 1}, {1, 1, 2}, {1, 2, 2}, {1, 2, 1}, {2, 1, 2}, {0, 1, 2}, {-1, 1, 2}, {math.MinInt, 1, 2},
			{1, 2, 4}, {1, 2, 11}, {1, 2, 97}, {1, 2, 100}, {1, 2, math.MaxInt}, {1, 3, 2}, {2, 3, 10}, slices.Repeat([]int{1, 2}, 3000)}},
		{full, 1, []int{1, 2, 3, 10, 12, 20, 21, 50, 98, 99}, [][]int{{1, 2, 3, 10, 12, 20, 21, 50, 98, 99, 100}, {0, 1, 2, 3, 10, 12, 20, 21, 50, 98, 99},
			{1, 2, 3, 10, 12, 20, 21, 50, 99, 98}, {1, 2, 3, 10, 12, 20, 50, 21, 98, 99}, {1, 2, 3, 10, 12, 20, 21, 50, 98, 99, 99}}},
		{shut, 1, []int{1}, [][]int{{1, 3}, {1, 98}, {3}, {98}, {1, 3, 98}, {2}, {1, 1}, {1, 2, 3}, nil}},
		{shut, 1, []int{1, 2, 10, 12, 20, 21, 50, 99}, [][]int{valveIds(full.list)}},
		{dry, 20, nil, [][]int{{12}, {1, 12}, {12, 20}, {0}, {-1}, {4}, {11}, {100}, {1, 1}, {2, 1}, {1, 2, 4}, {20, 20}, {98, 2}, valveIds(full.list)}},
		{dry, 20, []int{1, 2, 99}, [][]int{{1, 2, 12, 99}, {1, 2, 2, 99}, {1, 2, 99, 100}, {0, 1, 2, 99}}},
	} {
		if !impl.IsPlan(c.s.n, c.s.list, 1, c.pipe, c.good) {
			t.Error("refused", c.good)
		}
		if _, ok := impl.HarmOf(c.s.n, c.s.list, 1, c.pipe, c.good, binary); !ok {
			t.Error("no harm of", c.good)
		}
		for _, ids := range c.bad {
			if impl.IsPlan(c.s.n, c.s.list, 1, c.pipe, ids) {
				t.Error("accepted", ids)
			}
			if harm, ok := impl.HarmOf(c.s.n, c.s.list, 1, c.pipe, ids, binary); ok || harm != 0 {
				t.Error("harm of", ids, harm, ok)
			}
		}
	}
}

func TestEveryChoiceIsAPlanExactlyIfThePipeIsDry(t *testing.T) {
	r := rand.New(rand.NewSource(51))
	for i, s := range append(mixedSystems()[:1000], fullSystem(), forkSystem(), twoWays(), line()) {
		source, customers := 1+i%s.n.Nodes, someCustomers(r, s.n)
		for _, c := range choicesOf(s) {
			harm := wantedHarm(s.n, c.water[source], customers)
			for _, p := range s.n.Pipes {
				want := !c.water[source][element(s.n, p.Id)]
				if got := impl.IsPlan(s.n, s.list, source, p.Id, c.ids); got != want {
					t.Fatalf("IsPlan(%v, %d, %d, %v) = %v", s, source, p.Id, c.ids, got)
				}
				got, ok := impl.HarmOf(s.n, s.list, source, p.Id, c.ids, customers)
				if ok != want || ok && got != harm || !ok && got != 0 {
					t.Fatalf("HarmOf(%v, %d, %d, %v, %v) = %d, %v, want %d, %v", s, source, p.Id, c.ids, customers, got, ok, harm, want)
				}
			}
		}
	}
}

// checkBestPlans checks that the plans for a pipe are the best of all and returns the harm of
// the gentlest one, and whether there is one.
func checkBestPlans(t *testing.T, s system, plans []plan, source int, pipe int, customers []int) (int, bool) {
	var shortest, gentlest plan
	if len(plans) > 0 {
		shortest, gentlest = slices.MinFunc(plans, shorter), slices.MinFunc(plans, gentler)
	}
	ids, ok := impl.ShortestPlan(s.n, s.list, source, pipe)
	if ok != (len(plans) > 0) || !slices.Equal(ids, shortest.ids) {
		t.Fatalf("ShortestPlan(%v, %d, %d) = %v, %v, want %v", s, source, pipe, ids, ok, shortest.ids)
	}
	ids, harm, ok := impl.GentlestPlan(s.n, s.list, source, pipe, customers)
	if ok != (len(plans) > 0) || !slices.Equal(ids, gentlest.ids) || harm != gentlest.harm {
		t.Fatalf("GentlestPlan(%v, %d, %d, %v) = %v, %d, %v, want %v", s, source, pipe, customers, ids, harm, ok, gentlest)
	}
	return gentlest.harm, len(plans) > 0
}

// checkSegmentPlan checks the plan of the valves around the segment of a pipe.
func checkSegmentPlan(t *testing.T, s system, source int, pipe int) {
	row := wantedGrid(s.n, s.list)[element(s.n, pipe)]
	var want []int
	for _, v := range wantedAround(s, row) {
		if !v.Shut && !row[source] {
			want = append(want, v.Id)
		}
	}
	if ids, ok := impl.SegmentPlan(s.n, s.list, source, pipe); ok == row[source] || !slices.Equal(ids, want) {
		t.Fatalf("SegmentPlan(%v, %d, %d) = %v, %v, want %v", s, source, pipe, ids, ok, want)
	}
}

func TestBestPlansAreTheBestOfAll(t *testing.T) {
	r := rand.New(rand.NewSource(52))
	for i, s := range allSystems() {
		source, customers, choices := 1+i%s.n.Nodes, someCustomers(r, s.n), choicesOf(s)
		var hopeless []int
		worst, greatest := 0, 0
		for _, p := range s.n.Pipes {
			harm, ok := checkBestPlans(t, s, plansAmong(choices, s.n, source, p.Id, customers), source, p.Id, customers)
			checkSegmentPlan(t, s, source, p.Id)
			if !ok {
				hopeless = append(hopeless, p.Id)
			} else if worst == 0 || harm > greatest {
				worst, greatest = p.Id, harm
			}
		}
		if pipes, ok := impl.HopelessPipes(s.n, s.list, source); !ok || !slices.Equal(pipes, hopeless) {
			t.Fatalf("HopelessPipes(%v, %d) = %v, %v, want %v", s, source, pipes, ok, hopeless)
		}
		if pipe, harm, ok := impl.WorstBurst(s.n, s.list, source, customers); ok != (worst != 0) || pipe != worst || harm != greatest {
			t.Fatalf("WorstBurst(%v, %d, %v) = %d, %d, %v, want %d, %d", s, source, customers, pipe, harm, ok, worst, greatest)
		}
	}
}

// without returns a list but for its element at a place.
func without[T any](list []T, place int) []T {
	return slices.Delete(slices.Clone(list), place, place+1)
}

func TestShortestPlansHaveNoNeedlessValves(t *testing.T) {
	found := 0
	for i, s := range allSystems() {
		source := 1 + i%s.n.Nodes
		needless, _ := impl.NeedlessValves(s.n, s.list)
		for _, p := range s.n.Pipes {
			ids, ok := impl.ShortestPlan(s.n, s.list, source, p.Id)
			if !ok {
				continue
			}
			dry, _ := impl.DryPipes(s.n, shutAll(t, s, ids), source)
			if !slices.Contains(dry, p.Id) || !impl.IsPlan(s.n, s.list, source, p.Id, ids) {
				t.Fatalf("ShortestPlan(%v, %d, %d) = %v is no plan", s, source, p.Id, ids)
			}
			for place, id := range ids {
				found++
				fewer := without(ids, place)
				dry, _ := impl.DryPipes(s.n, shutAll(t, s, fewer), source)
				if slices.Contains(dry, p.Id) || impl.IsPlan(s.n, s.list, source, p.Id, fewer) || slices.Contains(needless, id) {
					t.Fatalf("ShortestPlan(%v, %d, %d) = %v does not need %d", s, source, p.Id, ids, id)
				}
			}
		}
	}
	if found < 5000 {
		t.Error("only", found, "valves in all plans")
	}
}

func TestEqualPlansAndEqualBursts(t *testing.T) {
	two := twoWays()
	for _, c := range []struct {
		customers []int
		source    int
		pipe      int
		want      []int
		harm      int
	}{
		{[]int{5, 7}, 1, 3, []int{10, 30}, 0}, {[]int{5, 7}, 1, 4, []int{20, 40}, 0}, {[]int{5, 0}, 1, 3, []int{10, 20}, 0}, {[]int{5, 0}, 1, 4, []int{10, 20}, 0},
		{[]int{0, 7}, 2, 3, []int{10, 30}, 0}, {[]int{0, 7}, 2, 4, []int{10, 40}, 0}, {[]int{0, 0}, 1, 4, []int{10, 20}, 0},
	} {
		if ids, harm, ok := impl.GentlestPlan(two.n, two.list, c.source, c.pipe, c.customers); !ok || !slices.Equal(ids, c.want) || harm != c.harm {
			t.Error("GentlestPlan", c, ids, harm, ok)
		}
	}
	// Three pipes from the source to nodes of their own.
	star := system{network(4, [4]int{7, 1, 2, 1}, [4]int{8, 3, 1, 1}, [4]int{9, 1, 4, 1}), valves([3]int{1, 9, 1}, [3]int{2, 8, 1}, [3]int{3, 7, 1})}
	for _, c := range []struct {
		customers  []int
		pipe, harm int
	}{
		{[]int{9, 5, 5, 5}, 7, 5}, {[]int{9, 4, 5, 5}, 8, 5}, {[]int{9, 4, 4, 5}, 9, 5}, {[]int{9, 5, 4, 5}, 7, 5}, {[]int{9, 0, 0, 0}, 7, 0}, {[]int{0, 0, 1000, 1000}, 8, 1000},
	} {
		if pipe, harm, ok := impl.WorstBurst(star.n, star.list, 1, c.customers); !ok || pipe != c.pipe || harm != c.harm {
			t.Error("WorstBurst", c, pipe, harm, ok)
		}
	}
}

func TestCustomersMeetTheLimits(t *testing.T) {
	full := fullSystem()
	for _, c := range []struct{ each, harm int }{{0, 0}, {1, 7}, {1000, 7000}} {
		customers := slices.Repeat([]int{c.each}, 8)
		if harm, ok := impl.HarmOf(full.n, full.list, 1, 2, []int{1, 98}, customers); !ok || harm != c.harm {
			t.Error("HarmOf", c, harm, ok)
		}
		if _, harm, ok := impl.GentlestPlan(full.n, full.list, 1, 2, customers); !ok || harm != c.harm-c.each {
			t.Error("GentlestPlan", c, harm, ok)
		}
		if _, harm, ok := impl.WorstBurst(full.n, full.list, 1, customers); !ok || harm != c.harm-c.each {
			t.Error("WorstBurst", c, harm, ok)
		}
		if gain, ok := impl.NewValveGain(full.n, full.list[:9], 1, 2, full.list[9], customers); !ok || gain != c.each {
			t.Error("NewValveGain", c, gain, ok)
		}
	}
}

func TestOtherCustomersYieldZeroValues(t *testing.T) {
	bad := [][]int{nil, {}, {1}, {1, 2}, {1, 2, 3, 4}, {0, 0, 0, 0}, slices.Repeat([]int{1}, 5000)}
	for place := range 3 {
		for _, number := range []int{-1, 1001, math.MinInt, math.MaxInt} {
			customers := []int{1, 2, 3}
			customers[place] = number
			bad = append(bad, customers)
		}
	}
	s := line()
	for _, customers := range bad {
		w := arguments{s: s, source: 1, pipe: 20, plan: []int{50}, v: impl.Valve{Id: 51, Pipe: 20, Node: 2}, customers: customers}
		checkNothingWithCustomers(t, w)
		if pipe, harm, ok := impl.WorstBurst(s.n, s.list, 1, customers); ok || pipe != 0 || harm != 0 {
			t.Error("WorstBurst", customers, pipe, harm, ok)
		}
	}
	if gain, ok := impl.NewValveGain(s.n, s.list, 1, 20, impl.Valve{Id: 51, Pipe: 20, Node: 2}, []int{1, 2, 3}); !ok || gain != 2 {
		t.Error("NewValveGain", gain, ok)
	}
}

func TestGainsOfKnownValves(t *testing.T) {
	full := fullSystem()
	branch := system{network(3, [4]int{1, 1, 2, 1}, [4]int{2, 3, 1, 1}), valves([3]int{5, 1, 1})}
	middle := system{line().n, valves([3]int{40, 20, 3}, [3]int{60, 10, 2})}
	for _, c := range []struct {
		s            system
		source, pipe int
		v            impl.Valve
		want         int
	}{
		{line(), 1, 20, impl.Valve{Id: 1, Pipe: 20, Node: 2}, 2}, {line(), 1, 20, impl.Valve{Id: 99, Pipe: 20, Node: 2}, 2},
		{line(), 1, 20, impl.Valve{Id: 49, Pipe: 20, Node: 3}, 0}, {line(), 1, 20, impl.Valve{Id: 51, Pipe: 10, Node: 1}, 0},
		{line(), 1, 20, impl.Valve{Id: 51, Pipe: 20, Node: 2, Shut: true}, 2}, {line(), 1, 20, impl.Valve{Id: 1, Pipe: 10, Node: 1, Shut: true}, 0},
		{middle, 1, 20, impl.Valve{Id: 1, Pipe: 20, Node: 2}, 2}, {middle, 1, 20, impl.Valve{Id: 50, Pipe: 20, Node: 2}, 2}, {middle, 1, 20, impl.Valve{Id: 99, Pipe: 20, Node: 2}, 2},
		{middle, 2, 10, impl.Valve{Id: 50, Pipe: 10, Node: 1}, 0}, {middle, 3, 10, impl.Valve{Id: 50, Pipe: 20, Node: 2, Shut: true}, -2},
		{branch, 1, 1, impl.Valve{Id: 6, Pipe: 2, Node: 1}, 0}, {branch, 1, 1, impl.Valve{Id: 4, Pipe: 2, Node: 1, Shut: true}, -4},
		{system{full.n, full.list[1:]}, 1, 2, full.list[0], 0}, {system{full.n, without(full.list, 6)}, 1, 20, full.list[6], 0},
		{system{full.n, without(full.list, 9)}, 1, 2, full.list[9], customersAt(8)}, {system{full.n, without(full.list, 5)}, 1, 33, full.list[5], 0},
		{system{full.n, without(full.list, 4)}, 1, 11, full.list[4], customersAt(3)}, {system{full.n, without(full.list, 5)}, 1, 20, full.list[5], customersAt(4)},
	} {
		if gain, ok := impl.NewValveGain(c.s.n, c.s.list, c.source, c.pipe, c.v, binary[:c.s.n.Nodes]); !ok || gain != c.want {
			t.Error("NewValveGain", c, gain, ok)
		}
	}
}

func TestOtherNewValvesYieldZeroValues(t *testing.T) {
	s := system{line().n, valves([3]int{20, 20, 3}, [3]int{50, 10, 2})}
	for _, v := range []impl.Valve{
		{}, {Id: 50, Pipe: 20, Node: 2}, {Id: 20, Pipe: 20, Node: 2}, {Id: 50, Pipe: 10, Node: 2}, {Id: 50, Pipe: 20, Node: 2, Shut: true},
		{Id: 1, Pipe: 10, Node: 2}, {Id: 30, Pipe: 10, Node: 2}, {Id: 60, Pipe: 10, Node: 2}, {Id: 60, Pipe: 20, Node: 3}, {Id: 1, Pipe: 10, Node: 2, Shut: true},
		{Id: 0, Pipe: 20, Node: 2}, {Id: -1, Pipe: 20, Node: 2}, {Id: 100, Pipe: 20, Node: 2}, {Id: math.MinInt, Pipe: 20, Node: 2}, {Id: math.MaxInt, Pipe: 20, Node: 2},
		{Id: 1, Pipe: 10, Node: 3}, {Id: 1, Pipe: 20, Node: 1}, {Id: 1, Pipe: 20, Node: 0}, {Id: 1, Pipe: 20, Node: 4}, {Id: 1, Pipe: 1, Node: 2},
		{Id: 1, Pipe: 0, Node: 2}, {Id: 1, Pipe: 30, Node: 2}, {Id: 1, Pipe: math.MaxInt, Node: math.MinInt}, {Id: 60, Pipe: 20, Node: -2},
	} {
		if gain, ok := impl.NewValveGain(s.n, s.list, 1, 20, v, binary[:3]); ok || gain != 0 {
			t.Error("NewValveGain", v, gain, ok)
		}
	}
	// One too many, before, between and behind the others, at a free end.
	full := fullSystem()
	for _, id := range []int{4, 11, 51, 97} {
		if gain, ok := impl.NewValveGain(full.n, full.list, 1, 33, impl.Valve{Id: id, Pipe: 33, Node: 5}, binary); ok || gain != 0 {
			t.Error("NewValveGain, one too many", id, gain, ok)
		}
		if _, ok := impl.NewValveGain(full.n, full.list[:9], 1, 33, impl.Valve{Id: id, Pipe: 33, Node: 5}, binary); !ok {
			t.Error("NewValveGain, just enough", id)
		}
	}
	// There is no plan before, but one with the new valve.
	if gain, ok := impl.NewValveGain(s.n, s.list, 1, 10, impl.Valve{Id: 1, Pipe: 10, Node: 1}, binary[:3]); ok || gain != 0 {
		t.Error("NewValveGain without a plan before", gain, ok)
	}
}

// freeEnd returns a valve at an end without one, with an Id that does not occur, or false.
func freeEnd(r *rand.Rand, s system) (impl.Valve, bool) {
	free := slices.DeleteFunc(ends(s.n), func(v impl.Valve) bool {
		return slices.ContainsFunc(s.list, func(other impl.Valve) bool { return other.Pipe == v.Pipe && other.Node == v.Node })
	})
	if len(free) == 0 || len(s.list) == impl.MaxValves {
		return impl.Valve{}, false
	}
	v := free[r.Intn(len(free))]
	v.Shut = r.Intn(3) == 0
	for v.Id == 0 || slices.Contains(valveIds(s.list), v.Id) {
		v.Id = 1 + r.Intn(99)
	}
	return v, true
}

func TestGainsAreTheDifferenceOfTheBestPlans(t *testing.T) {
	r := rand.New(rand.NewSource(53))
	gains := map[int]int{} // by their sign
	for i, s := range append(mixedSystems(), forkSystem(), twoWays(), line()) {
		v, ok := freeEnd(r, s)
		if !ok {
			continue
		}
		added := system{s.n, append(slices.Clone(s.list), v)}
		slices.SortFunc(added.list, byId)
		source, customers := 1+i%s.n.Nodes, someCustomers(r, s.n)
		before, after := choicesOf(s), choicesOf(added)
		for _, p := range s.n.Pipes {
			plans, more := plansAmong(before, s.n, source, p.Id, customers), plansAmong(after, s.n, source, p.Id, customers)
			want := 0
			if len(plans) > 0 {
				want = slices.MinFunc(plans, gentler).harm - slices.MinFunc(more, gentler).harm
				gains[cmp.Compare(want, 0)]++
			}
			gain, ok := impl.NewValveGain(s.n, s.list, source, p.Id, v, customers)
			if ok != (len(plans) > 0) || gain != want {
				t.Fatalf("NewValveGain(%v, %d, %d, %v, %v) = %d, %v, want %d", s, source, p.Id, v, customers, gain, ok, want)
			}
			if !v.Shut && gain < 0 {
				t.Fatalf("NewValveGain(%v, %d, %d, %v, %v) = %d", s, source, p.Id, v, customers, gain)
			}
		}
	}
	if len(gains) != 3 {
		t.Error("not all signs of gains occur:", gains)
	}
}

func TestBurstsOfInvalidValvesYieldZeroValues(t *testing.T) {
	for _, list := range invalidLists() {
		w := arguments{s: system{forkNetwork(), list}, v: impl.Valve{Id: 80, Pipe: 8, Node: 2}, customers: []int{1, 2, 3}}
		for w.source = 1; w.source <= 3; w.source++ {
			for _, w.pipe = range []int{5, 7, 8} {
				for _, w.plan = range [][]int{nil, {50}, valveIds(list[:min(len(list), 4)])} {
					checkNothing(t, w)
				}
			}
		}
	}
	full := fullSystem()
	full.list = slices.Insert(full.list, 8, impl.Valve{Id: 51, Pipe: 51, Node: 7})
	for _, p := range full.n.Pipes {
		checkNothing(t, arguments{s: full, source: 4, pipe: p.Id, plan: []int{1, 2}, v: impl.Valve{Id: 60, Pipe: 33, Node: 5}, customers: binary})
	}
}

func TestBurstsOfInvalidNetworksYieldZeroValues(t *testing.T) {
	for _, n := range invalidNetworks() {
		for _, list := range [][]impl.Valve{nil, valves([3]int{5, 5, 1}, [3]int{6, 5, 2}), valves([3]int{5, 1, 1}, [3]int{6, 1, 2})} {
			w := arguments{s: system{n, list}, v: impl.Valve{Id: 7, Pipe: 6, Node: 1}}
			for _, w.source = range []int{1, 2, 3, 0} {
				for _, w.pipe = range []int{5, 6, 1, 0} {
					for _, w.customers = range [][]int{{1, 2, 3}, {1}, {1, 2}, slices.Repeat([]int{1}, 9), nil} {
						w.plan = valveIds(list)
						checkNothing(t, w)
					}
				}
			}
		}
	}
}

func TestBurstsOfOtherNodesAndIdsYieldZeroValues(t *testing.T) {
	fork := forkSystem()
	for _, list := range [][]impl.Valve{fork.list, nil} {
		w := arguments{s: system{fork.n, list}, v: impl.Valve{Id: 42, Pipe: 8, Node: 3}, customers: []int{1, 2, 3}}
		for _, w.source = range oddNodes {
			for _, w.pipe = range []int{5, 7, 8, 0} {
				for _, w.plan = range [][]int{nil, {40}} {
					checkNothing(t, w)
				}
			}
		}
		for w.source = 1; w.source <= 3; w.source++ {
			for _, w.pipe = range append([]int{40, 41, 42}, otherIds...) {
				for _, w.plan = range [][]int{nil, {40}} {
					checkNothingForPipes(t, w)
					checkNothingWithCustomers(t, w)
				}
			}
		}
	}
}

// roomBehind returns a list whose memory goes on behind it, and that whole memory.
func roomBehind(list []int) ([]int, []int) {
	whole := append(slices.Clone(list), 98, 99, 0)
	return whole[:len(list)], whole
}

// callAllForBursts calls every function for w and overwrites all memory of the results.
func callAllForBursts(w arguments) {
	shortest, _ := impl.ShortestPlan(w.s.n, w.s.list, w.source, w.pipe)
	gentlest, _, _ := impl.GentlestPlan(w.s.n, w.s.list, w.source, w.pipe, w.customers)
	segment, _ := impl.SegmentPlan(w.s.n, w.s.list, w.source, w.pipe)
	hopeless, _ := impl.HopelessPipes(w.s.n, w.s.list, w.source)
	for _, list := range [][]int{shortest, gentlest, segment, hopeless} {
		all := list[:cap(list)]
		for i := range all {
			all[i] = -7
		}
	}
	impl.IsPlan(w.s.n, w.s.list, w.source, w.pipe, w.plan)
	impl.HarmOf(w.s.n, w.s.list, w.source, w.pipe, w.plan, w.customers)
	impl.WorstBurst(w.s.n, w.s.list, w.source, w.customers)
	impl.NewValveGain(w.s.n, w.s.list, w.source, w.pipe, w.v, w.customers)
}

func TestBurstFunctionsLeaveTheirArgumentsAlone(t *testing.T) {
	r := rand.New(rand.NewSource(54))
	systems := append(mixedSystems()[:200], fullSystem(), forkSystem(), twoWays(), line(), system{network(1), nil})
	for _, list := range invalidLists() {
		systems = append(systems, system{forkNetwork(), list})
	}
	for _, n := range invalidNetworks() {
		n.Nodes = min(max(n.Nodes, 1), 9)
		systems = append(systems, system{n, valves([3]int{1, 5, 1}, [3]int{2, 5, 2})})
	}
	for i, s := range systems {
		arg, pipes, list := behind(s)
		customers, allCustomers := roomBehind(someCustomers(r, s.n))
		ids, allIds := roomBehind(valveIds(slices.DeleteFunc(slices.Clone(s.list), func(v impl.Valve) bool { return v.Shut || r.Intn(3) == 0 })))
		pipesBefore, listBefore := slices.Clone(pipes), slices.Clone(list)
		customersBefore, idsBefore := slices.Clone(allCustomers), slices.Clone(allIds)
		w := arguments{s: arg, source: 1 + i%s.n.Nodes, plan: ids, customers: customers}
		for _, p := range append(slices.Clone(s.n.Pipes[:min(len(s.n.Pipes), 10)]), impl.Pipe{}) {
			w.pipe = p.Id
			for _, id := range []int{1, 50, 99} {
				w.v = impl.Valve{Id: id, Pipe: p.Id, Node: p.From}
				callAllForBursts(w)
			}
		}
		if !slices.Equal(pipes, pipesBefore) || !slices.Equal(list, listBefore) || !slices.Equal(allCustomers, customersBefore) || !slices.Equal(allIds, idsBefore) {
			t.Fatalf("an argument of %v is modified: %v, %v, %v and %v", w, pipes, list, allCustomers, allIds)
		}
	}
}

func TestPlansShareNoMemory(t *testing.T) {
	full := fullSystem()
	for name, call := range map[string]func() ([]int, bool){
		"ShortestPlan": func() ([]int, bool) { return impl.ShortestPlan(full.n, full.list, 1, 1) },
		"GentlestPlan": func() ([]int, bool) {
			ids, _, ok := impl.GentlestPlan(full.n, full.list, 1, 1, binary)
			return ids, ok
		},
		"SegmentPlan":   func() ([]int, bool) { return impl.SegmentPlan(full.n, full.list, 1, 1) },
		"HopelessPipes": func() ([]int, bool) { return impl.HopelessPipes(full.n, full.list, 5) },
	} {
		first, _ := call()
		want := slices.Clone(first)
		second, _ := call()
		for i := range first {
			first[i] = -7
		}
		third, ok := call()
		if !ok || len(want) == 0 || !slices.Equal(second, want) || !slices.Equal(third, want) {
			t.Error(name, "shares memory:", want, second, third)
		}
	}
}
