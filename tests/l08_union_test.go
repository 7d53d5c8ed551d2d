package tests

import (
	"fmt"
	"math"
	"slices"
	"testing"

	"loop.example/g00341/impl"
)

// splitUp: each node of a tree in the shard that its handle names; what names none lies in the first one.
func splitUp(t impl.Tree) []impl.Shard {
	l := make([]impl.Shard, impl.MaxShards)
	for _, n := range t.Nodes {
		at := n.H.Shard
		if at < 0 || at >= impl.MaxShards {
			at = 0
		}
		l[at].Nodes = append(l[at].Nodes, n)
	}
	return l
}

func wantUnion(t *testing.T, what string, l []impl.Shard, want impl.Tree) {
	t.Helper()
	got, ok := impl.Union(l)
	if !ok || !sameTree(got, want) {
		t.Errorf("%s: Union(%v) = %v, %t; want %v", what, l, got, ok, want)
	}
	if ok && !impl.TreeOk(got) {
		t.Errorf("%s: the union %v is no tree", what, got)
	}
}

func wantNoUnion(t *testing.T, what string, l []impl.Shard) {
	t.Helper()
	if got, ok := impl.Union(l); ok || len(got.Nodes) != 0 {
		t.Errorf("%s: Union(%v) = %v, %t; want the zero value and false", what, l, got, ok)
	}
}

// crowdOn: a tree of just so many nodes on each shard; the root is one of the first one's.
func crowdOn(counts ...int) plan {
	p, dirs := planOf(), []impl.Handle{rootDir}
	for shard, count := range counts {
		for i := range count {
			h := impl.Handle{Shard: shard, Ino: 1 + i, Dir: i%4 == 1}
			if h.Shard == rootDir.Shard && h.Ino == rootDir.Ino {
				continue
			}
			if len(p.entries(dirs[0])) == impl.MaxEntries {
				dirs = dirs[1:]
			}
			p.branches = append(p.branches, branch{dirs[0], letters(len(p.branches)), h})
			if h.Dir {
				dirs = append(dirs, h)
			}
		}
	}
	return p
}

func TestUnionOfSomeShards(t *testing.T) {
	wantUnion(t, "the sample", splitUp(sample().tree()), sample().tree())
	for count := 1; count <= impl.MaxShards; count++ {
		wantUnion(t, fmt.Sprint("the root alone on shards: ", count), splitUp(impl.Root())[:count], impl.Root())
	}
	two := planOf(branch{rootDir, "a", fileAt(1, 2)}, branch{rootDir, "b", dirAt(1, 7)}, branch{dirAt(1, 7), "c", fileAt(0, 9)}).tree()
	for count := 2; count <= impl.MaxShards; count++ {
		wantUnion(t, fmt.Sprint("two shards with nodes, of: ", count), splitUp(two)[:count], two)
	}
	wantNoUnion(t, "one of the two shards", splitUp(two)[:1])
}

func TestUnionOfNoShards(t *testing.T) {
	wantNoUnion(t, "nil", nil)
	wantNoUnion(t, "an empty list", []impl.Shard{})
	for count := 1; count <= impl.MaxShards+1; count++ {
		wantNoUnion(t, fmt.Sprint("shards without nodes: ", count), make([]impl.Shard, count))
	}
}

func TestUnionOfTooManyShards(t *testing.T) {
	for _, tree := range []impl.Tree{impl.Root(), sample().tree()} {
		l := splitUp(tree)
		for range 3 {
			wantUnion(t, "MaxShards shards", l[:impl.MaxShards], tree)
			l = append(l, impl.Shard{})
			wantNoUnion(t, fmt.Sprint("too many shards: ", len(l)), l)
		}
	}
	l := append(splitUp(impl.Root()), impl.Shard{Nodes: []impl.Node{{H: fileAt(impl.MaxShards, 2), Links: 1}}})
	l[0].Nodes[0].Entries = []impl.Entry{entry("a", fileAt(impl.MaxShards, 2))}
	wantNoUnion(t, "a shard too many, with a node", l)
}

func TestUnionOfManyNodes(t *testing.T) {
	most := 2 * impl.MaxNodes
	for what, counts := range map[string][]int{
		"2 MaxNodes nodes on one shard":          {most},
		"one fewer":                              {most - 1},
		"2 MaxNodes nodes on the last shard":     {1, 0, 0, most},
		"2 MaxNodes nodes on each of two shards": {most, 0, most},
		"MaxNodes nodes on each shard":           {impl.MaxNodes, impl.MaxNodes, impl.MaxNodes, impl.MaxNodes},
		"as many, not evenly":                    {1, most, most - 2, 1},
	} {
		tree := crowdOn(counts...).tree()
		if !impl.TreeOk(tree) {
			t.Fatal("no tree:", what)
		}
		wantUnion(t, what, splitUp(tree), tree)
	}
	for what, counts := range map[string][]int{
		"one more on one shard":       {most + 1},
		"one more on the last shard":  {1, 0, 0, most + 1},
		"one more on a shard between": {60, most + 1, 3, 4},
		"nearly all on one shard":     {1, 2*most - 1},
	} {
		tree := crowdOn(counts...).tree()
		if !impl.TreeOk(tree) {
			t.Fatal("no tree:", what)
		}
		wantNoUnion(t, what, splitUp(tree))
	}
	wantNoUnion(t, "a node too many in all", splitUp(crowdOn(impl.MaxNodes, impl.MaxNodes, impl.MaxNodes+1, impl.MaxNodes).tree()))
	wantNoUnion(t, "2 MaxNodes nodes on each shard", splitUp(crowdOn(most, most, most, most).tree()))
}

// turnedRound: the list with two shards in each other's place.
func turnedRound(l []impl.Shard, a, b int) []impl.Shard {
	l = slices.Clone(l)
	l[a], l[b] = l[b], l[a]
	return l
}

func TestNodesOnAnotherShard(t *testing.T) {
	whole := sample().tree()
	wantNoUnion(t, "all in the first one", []impl.Shard{{Nodes: whole.Nodes}})
	for at := range impl.MaxShards {
		l := make([]impl.Shard, impl.MaxShards)
		l[at].Nodes = whole.Nodes
		wantNoUnion(t, fmt.Sprint("all in the one at ", at), l)
		for other := range at {
			l := turnedRound(splitUp(whole), at, other)
			for i := range l {
				l[i].Id = i
			}
			wantNoUnion(t, fmt.Sprint("two in each other's place: ", at, other), l)
			l = turnedRound(splitUp(whole), at, other)
			l[at].Id, l[other].Id = other, at
			wantNoUnion(t, fmt.Sprint("the same, with Ids that fit their nodes: ", at, other), l)
		}
	}
	// One node alone, the first, one between or the last of its list, in each other list, at each place there.
	for i, n := range whole.Nodes {
		for at := range impl.MaxShards {
			if at == n.H.Shard {
				continue
			}
			less := impl.Tree{Nodes: slices.Delete(slices.Clone(whole.Nodes), i, i+1)}
			for place := range len(splitUp(less)[at].Nodes) + 1 {
				l := splitUp(less)
				l[at].Nodes = slices.Insert(slices.Clone(l[at].Nodes), place, n)
				wantNoUnion(t, fmt.Sprint(n.H, " on shard ", at), l)
			}
		}
	}
	l := splitUp(whole)
	wantNoUnion(t, "an empty shard ahead of all", slices.Insert(l, 0, impl.Shard{})[:impl.MaxShards])
	wantNoUnion(t, "a shard that lacks", slices.Delete(splitUp(whole), 1, 2))
	for _, shard := range []int{-1, impl.MaxShards, math.MinInt, math.MaxInt} {
		tree := planOf(branch{rootDir, "a", fileAt(shard, 2)}).tree()
		for at := range impl.MaxShards {
			l := splitUp(impl.Root())
			l[0].Nodes = []impl.Node{*nodeOf(&impl.Shard{Nodes: tree.Nodes}, rootDir)}
			l[at].Nodes = append(l[at].Nodes, impl.Node{H: fileAt(shard, 2), Links: 1})
			wantNoUnion(t, fmt.Sprint("a node of Shard ", shard, " in the one at ", at), l)
		}
	}
}

func TestTwoNodesOfOneHandle(t *testing.T) {
	whole := sample().tree()
	for _, n := range whole.Nodes {
		for at := range impl.MaxShards {
			l := splitUp(whole)
			for place := range len(l[at].Nodes) + 1 {
				twice := slices.Clone(l)
				twice[at].Nodes = slices.Insert(slices.Clone(l[at].Nodes), place, n)
				wantNoUnion(t, fmt.Sprint(n.H, " again, on shard ", at), twice)
			}
		}
	}
	// Each of them alone would do.
	for _, other := range []impl.Node{{H: fileF, Links: 1}, {H: fileF, Links: 2, Val: 11}, {H: fileF, Links: 1, Val: 3}} {
		l := splitUp(whole)
		l[0].Nodes = append(slices.Clone(l[0].Nodes), other)
		wantNoUnion(t, fmt.Sprint("a node of one handle that is another one: ", other), l)
	}
	for _, h := range []impl.Handle{dirA, fileG, fileK} {
		p := sample().with(dirB, "x", turned(h)).tree()
		wantNoUnion(t, fmt.Sprint("one that differs from in Dir alone: ", h), splitUp(p))
	}
	l := splitUp(impl.Root())
	l[0].Nodes = append(l[0].Nodes, impl.Root().Nodes...)
	wantNoUnion(t, "the root twice", l)
}

// TestNodesThatAreNoTree: but for their order, which Union makes anew.
func TestNodesThatAreNoTree(t *testing.T) {
	orders := []string{"nodes by Ino, then Shard", "nodes of a shard in another order", "nodes descending", "the root at the end"}
	for _, what := range orders {
		wantUnion(t, what, splitUp(treesThatAreNotOk()[what]), sample().tree())
	}
	for what, tree := range treesThatAreNotOk() {
		if !slices.Contains(orders, what) {
			wantNoUnion(t, what, splitUp(tree))
		}
	}
	for i := range sample().tree().Nodes {
		less := sample().tree()
		less.Nodes = slices.Delete(less.Nodes, i, i+1)
		wantNoUnion(t, fmt.Sprint("a node that lacks: ", i), splitUp(less))
	}
	for at := range impl.MaxShards {
		l := splitUp(sample().tree())
		l[at].Nodes = nil
		wantNoUnion(t, fmt.Sprint("a shard whose nodes lack: ", at), l)
	}
}

func TestUnionInWhateverOrder(t *testing.T) {
	x := &steps{state: 8}
	long, _ := chain(mostNodes - 1)
	for what, p := range map[string]plan{"the sample": sample(), "a crowd": crowd(mostNodes), "on three shards": crowdOn(50, 0, 70, 33), "a long chain": long} {
		tree := p.tree()
		for range 20 {
			l := splitUp(tree)
			for at := range l {
				nodes := slices.Clone(l[at].Nodes)
				for i := range nodes {
					k := x.below(len(nodes))
					nodes[i], nodes[k] = nodes[k], nodes[i]
				}
				l[at].Nodes = nodes
			}
			wantUnion(t, what, l, tree)
		}
		l := splitUp(tree)
		for at := range l {
			l[at].Nodes = slices.Clone(l[at].Nodes)
			slices.Reverse(l[at].Nodes)
		}
		wantUnion(t, what+", descending", l, tree)
	}
	// The order of entries is the node's own.
	wantNoUnion(t, "entries out of order", splitUp(sampleWith(dirA, func(n *impl.Node) { slices.Reverse(n.Entries) })))
}

// TestWhatElseAShardBears plays no part, be it right or wrong.
func TestWhatElseAShardBears(t *testing.T) {
	changes := map[string]func(s *impl.Shard){
		"Id":         func(s *impl.Shard) { s.Id = 3 },
		"Id below 0": func(s *impl.Shard) { s.Id = math.MinInt },
		"Boot":       func(s *impl.Shard) { s.Boot = -1 },
		"Next":       func(s *impl.Shard) { s.Next = 2 },
		"no Next":    func(s *impl.Shard) { s.Next = math.MinInt },
		"Intents": func(s *impl.Shard) {
			s.Intents = []impl.Intent{intent(someTx, makePart(fileAt(s.Id, 0), rootDir), impl.RpWell, fileAt(s.Id, 77)), intent(someTx, unlinkPart(fileF), impl.RpWell, zeroH), {Code: -1}}
		},
		"Lasts":   func(s *impl.Shard) { s.Lasts = []impl.Last{{Client: -1, Req: -1, Reply: impl.Reply{H: rootDir}}, {}} },
		"Done":    func(s *impl.Shard) { s.Done = []impl.Tx{someTx, someTx, {N: -1}} },
		"Decided": func(s *impl.Shard) { s.Decided = []impl.Verdict{{Tx: someTx, Ok: true}, {Tx: someTx}} },
		"many":    func(s *impl.Shard) { s.Done, s.Lasts = make([]impl.Tx, 500), make([]impl.Last, 500) },
	}
	less := sample().tree()
	less.Nodes = less.Nodes[:len(less.Nodes)-1]
	for what, change := range changes {
		one, all, lacks := splitUp(sample().tree()), splitUp(sample().tree()), splitUp(less)
		change(&one[2])
		for i := range all {
			all[i].Id, lacks[i].Id = i, i
			change(&all[i])
			change(&lacks[i])
		}
		wantUnion(t, what+" of one shard", one, sample().tree())
		wantUnion(t, what+" of all shards", all, sample().tree())
		wantNoUnion(t, what+", with a node that lacks", lacks)
	}
}

// TestEmptyListsOfShards: an empty list is nil's value.
func TestEmptyListsOfShards(t *testing.T) {
	l := splitUp(planOf(branch{rootDir, "a", dirAt(2, 4)}).tree())
	for i := range l {
		for k := range l[i].Nodes {
			if len(l[i].Nodes[k].Entries) == 0 {
				l[i].Nodes[k].Entries = []impl.Entry{}
			}
		}
	}
	l[1].Nodes, l[3] = []impl.Node{}, impl.Shard{Nodes: []impl.Node{}, Intents: []impl.Intent{}, Lasts: []impl.Last{}, Done: []impl.Tx{}, Decided: []impl.Verdict{}}
	wantUnion(t, "empty lists", l, planOf(branch{rootDir, "a", dirAt(2, 4)}).tree())
}
