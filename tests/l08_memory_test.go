package tests

import (
	"bytes"
	"fmt"
	"math"
	"slices"
	"testing"

	"loop.example/g00341/impl"
)

// roomyShards: the shards with spare room behind each list, which holds what could be there.
func roomyShards(l []impl.Shard) []impl.Shard {
	out := make([]impl.Shard, 0, len(l)+2)
	for _, s := range l {
		s = copyShard(s)
		s.Nodes = roomyTree(impl.Tree{Nodes: s.Nodes}).Nodes
		s.Intents = append(s.Intents, impl.Intent{Code: 3}, impl.Intent{Code: 4})[:len(s.Intents)]
		out = append(out, s)
	}
	return append(out, impl.Shard{Id: 9, Nodes: impl.Root().Nodes}, impl.Shard{})[:len(l)]
}

// wholeShards: a copy of all memory of the shards, the spare room too.
func wholeShards(l []impl.Shard) []impl.Shard {
	var out []impl.Shard
	for _, s := range l[:cap(l)] {
		s.Intents = s.Intents[:cap(s.Intents)]
		nodes := wholeTree(impl.Tree{Nodes: s.Nodes}).Nodes
		s = copyShard(s)
		s.Nodes = nodes
		out = append(out, s)
	}
	return out
}

func roomyDeeds(l []impl.Deed) []impl.Deed {
	out := make([]impl.Deed, 0, len(l)+3)
	for _, d := range l {
		d.Op.Name, _ = roomy(d.Op.Name)
		d.Op.As, _ = roomy(d.Op.As)
		d.Reply.List = roomyEntries(d.Reply.List)
		out = append(out, d)
	}
	return append(out, impl.Deed{Client: 1, Req: 99}, deed(makeOp(rootDir, "spare", fresh), impl.Reply{H: fresh}))[:len(l)]
}

func wholeDeeds(l []impl.Deed) []impl.Deed {
	var out []impl.Deed
	for _, d := range l[:cap(l)] {
		d.Op.Name, d.Op.As = bytes.Clone(d.Op.Name[:cap(d.Op.Name)]), bytes.Clone(d.Op.As[:cap(d.Op.As)])
		d.Reply.List = wholeEntries(d.Reply.List)
		out = append(out, d)
	}
	return out
}

func spoilDeeds(l []impl.Deed) {
	l = l[:cap(l)]
	for i, d := range l {
		spoil(d.Op.Name)
		spoil(d.Op.As)
		spoilEntries(d.Reply.List)
		l[i] = impl.Deed{At: -7}
	}
}

func roomyCalls(l []impl.Call) []impl.Call {
	out := make([]impl.Call, 0, len(l)+3)
	for _, c := range l {
		c.Op.Name, _ = roomy(c.Op.Name)
		c.Op.As, _ = roomy(c.Op.As)
		c.Reply.List = roomyEntries(c.Reply.List)
		out = append(out, c)
	}
	return append(out, impl.Call{Client: 1, Req: 99, To: 5}, impl.Call{})[:len(l)]
}

func wholeCalls(l []impl.Call) []impl.Call {
	var out []impl.Call
	for _, c := range l[:cap(l)] {
		c.Op.Name, c.Op.As = bytes.Clone(c.Op.Name[:cap(c.Op.Name)]), bytes.Clone(c.Op.As[:cap(c.Op.As)])
		c.Reply.List = wholeEntries(c.Reply.List)
		out = append(out, c)
	}
	return out
}

// wantTreesApart: what is asked is a tree, and a number beside it; same tells whether the arguments are as they were, ruin writes into them.
func wantTreesApart(t *testing.T, what string, ask func() (impl.Tree, int), same func() bool, ruin func()) {
	t.Helper()
	first, number := ask()
	if !same() {
		t.Fatalf("%s: an argument is changed by the call", what)
	}
	want := copyTree(first)
	second, again := ask()
	third, _ := ask()
	wantOwnEntries(t, what, treeAnswer{tree: third})
	spoilTree(first)
	if !same() {
		t.Fatalf("%s: an argument is changed through the answer", what)
	}
	if again != number || !sameTree(second, want) {
		t.Fatalf("%s: another answer at another time, or two that share memory", what)
	}
	ruin()
	if !sameTree(second, want) {
		t.Fatalf("%s: the answer shares memory with an argument", what)
	}
}

func wantUnionApart(t *testing.T, what string, plain []impl.Shard) {
	t.Helper()
	tree, ok := impl.Union(plain)
	l := roomyShards(plain)
	if again, isAgain := impl.Union(l); isAgain != ok || !sameTree(again, tree) {
		t.Fatalf("%s: another answer with spare room behind the lists", what)
	}
	whole := wholeShards(l)
	ask := func() (impl.Tree, int) {
		tree, ok := impl.Union(l)
		if ok {
			return tree, 1
		}
		return tree, 0
	}
	wantTreesApart(t, what, ask, func() bool { return slices.EqualFunc(wholeShards(l), whole, sameShard) }, func() {
		for _, s := range l[:cap(l)] {
			spoilShard(s)
		}
	})
}

func wantFollowApart(t *testing.T, what string, plain []impl.Deed) {
	t.Helper()
	tree, at := impl.Follow(plain)
	l := roomyDeeds(plain)
	if again, number := impl.Follow(l); number != at || !sameTree(again, tree) {
		t.Fatalf("%s: another answer with spare room behind the lists", what)
	}
	whole := wholeDeeds(l)
	wantTreesApart(t, what, func() (impl.Tree, int) { return impl.Follow(l) }, func() bool { return slices.EqualFunc(wholeDeeds(l), whole, sameDeed) }, func() { spoilDeeds(l) })
}

func wantAnsweredApart(t *testing.T, what string, calls []impl.Call, deeds []impl.Deed) {
	t.Helper()
	want := impl.Answered(calls, deeds)
	calls, deeds = roomyCalls(calls), roomyDeeds(deeds)
	wholeC, wholeD := wholeCalls(calls), wholeDeeds(deeds)
	for range 2 {
		if impl.Answered(calls, deeds) != want {
			t.Fatalf("%s: another answer at another time", what)
		}
		if !slices.EqualFunc(wholeCalls(calls), wholeC, sameCall) || !slices.EqualFunc(wholeDeeds(deeds), wholeD, sameDeed) {
			t.Fatalf("%s: an argument is changed", what)
		}
	}
}

func TestUnionsTakeNewMemory(t *testing.T) {
	wantUnionApart(t, "no shards", nil)
	wantUnionApart(t, "the sample", splitUp(sample().tree()))
	wantUnionApart(t, "a crowd", splitUp(crowd(mostNodes).tree()))
	wantUnionApart(t, "too many shards", append(splitUp(sample().tree()), impl.Shard{}))
	wantUnionApart(t, "another shard's nodes", turnedRound(splitUp(sample().tree()), 1, 2))
	for what, tree := range treesThatAreNotOk() {
		wantUnionApart(t, what, splitUp(tree))
	}
	// Shards whose lists lie in one list, the spare room of which is the next one's.
	tree := sample().tree()
	var l []impl.Shard
	for shard := range impl.MaxShards {
		first := slices.IndexFunc(tree.Nodes, func(n impl.Node) bool { return n.H.Shard >= shard })
		end := len(tree.Nodes)
		if at := slices.IndexFunc(tree.Nodes, func(n impl.Node) bool { return n.H.Shard > shard }); at >= 0 {
			end = at
		}
		l = append(l, impl.Shard{Nodes: tree.Nodes[first:end]})
	}
	wantUnion(t, "lists in one list", l, sample().tree())
	if !sameTree(tree, sample().tree()) {
		t.Error("the shared memory is changed:", tree)
	}
	// Entries, and names, that several nodes share.
	name := []byte("aaa")
	shared := []impl.Entry{{Name: name[:1], H: fileK}, {Name: name[:2], H: fileK}, {Name: name, H: dirA}}
	both := []impl.Shard{{Nodes: []impl.Node{{H: rootDir, Parent: rootDir, Links: 1, Entries: shared}}}, {Nodes: []impl.Node{{H: dirA, Parent: rootDir, Links: 1, Entries: shared[:2]}}}, {}, {Nodes: []impl.Node{{H: fileK, Links: 4}}}}
	got, ok := impl.Union(both)
	if !ok {
		t.Fatal(both)
	}
	wantOwnEntries(t, "shared entries", treeAnswer{tree: got})
	if string(name) != "aaa" || shared[0].H != fileK || shared[2].H != dirA {
		t.Error("the shared memory is changed:", name, shared)
	}
}

func TestFollowsTakeNewMemory(t *testing.T) {
	wantFollowApart(t, "no deeds", nil)
	for _, c := range allCases() {
		l := behind(deedsFor(c.on), deed(c.op, c.reply))
		wantFollowApart(t, c.what, l)
		wantFollowApart(t, c.what+", and one that does not follow", behind(l, deed(listOp(rootDir), impl.Reply{Val: 1})))
	}
	for _, d := range badDeeds() {
		wantFollowApart(t, "a bad one", []impl.Deed{d})
	}
	x := &steps{state: 3}
	for range 30 {
		wantFollowApart(t, "mixed deeds", mixedDeeds(x, 60, 100))
	}
	// One text is the name in all deeds.
	text := []byte("abcdef")
	var l []impl.Deed
	for i := range len(text) {
		h := fileAt(1, 2+i)
		l = append(l, impl.Deed{Op: impl.Op{Kind: impl.OpMake, Dir: rootDir, Name: text[:i+1], To: fileAt(1, 0)}, Reply: impl.Reply{H: h}})
	}
	got, number := impl.Follow(l)
	if number != -1 || len(got.Nodes) != 1+len(text) {
		t.Fatal(got, number)
	}
	wantOwnEntries(t, "a shared name", treeAnswer{tree: got})
	if string(text) != "abcdef" {
		t.Error("the shared name is changed:", text)
	}
}

func TestAnsweredLeavesItsArguments(t *testing.T) {
	wantAnsweredApart(t, "nothing", nil, nil)
	for seed := range 400 {
		calls, deeds := mixedCalls(&steps{state: uint32(seed)})
		wantAnsweredApart(t, fmt.Sprint("seed ", seed), calls, deeds)
	}
}

// TestResultsOfTheWholeTakeNewMemory: the lists of results of a cluster.
func TestResultsOfTheWholeTakeNewMemory(t *testing.T) {
	nodes, lists := 0, 0
	for seed := range 120 {
		m := moodOf(seed + 500000)
		m.setup.Settle = seed%3 > 0
		script, _ := mixed(m, seed)
		r := impl.Run(m.setup, script)
		what := fmt.Sprint("seed ", seed)
		wantUnionApart(t, what, r.Shards)
		wantFollowApart(t, what, r.Deeds)
		wantAnsweredApart(t, what, r.Calls, r.Deeds)
		tree, _ := impl.Union(r.Shards)
		nodes += len(tree.Nodes)
		for _, d := range r.Deeds {
			lists += len(d.Reply.List)
		}
	}
	if nodes < 300 || lists < 30 {
		t.Error("too little lies in the results whose memory is looked at:", nodes, lists)
	}
}

// wild: numbers that nobody would ask with.
func (s *steps) wild() int {
	return []int{math.MinInt, -1, 0, 1, 2, 3, 4, 5, 11, impl.MaxNum, impl.MaxNum + 1, math.MaxInt}[s.below(12)]
}

func (s *steps) wildHandle() impl.Handle {
	if s.below(3) == 0 {
		return impl.Handle{Shard: s.wild(), Ino: s.wild(), Dir: s.below(2) == 0}
	}
	return impl.Handle{Shard: s.below(3), Ino: 1 + s.below(3), Dir: s.below(2) == 0}
}

func (s *steps) wildEntries() []impl.Entry {
	var l []impl.Entry
	for range s.below(4) {
		l = append(l, impl.Entry{Name: bytes.Repeat([]byte{byte(96 + s.below(30))}, s.below(9)), H: s.wildHandle()})
	}
	return l
}

func (s *steps) wildOp() impl.Op {
	return impl.Op{Kind: s.wild(), Dir: s.wildHandle(), Name: bytes.Repeat([]byte{byte(96 + s.below(30))}, s.below(9)), To: s.wildHandle(), As: bytes.Repeat([]byte{'a'}, s.below(3)), Val: s.wild()}
}

func (s *steps) wildReply() impl.Reply {
	return impl.Reply{Code: s.wild(), H: s.wildHandle(), Val: s.wild(), List: s.wildEntries()}
}

// TestWildArgumentsOfTheWhole: all of them are answered; where there is a tree it is one.
func TestWildArgumentsOfTheWhole(t *testing.T) {
	for seed := range 3000 {
		s := &steps{state: uint32(seed)}
		var shards []impl.Shard
		var deeds []impl.Deed
		var calls []impl.Call
		for range s.below(6) {
			sh := impl.Shard{Id: s.wild(), Boot: s.wild(), Next: s.wild()}
			for range s.below(4) {
				sh.Nodes = append(sh.Nodes, impl.Node{H: s.wildHandle(), Parent: s.wildHandle(), Links: s.wild(), Val: s.wild(), Entries: s.wildEntries()})
			}
			shards = append(shards, sh)
			deeds = append(deeds, impl.Deed{At: s.wild(), Client: s.wild(), Req: s.wild(), Op: s.wildOp(), Reply: s.wildReply()})
			calls = append(calls, impl.Call{Client: s.wild(), Req: s.wild(), Op: s.wildOp(), From: s.wild(), To: s.wild(), Reply: s.wildReply()})
		}
		if tree, ok := impl.Union(shards); ok != impl.TreeOk(tree) || !ok && len(tree.Nodes) > 0 {
			t.Fatalf("Union(%v) = %v, %t", shards, tree, ok)
		}
		p, at := planBehind(deeds)
		wantFollow(t, fmt.Sprint("seed ", seed), deeds, p.tree(), at)
		wantAnswered(t, fmt.Sprint("seed ", seed), calls, deeds, unanswered(calls, deeds) == "")
	}
	wantAnswered(t, "many of both", make([]impl.Call, 2000), make([]impl.Deed, 2000), true)
	l := slices.Repeat([]impl.Deed{deed(listOp(rootDir), impl.Reply{})}, 5000)
	wantFollow(t, "many deeds", l, impl.Root(), -1)
}
