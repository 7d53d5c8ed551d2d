package tests

import (
	"bytes"
	"slices"
	"testing"

	"loop.example/g00341/impl"
)

// treeAnswer: all that Do hands out, so that one comparison holds for all of it.
type treeAnswer struct {
	tree  impl.Tree
	reply impl.Reply
}

func copyEntries(entries []impl.Entry) []impl.Entry {
	var out []impl.Entry
	for _, e := range entries {
		out = append(out, impl.Entry{Name: bytes.Clone(e.Name), H: e.H})
	}
	return out
}

func copyTree(t impl.Tree) impl.Tree {
	out := impl.Tree{}
	for _, n := range t.Nodes {
		n.Entries = copyEntries(n.Entries)
		out.Nodes = append(out.Nodes, n)
	}
	return out
}

func copyTreeAnswer(a treeAnswer) treeAnswer {
	out := treeAnswer{copyTree(a.tree), a.reply}
	out.reply.List = copyEntries(a.reply.List)
	return out
}

func sameTreeAnswer(a, b treeAnswer) bool {
	return sameTree(a.tree, b.tree) && sameReply(a.reply, b.reply)
}

func roomyEntries(entries []impl.Entry) []impl.Entry {
	spare, _ := roomy([]byte("s"))
	out := slices.Repeat([]impl.Entry{{Name: spare, H: fileK}}, len(entries)+3)[:len(entries)]
	for i, e := range entries {
		name, _ := roomy(e.Name)
		out[i] = impl.Entry{Name: name, H: e.H}
	}
	return out
}

// roomyTree: t with spare room behind each of its lists, which holds nodes and entries that could be there.
func roomyTree(t impl.Tree) impl.Tree {
	out := impl.Tree{Nodes: slices.Repeat([]impl.Node{{H: fileAt(3, 9999), Links: 1}}, len(t.Nodes)+3)[:len(t.Nodes)]}
	for i, n := range t.Nodes {
		n.Entries = roomyEntries(n.Entries)
		out.Nodes[i] = n
	}
	return out
}

// wholeTree: a copy of all memory of t, the spare room too.
func wholeTree(t impl.Tree) impl.Tree {
	out := impl.Tree{}
	for _, n := range t.Nodes[:cap(t.Nodes)] {
		n.Entries = wholeEntries(n.Entries)
		out.Nodes = append(out.Nodes, n)
	}
	return out
}

func wholeEntries(entries []impl.Entry) []impl.Entry {
	var out []impl.Entry
	for _, e := range entries[:cap(entries)] {
		out = append(out, impl.Entry{Name: bytes.Clone(e.Name[:cap(e.Name)]), H: e.H})
	}
	return out
}

func spoilEntries(entries []impl.Entry) {
	entries = entries[:cap(entries)]
	for i, e := range entries {
		spoil(e.Name)
		entries[i] = impl.Entry{H: dirAt(-7, -7)}
	}
}

func spoilTree(t impl.Tree) {
	nodes := t.Nodes[:cap(t.Nodes)]
	for i, n := range nodes {
		spoilEntries(n.Entries)
		nodes[i] = impl.Node{Links: -7}
	}
}

// listsOf: each list of entries of an answer, and each name.
func listsOf(a treeAnswer) (lists [][]impl.Entry, names [][]byte) {
	lists = append(lists, a.reply.List)
	for _, n := range a.tree.Nodes {
		lists = append(lists, n.Entries)
	}
	for _, l := range lists {
		for _, e := range l {
			names = append(names, e.Name)
		}
	}
	return lists, names
}

// wantOwnEntries: no two lists of an answer share memory: what is written into one stays, whatever goes into the others.
func wantOwnEntries(t *testing.T, what string, a treeAnswer) {
	t.Helper()
	lists, names := listsOf(a)
	for i, name := range names {
		for k := range name[:cap(name)] {
			name[:cap(name)][k] = byte(i)
		}
	}
	for i, name := range names {
		for _, c := range name[:cap(name)] {
			if c != byte(i) {
				t.Fatalf("%s: two names of the answer share memory", what)
			}
		}
	}
	for i, l := range lists {
		for k := range l[:cap(l)] {
			l[:cap(l)][k].H = dirAt(i, k)
		}
	}
	for i, l := range lists {
		for k, e := range l[:cap(l)] {
			if e.H != dirAt(i, k) {
				t.Fatalf("%s: two lists of entries of the answer share memory", what)
			}
		}
	}
}

// wantDoApart: Do changes no memory of its arguments, nor does writing into the answer; writing into them changes no answer.
func wantDoApart(t *testing.T, what string, tree impl.Tree, op impl.Op, h impl.Handle) {
	t.Helper()
	tree = roomyTree(tree)
	var name, as []byte
	op.Name, name = roomy(op.Name)
	op.As, as = roomy(op.As)
	whole, wholeName, wholeAs := wholeTree(tree), bytes.Clone(name), bytes.Clone(as)
	same := func(when string) {
		t.Helper()
		if !sameTree(wholeTree(tree), whole) || !bytes.Equal(name, wholeName) || !bytes.Equal(as, wholeAs) {
			t.Fatalf("%s: an argument is changed %s", what, when)
		}
	}
	ask := func() treeAnswer {
		left, reply := impl.Do(tree, op, h)
		return treeAnswer{left, reply}
	}
	ok := impl.TreeOk(tree)
	impl.OpOk(op)
	first := ask()
	same("by the call")
	want := copyTreeAnswer(first)
	second, third := ask(), ask()
	wantOwnEntries(t, what, third)
	same("through lists of the answer")
	spoilTree(first.tree)
	spoilEntries(first.reply.List)
	same("through the answer")
	if !sameTreeAnswer(second, want) || impl.TreeOk(tree) != ok {
		t.Fatalf("%s: two answers share memory", what)
	}
	spoilTree(tree)
	spoil(name)
	spoil(as)
	if !sameTreeAnswer(second, want) {
		t.Fatalf("%s: the answer shares memory with an argument", what)
	}
}

func TestTreesTakeNewMemory(t *testing.T) {
	for _, c := range allCases() {
		wantDoApart(t, c.what, c.on.tree(), c.op, c.fresh)
	}
	wantDoApart(t, "a fresh handle that is wrong", sample().tree(), makeOp(dirA, "m", fresh), dirA)
	wantDoApart(t, "all nodes", crowd(mostNodes).tree(), makeOp(rootDir, "m", fresh), fresh)
	wantDoApart(t, "no operation", sample().tree(), moveOp(dirA, "c", dirB, ""), impl.Handle{})
	for what, tree := range treesThatAreNotOk() {
		wantDoApart(t, what, tree, makeOp(dirA, "m", fresh), fresh)
	}
}

// A tree whose lists share memory is the same value as one whose lists don't.
func TestListsOfATreeThatShareMemory(t *testing.T) {
	all := []impl.Entry{entry("a", dirA), entry("b", dirB), entry("c", fileF)}
	name := []byte("abc")
	all[0].Name, all[1].Name, all[2].Name = name[:1], name[1:2], name[2:]
	tree := impl.Tree{Nodes: []impl.Node{
		{H: rootDir, Parent: rootDir, Links: 1, Entries: all[:2]},
		{H: fileF, Links: 1},
		{H: dirA, Parent: rootDir, Links: 1, Entries: all[2:]},
		{H: dirB, Parent: rootDir, Links: 1, Entries: all[3:]},
	}}
	p := planOf(branch{rootDir, "a", dirA}, branch{rootDir, "b", dirB}, branch{dirA, "c", fileF})
	if !sameTree(tree, p.tree()) {
		t.Fatal(tree)
	}
	for _, c := range []doCase{
		made("make", p, rootDir, "x", fresh),
		moved("move", p, dirA, "c", rootDir, "a"+string(name[2:])),
		moved("rename", p, rootDir, "a", rootDir, "c"),
		done("drop", p, dropOp(rootDir, "b"), p.without(rootDir, "b")),
		done("link", p, linkOp(rootDir, "c", fileF), p.with(rootDir, "c", fileF)),
	} {
		got, r := impl.Do(tree, c.op, c.fresh)
		if !sameReply(r, c.reply) || !sameTree(got, c.then.tree()) || !sameTree(tree, p.tree()) {
			t.Errorf("%s: %v, %v; want %v", c.what, r, got, c.then.tree())
		}
	}
	// The names of the operation may lie in the tree's own memory.
	op := moveOp(rootDir, "", dirB, "")
	op.Name, op.As = all[0].Name, all[1].Name
	got, r := impl.Do(tree, op, impl.Handle{})
	if want := p.without(rootDir, "a").with(dirB, "b", dirA).tree(); r.Code != impl.RpWell || !sameTree(got, want) {
		t.Errorf("%v, %v; want %v", r, got, want)
	}
}

func TestSpareRoomOfATreeIsNotThere(t *testing.T) {
	tree := roomyTree(sample().tree())
	if !impl.TreeOk(tree) {
		t.Fatal("spare room spoils a tree")
	}
	for _, op := range []impl.Op{readOp(fileAt(3, 9999)), listOp(dirAt(3, 9999))} {
		if _, r := impl.Do(tree, op, impl.Handle{}); r.Code != impl.RpStale {
			t.Errorf("%v: %v", op, r)
		}
	}
	if _, r := impl.Do(tree, lookOp(rootDir, "s"), impl.Handle{}); r.Code != impl.RpNoEnt {
		t.Error(r)
	}
	if left, r := impl.Do(tree, makeOp(dirB, "s", fileAt(3, 9999)), fileAt(3, 9999)); r.Code != impl.RpWell || !impl.TreeOk(left) {
		t.Error(r, left)
	}
	// With the node behind the length it would be a tree.
	short := planOf(branch{rootDir, "f", fileF}).tree()
	short.Nodes = short.Nodes[:1]
	if impl.TreeOk(short) {
		t.Error("a node in the spare room is taken")
	}
}

func TestTheSameAnswerEachTime(t *testing.T) {
	tree := crowd(mostNodes).tree()
	first, _ := impl.Do(tree, listOp(rootDir), impl.Handle{})
	for range 50 {
		if again, _ := impl.Do(tree, listOp(rootDir), impl.Handle{}); !sameTree(again, first) {
			t.Fatal("another order at another time")
		}
	}
}
