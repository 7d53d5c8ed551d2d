package tests

import (
	"fmt"
	"slices"
	"strings"
	"testing"

	"loop.example/g00341/impl"
)

// doCase: an operation on a tree, what it answers, and the tree behind it.
type doCase struct {
	what  string
	on    plan
	op    impl.Op
	fresh impl.Handle
	reply impl.Reply
	then  plan
}

func refused(what string, on plan, op impl.Op, code int) doCase {
	return doCase{what, on, op, fresh, impl.Reply{Code: code}, on}
}

func answered(what string, on plan, op impl.Op, reply impl.Reply) doCase {
	return doCase{what, on, op, impl.Handle{}, reply, on}
}

func done(what string, on plan, op impl.Op, then plan) doCase {
	return doCase{what, on, op, impl.Handle{}, impl.Reply{}, then}
}

func made(what string, on plan, d impl.Handle, name string, h impl.Handle) doCase {
	return doCase{what, on, makeOp(d, name, h), h, impl.Reply{H: h}, on.with(d, name, h)}
}

func moved(what string, on plan, d impl.Handle, name string, to impl.Handle, as string) doCase {
	h, _ := on.find(d, name)
	return done(what, on, moveOp(d, name, to, as), on.without(d, name).with(to, as, h))
}

func wantDo(t *testing.T, c doCase) {
	t.Helper()
	start := c.on.tree()
	if !impl.TreeOk(start) {
		t.Fatalf("%s: it begins with no tree: %v", c.what, start)
	}
	got, reply := impl.Do(start, c.op, c.fresh)
	if !sameReply(reply, c.reply) {
		t.Errorf("%s: %v; want %v", c.what, reply, c.reply)
	}
	if want := c.then.tree(); !sameTree(got, want) {
		t.Errorf("%s: the tree %v; want %v", c.what, got, want)
	}
	if !impl.TreeOk(got) {
		t.Errorf("%s: what is left is no tree: %v", c.what, got)
	}
	if reply.Code == impl.RpWell {
		wantFound(t, c.what, got, c.op, c.fresh)
	}
}

// wantFound: promise 4, asked by the tree's own operations.
func wantFound(t *testing.T, what string, tree impl.Tree, op impl.Op, made impl.Handle) {
	t.Helper()
	look := func(d impl.Handle, name []byte) impl.Reply {
		_, r := impl.Do(tree, impl.Op{Kind: impl.OpLook, Dir: d, Name: name}, impl.Handle{})
		return r
	}
	switch op.Kind {
	case impl.OpMake:
		if r := look(op.Dir, op.Name); r.Code != impl.RpWell || r.H != made {
			t.Errorf("%s: what was made is not found: %v", what, r)
		}
	case impl.OpLink:
		if r := look(op.Dir, op.Name); r.Code != impl.RpWell || r.H != op.To {
			t.Errorf("%s: what was linked is not found: %v", what, r)
		}
	case impl.OpDrop:
		if r := look(op.Dir, op.Name); r.Code != impl.RpNoEnt || r.H != (impl.Handle{}) {
			t.Errorf("%s: what was dropped is found: %v", what, r)
		}
	case impl.OpMove:
		if r := look(op.To, op.As); r.Code != impl.RpWell {
			t.Errorf("%s: what was moved is not found: %v", what, r)
		}
		if r := look(op.Dir, op.Name); r.Code != impl.RpNoEnt {
			t.Errorf("%s: what was moved is found under its old name: %v", what, r)
		}
	case impl.OpWrite:
		if _, r := impl.Do(tree, readOp(op.Dir), impl.Handle{}); r.Code != impl.RpWell || r.Val != op.Val {
			t.Errorf("%s: what was written is not read: %v", what, r)
		}
	}
}

func listed(d impl.Handle, entries ...impl.Entry) doCase {
	return answered(fmt.Sprint("the list of ", d), sample(), listOp(d), impl.Reply{List: entries})
}

func entry(name string, h impl.Handle) impl.Entry { return impl.Entry{Name: []byte(name), H: h} }

func casesOfLooking() []doCase {
	s := sample()
	return []doCase{
		answered("look: a directory", s, lookOp(rootDir, "a"), impl.Reply{H: dirA}),
		answered("look: a file", s, lookOp(rootDir, "f"), impl.Reply{H: fileF}),
		answered("look: the last entry", s, lookOp(rootDir, "k"), impl.Reply{H: fileK}),
		answered("look: below the root", s, lookOp(dirA, "k"), impl.Reply{H: fileK}),
		answered("look: far below", s, lookOp(dirC, "e"), impl.Reply{H: dirE}),
		refused("look: another directory's name", s, lookOp(dirB, "a"), impl.RpNoEnt),
		refused("look: the beginning of a name", s.with(dirB, "ab", fresh), lookOp(dirB, "a"), impl.RpNoEnt),
		refused("look: more than a name", s, lookOp(rootDir, "aa"), impl.RpNoEnt),
		refused("look: in a file", s, lookOp(fileF, "a"), impl.RpNoDir),
		refused("look: in what there is not", s, lookOp(noDir, "a"), impl.RpStale),
		refused("look: where a file has the numbers", s, lookOp(turned(fileF), "a"), impl.RpStale),
		listed(rootDir, entry("a", dirA), entry("b", dirB), entry("f", fileF), entry("k", fileK)),
		listed(dirA, entry("c", dirC), entry("g", fileG), entry("k", fileK)),
		listed(dirB),
		listed(dirC, entry("e", dirE), entry("k", fileK)),
		refused("list: a file", s, listOp(fileF), impl.RpNoDir),
		refused("list: what there is not", s, listOp(noDir), impl.RpStale),
		refused("list: where a file has the numbers", s, listOp(turned(fileF)), impl.RpStale),
		answered("read: a file", s, readOp(fileF), impl.Reply{Val: 11}),
		answered("read: a file of Val 0", s, readOp(fileG), impl.Reply{}),
		answered("read: a file of Val MaxNum", s, readOp(fileK), impl.Reply{Val: impl.MaxNum}),
		refused("read: a directory", s, readOp(dirA), impl.RpIsDir),
		refused("read: what there is not", s, readOp(noOne), impl.RpStale),
		refused("read: where a directory has the numbers", s, readOp(turned(dirA)), impl.RpStale),
		done("write: a file", s, writeOp(fileG, 7), s.withVal(fileG, 7)),
		done("write: over another Val", s, writeOp(fileF, 12), s.withVal(fileF, 12)),
		done("write: 0", s, writeOp(fileF, 0), s.withVal(fileF, 0)),
		done("write: MaxNum", s, writeOp(fileF, impl.MaxNum), s.withVal(fileF, impl.MaxNum)),
		done("write: the same", s, writeOp(fileF, 11), s),
		refused("write: a directory", s, writeOp(dirA, 3), impl.RpIsDir),
		refused("write: the root, 0", s, writeOp(rootDir, 0), impl.RpIsDir),
		refused("write: what there is not", s, writeOp(noOne, 3), impl.RpStale),
		refused("write: where a directory has the numbers", s, writeOp(turned(dirB), 3), impl.RpStale),
	}
}

func casesOfMaking() []doCase {
	s := sample()
	all := []doCase{
		made("make: the first entry", s, dirB, "x", fresh),
		made("make: ahead of all", s, dirA, "a", newby),
		made("make: between", s, dirA, "h", fresh),
		made("make: behind all", s, dirA, "zzzzzz", newby),
		made("make: a longer name", s, rootDir, "aa", fresh),
		made("make: a shorter name", s.with(dirB, "ab", fileAt(0, 3)), dirB, "a", newby),
		made("make: the smallest handle", s, rootDir, "m", fileAt(0, 2)),
		made("make: the greatest handle", s, dirE, "m", dirAt(impl.MaxShards-1, impl.MaxNum)),
		made("make: the root's Ino elsewhere", s, dirE, "m", dirAt(3, 1)),
		made("make: another directory's name", s, dirB, "f", fresh),
		made("make: the last room", filled(s, dirB, impl.MaxEntries-1), dirB, "a", fresh),
		refused("make: over a file", s, makeOp(rootDir, "f", fresh), impl.RpExist),
		refused("make: over a directory", s, makeOp(rootDir, "a", fresh), impl.RpExist),
		refused("make: no room", filled(s, dirB, impl.MaxEntries), makeOp(dirB, "a", fresh), impl.RpFull),
		refused("make: in a file", s, makeOp(fileF, "m", fresh), impl.RpNoDir),
		refused("make: in what there is not", s, makeOp(noDir, "m", fresh), impl.RpStale),
		refused("make: where a file has the numbers", s, makeOp(turned(fileF), "m", fresh), impl.RpStale),
	}
	for shard := range impl.MaxShards {
		all = append(all, made("make: a file on each shard", s, dirA, "m", fileAt(shard, 99)), made("make: a directory on each shard", s, dirA, "m", dirAt(shard, 99)))
	}
	return all
}

func casesOfDropping() []doCase {
	s := sample()
	two, one := s.without(rootDir, "k"), s.without(rootDir, "k").without(dirC, "k")
	drop := func(what string, on plan, d impl.Handle, name string) doCase {
		return done("drop: "+what, on, dropOp(d, name), on.without(d, name))
	}
	return []doCase{
		drop("a file of one link", s, rootDir, "f"),
		drop("a file of one link, below", s, dirA, "g"),
		drop("one of three links", s, rootDir, "k"),
		drop("one of two links", two, dirC, "k"),
		drop("the last link", one, dirA, "k"),
		drop("an empty directory", s, rootDir, "b"),
		drop("an empty directory far below", s, dirC, "e"),
		drop("one of two links in one directory", s.with(rootDir, "ff", fileF), rootDir, "f"),
		drop("out of a full directory", filled(s, dirA, impl.MaxEntries), dirA, "g"),
		drop("the last node but the root", planOf(branch{rootDir, "f", fileF}), rootDir, "f"),
		refused("drop: a directory with entries", s, dropOp(rootDir, "a"), impl.RpNotEmpty),
		refused("drop: a directory with a directory", planOf(branch{rootDir, "a", dirA}, branch{dirA, "b", dirB}), dropOp(rootDir, "a"), impl.RpNotEmpty),
		refused("drop: no such entry", s, dropOp(rootDir, "g"), impl.RpNoEnt),
		refused("drop: in an empty directory", s, dropOp(dirB, "a"), impl.RpNoEnt),
		refused("drop: in a file", s, dropOp(fileF, "a"), impl.RpNoDir),
		refused("drop: in what there is not", s, dropOp(noDir, "a"), impl.RpStale),
		refused("drop: where a file has the numbers", s, dropOp(turned(fileF), "a"), impl.RpStale),
	}
}

func casesOfLinking() []doCase {
	s := sample()
	link := func(what string, on plan, d impl.Handle, name string, to impl.Handle) doCase {
		return done("link: "+what, on, linkOp(d, name, to), on.with(d, name, to))
	}
	return []doCase{
		link("a second one", s, dirB, "x", fileF),
		link("a fourth one", s, dirB, "k", fileK),
		link("in the same directory", s, rootDir, "ff", fileF),
		link("ahead of all", s, dirA, "a", fileF),
		link("behind all", s, dirA, "z", fileG),
		link("the last room", filled(s, dirB, impl.MaxEntries-1), dirB, "a", fileF),
		refused("link: over itself", s, linkOp(rootDir, "f", fileF), impl.RpExist),
		refused("link: over a directory", s, linkOp(rootDir, "a", fileF), impl.RpExist),
		refused("link: no room", filled(s, dirB, impl.MaxEntries), linkOp(dirB, "a", fileF), impl.RpFull),
		refused("link: to a directory", s, linkOp(dirB, "x", dirE), impl.RpIsDir),
		refused("link: to the root", s, linkOp(dirB, "x", rootDir), impl.RpIsDir),
		refused("link: to its own directory", s, linkOp(dirB, "x", dirB), impl.RpIsDir),
		refused("link: to what there is not", s, linkOp(dirB, "x", noOne), impl.RpStale),
		refused("link: to where a directory has the numbers", s, linkOp(dirB, "x", turned(dirE)), impl.RpStale),
		refused("link: in a file", s, linkOp(fileG, "x", fileF), impl.RpNoDir),
		refused("link: in what there is not", s, linkOp(noDir, "x", fileF), impl.RpStale),
		refused("link: where a file has the numbers", s, linkOp(turned(fileF), "x", fileF), impl.RpStale),
	}
}

func casesOfMoving() []doCase {
	s := sample()
	full, fullA := filled(s, dirB, impl.MaxEntries), filled(s, dirA, impl.MaxEntries)
	return []doCase{
		moved("move: a file", s, rootDir, "f", dirB, "x"),
		moved("move: a file down", s, rootDir, "f", dirE, "f"),
		moved("move: a file up", s, dirA, "g", rootDir, "g"),
		moved("move: one of three links", s, dirC, "k", dirB, "k"),
		moved("move: a link to where another is", s, dirC, "k", dirA, "kk"),
		moved("move: a directory", s, rootDir, "b", dirE, "x"),
		moved("move: a directory to the one above it", s, dirA, "c", rootDir, "c"),
		moved("move: an empty directory up", s, dirC, "e", dirA, "e"),
		moved("move: a directory to the side", s, dirA, "c", dirB, "c"),
		moved("move: out of a full directory", fullA, dirA, "c", dirB, "c"),
		moved("move: the last room", filled(s, dirB, impl.MaxEntries-1), dirA, "c", dirB, "a"),
		moved("move: a file, the last room", filled(s, dirB, impl.MaxEntries-1), dirA, "g", dirB, "z"),
		refused("move: over a file", s, moveOp(rootDir, "b", dirA, "g"), impl.RpExist),
		refused("move: over a directory", s, moveOp(rootDir, "f", dirA, "c"), impl.RpExist),
		refused("move: over another link of it", s, moveOp(rootDir, "k", dirA, "k"), impl.RpExist),
		refused("move: no room for a file", full, moveOp(rootDir, "f", dirB, "a"), impl.RpFull),
		refused("move: no room for a directory", full, moveOp(dirC, "e", dirB, "a"), impl.RpFull),
		refused("move: into itself", s, moveOp(rootDir, "b", dirB, "x"), impl.RpLoop),
		refused("move: into one in it", s, moveOp(rootDir, "a", dirC, "x"), impl.RpLoop),
		refused("move: into one far below it", s, moveOp(rootDir, "a", dirE, "x"), impl.RpLoop),
		refused("move: no such entry", s, moveOp(dirB, "a", rootDir, "x"), impl.RpNoEnt),
		refused("move: into a file", s, moveOp(rootDir, "a", fileG, "x"), impl.RpNoDir),
		refused("move: into what there is not", s, moveOp(rootDir, "a", noDir, "x"), impl.RpStale),
		refused("move: into where a file has the numbers", s, moveOp(rootDir, "a", turned(fileG), "x"), impl.RpStale),
		refused("move: out of a file", s, moveOp(fileF, "a", dirB, "x"), impl.RpNoDir),
		refused("move: out of what there is not", s, moveOp(noDir, "a", dirB, "x"), impl.RpStale),
		refused("move: out of where a file has the numbers", s, moveOp(turned(fileF), "a", dirB, "x"), impl.RpStale),
		moved("rename: a file", s, rootDir, "f", rootDir, "x"),
		moved("rename: to the front", s, rootDir, "k", rootDir, "aa"),
		moved("rename: to the end", s, rootDir, "a", rootDir, "z"),
		moved("rename: a directory below", s, dirA, "c", dirA, "zz"),
		moved("rename: a file in a full directory", fullA, dirA, "g", dirA, "a"),
		moved("rename: a directory in a full directory", fullA, dirA, "c", dirA, "zz"),
		moved("rename: the only entry", planOf(branch{rootDir, "f", fileF}), rootDir, "f", rootDir, "g"),
		moved("rename: one of two links", s.with(rootDir, "ff", fileF), rootDir, "f", rootDir, "e"),
		refused("rename: to its own name", s, moveOp(rootDir, "f", rootDir, "f"), impl.RpExist),
		refused("rename: a directory to its own name", s, moveOp(dirA, "c", dirA, "c"), impl.RpExist),
		refused("rename: to another's name", s, moveOp(rootDir, "a", rootDir, "b"), impl.RpExist),
		refused("rename: to its own name, all full", fullA, moveOp(dirA, "g", dirA, "g"), impl.RpExist),
		refused("rename: to another's name, all full", fullA, moveOp(dirA, "g", dirA, "c"), impl.RpExist),
	}
}

// casesOfWays: going up from To, with h or the root as the last one of the first MaxDeep, and one behind.
func casesOfWays() []doCase {
	var all []doCase
	for _, length := range []int{1, impl.MaxDeep - 2, impl.MaxDeep - 1, impl.MaxDeep, impl.MaxDeep + 1, 2 * impl.MaxDeep, 60} {
		p, way := chain(length)
		p = p.with(rootDir, "x", dirAt(2, 300)).with(rootDir, "f", fileF)
		what := fmt.Sprintf("a chain of %d: ", length)
		end := way[length]
		// From the chain's end on the root is the one behind length others.
		if length+1 <= impl.MaxDeep {
			all = append(all, moved(what+"another one into the end", p, rootDir, "x", end, "x"))
		} else {
			all = append(all, refused(what+"another one into the end", p, moveOp(rootDir, "x", end, "x"), impl.RpDeep))
		}
		// And d1 is the one behind length - 1 others.
		if length <= impl.MaxDeep {
			all = append(all, refused(what+"its first into its end", p, moveOp(rootDir, "d", end, "x"), impl.RpLoop))
		} else {
			all = append(all, refused(what+"its first into its end", p, moveOp(rootDir, "d", end, "x"), impl.RpDeep))
		}
		all = append(all, refused(what+"its end into itself", p, moveOp(way[length-1], "d", end, "x"), impl.RpLoop))
		all = append(all, moved(what+"a file into the end", p, rootDir, "f", end, "f"))
		all = append(all, moved(what+"within the one ahead of the end", p, way[length-1], "d", way[length-1], "y"))
		if length > 1 {
			all = append(all, moved(what+"the end up to the root", p, way[length-1], "d", rootDir, "y"))
		}
	}
	return all
}

func allCases() []doCase {
	return slices.Concat(casesOfLooking(), casesOfMaking(), casesOfDropping(), casesOfLinking(), casesOfMoving(), casesOfWays())
}

func TestOperations(t *testing.T) {
	for _, c := range allCases() {
		wantDo(t, c)
	}
}

func TestAMovedDirectoryHasAnotherParent(t *testing.T) {
	tree, r := impl.Do(sample().tree(), moveOp(dirA, "c", dirB, "c"), impl.Handle{})
	if r.Code != impl.RpWell {
		t.Fatal(r)
	}
	changed(tree, dirC, func(n *impl.Node) {
		if n.Parent != dirB || len(n.Entries) != 2 || n.Links != 1 {
			t.Error(n)
		}
	})
	tree, r = impl.Do(tree, moveOp(dirB, "c", dirB, "d"), impl.Handle{})
	changed(tree, dirC, func(n *impl.Node) {
		if r.Code != impl.RpWell || n.Parent != dirB {
			t.Error(r, n)
		}
	})
	// Where it lay it may go again; what lies in it goes with it.
	tree, r = impl.Do(tree, moveOp(dirB, "d", dirA, "c"), impl.Handle{})
	if r.Code != impl.RpWell || !sameTree(tree, sample().tree()) {
		t.Error(r, tree)
	}
}

func TestLinksGoUpAndDown(t *testing.T) {
	tree := planOf(branch{rootDir, "f", fileF}, branch{rootDir, "b", dirB}).withVal(fileF, 3).tree()
	step := func(op impl.Op, links int) {
		t.Helper()
		next, r := impl.Do(tree, op, impl.Handle{})
		if r.Code != impl.RpWell || !impl.TreeOk(next) {
			t.Fatal(op, r, next)
		}
		tree = next
		_, r = impl.Do(tree, readOp(fileF), impl.Handle{})
		if links == 0 {
			if r.Code != impl.RpStale || len(tree.Nodes) != 2 {
				t.Fatal(op, r, tree)
			}
			return
		}
		changed(tree, fileF, func(n *impl.Node) {
			if n.Links != links || r.Code != impl.RpWell || r.Val != 3 {
				t.Fatal(op, n, r)
			}
		})
	}
	step(linkOp(dirB, "g", fileF), 2)
	step(linkOp(dirB, "h", fileF), 3)
	step(moveOp(dirB, "g", rootDir, "g"), 3)
	step(dropOp(rootDir, "f"), 2)
	step(dropOp(dirB, "h"), 1)
	step(linkOp(rootDir, "f", fileF), 2)
	step(dropOp(rootDir, "g"), 1)
	step(dropOp(rootDir, "f"), 0)
}

func TestTheOrderOfTheCodes(t *testing.T) {
	s := sample()
	fullB, fullRoot := filled(s, dirB, impl.MaxEntries), filled(s, rootDir, impl.MaxEntries)
	fullC := filled(s, dirC, impl.MaxEntries)
	long, way := chain(impl.MaxDeep + 3)
	long = long.with(rootDir, "x", dirAt(2, 300))
	end := way[len(way)-1]
	last := way[impl.MaxDeep]
	for _, c := range []doCase{
		refused("read: a directory's, not there", s, readOp(noDir), impl.RpIsDir),
		refused("write: a directory's, not there", s, writeOp(noDir, 1), impl.RpIsDir),
		refused("list: a file's, not there", s, listOp(noOne), impl.RpNoDir),
		refused("look: a file's, not there", s, lookOp(noOne, "a"), impl.RpNoDir),
		refused("look: not there, no entry", s, lookOp(noDir, "zz"), impl.RpStale),
		refused("look: a file, no entry", s, lookOp(fileF, "zz"), impl.RpNoDir),
		refused("drop: a file's, not there", s, dropOp(noOne, "a"), impl.RpNoDir),
		refused("drop: not there, no entry", s, dropOp(noDir, "zz"), impl.RpStale),
		refused("drop: not there, another's entry not empty", s, dropOp(noDir, "a"), impl.RpStale),
		refused("drop: no entry, another directory's not empty", s, dropOp(dirB, "a"), impl.RpNoEnt),
		refused("make: a file's, not there", s, makeOp(noOne, "m", fresh), impl.RpNoDir),
		refused("make: not there, a name that the root has", s, makeOp(noDir, "a", fresh), impl.RpStale),
		refused("make: over an entry, full", fullRoot, makeOp(rootDir, "f", fresh), impl.RpExist),
		refused("link: a file's, not there", s, linkOp(noOne, "m", fileF), impl.RpNoDir),
		refused("link: not there, a name that the root has", s, linkOp(noDir, "a", fileF), impl.RpStale),
		refused("link: not there, to a directory", s, linkOp(noDir, "m", dirA), impl.RpStale),
		refused("link: in a file, to a directory", s, linkOp(fileF, "m", dirA), impl.RpNoDir),
		refused("link: in a file, to what there is not", s, linkOp(fileF, "m", noOne), impl.RpNoDir),
		refused("link: over an entry, full", fullRoot, linkOp(rootDir, "f", fileG), impl.RpExist),
		refused("link: over an entry, to a directory", s, linkOp(rootDir, "f", dirA), impl.RpExist),
		refused("link: over an entry, to what there is not", s, linkOp(rootDir, "f", noOne), impl.RpExist),
		refused("link: full, to a directory", fullB, linkOp(dirB, "a", dirA), impl.RpFull),
		refused("link: full, to what there is not", fullB, linkOp(dirB, "a", noOne), impl.RpFull),
		refused("link: to a directory that there is not", s, linkOp(dirB, "a", noDir), impl.RpIsDir),
		refused("move: a file's, not there", s, moveOp(noOne, "a", dirB, "x"), impl.RpNoDir),
		refused("move: not there, no entry", s, moveOp(noDir, "zz", dirB, "x"), impl.RpStale),
		refused("move: not there, to a file", s, moveOp(noDir, "a", fileF, "x"), impl.RpStale),
		refused("move: of a file, to what there is not", s, moveOp(fileF, "a", noDir, "x"), impl.RpNoDir),
		refused("move: no entry, to a file", s, moveOp(rootDir, "zz", fileF, "x"), impl.RpNoEnt),
		refused("move: no entry, to what there is not", s, moveOp(rootDir, "zz", noDir, "x"), impl.RpNoEnt),
		refused("move: no entry, over an entry", s, moveOp(rootDir, "zz", dirA, "c"), impl.RpNoEnt),
		refused("move: no entry, within a directory, over an entry", s, moveOp(rootDir, "zz", rootDir, "f"), impl.RpNoEnt),
		refused("move: no entry, full", fullB, moveOp(rootDir, "zz", dirB, "x"), impl.RpNoEnt),
		refused("move: to a file that there is not", s, moveOp(rootDir, "a", noOne, "x"), impl.RpNoDir),
		refused("move: to what there is not, a name that the root has", s, moveOp(rootDir, "a", noDir, "f"), impl.RpStale),
		refused("move: over an entry, full", fullB, moveOp(rootDir, "f", dirB, "paa"), impl.RpExist),
		refused("move: over an entry, into itself", s, moveOp(rootDir, "a", dirA, "c"), impl.RpExist),
		refused("move: over an entry, into one below", s, moveOp(rootDir, "a", dirC, "e"), impl.RpExist),
		refused("move: full, into itself", fullB, moveOp(rootDir, "b", dirB, "x"), impl.RpFull),
		refused("move: full, into one below", fullC, moveOp(rootDir, "a", dirC, "x"), impl.RpFull),
		refused("move: over an entry, too deep", long.with(end, "y", fileF), moveOp(rootDir, "x", end, "y"), impl.RpExist),
		refused("move: full, too deep", filled(long, end, impl.MaxEntries), moveOp(rootDir, "x", end, "y"), impl.RpFull),
		refused("move: into one below, too deep for the root", long, moveOp(rootDir, "d", last, "y"), impl.RpLoop),
		refused("move: into one below, too deep for both", long, moveOp(rootDir, "d", way[impl.MaxDeep+1], "y"), impl.RpDeep),
		refused("move: full, too deep, into one below", filled(long, end, impl.MaxEntries), moveOp(rootDir, "d", end, "y"), impl.RpFull),
	} {
		wantDo(t, c)
	}
}

// wantBad: RpBad, with the tree handed back.
func wantBad(t *testing.T, what string, p plan, op impl.Op, fresh impl.Handle) {
	t.Helper()
	wantDo(t, doCase{what, p, op, fresh, impl.Reply{Code: impl.RpBad}, p})
}

func TestFreshHandlesThatAreWrong(t *testing.T) {
	s := sample()
	wrong := map[string]impl.Handle{
		"no handle":                 {},
		"Ino 0":                     fileAt(1, 0),
		"Ino below 0":               fileAt(1, -1),
		"Ino MaxNum + 1":            fileAt(1, impl.MaxNum+1),
		"a Shard below":             fileAt(0, 50),
		"a Shard above":             fileAt(2, 50),
		"Shard -1":                  fileAt(-1, 50),
		"Shard MaxShards":           fileAt(impl.MaxShards, 50),
		"a directory's":             dirAt(1, 50),
		"a node's":                  fileAt(1, 20),
		"a node's, a directory's":   turned(dirA),
		"a directory's, a node has": dirA,
	}
	s = s.with(dirB, "old", fileAt(1, 20))
	// Each other reason applies beside it; the handle counts first.
	for what, h := range wrong {
		for _, op := range []impl.Op{makeOp(dirB, "m", fresh), makeOp(rootDir, "a", fresh), makeOp(fileF, "m", fresh), makeOp(noDir, "m", fresh), makeOp(noOne, "m", fresh)} {
			wantBad(t, "fresh is "+what, s, op, h)
		}
		wantBad(t, "full; fresh is "+what, filled(s, dirB, impl.MaxEntries), makeOp(dirB, "m", fresh), h)
	}
	for what, h := range map[string]impl.Handle{"a file's": fileAt(1, 50), "a node's": dirA, "a node's, a file's": dirAt(1, 20), "the root's": rootDir} {
		wantBad(t, "of a directory: fresh is "+what, s, makeOp(dirB, "m", newby), h)
	}
	wantBad(t, "the root again", s, makeOp(dirB, "m", rootDir), rootDir)
	wantBad(t, "the root's numbers", s, makeOp(dirB, "m", fileAt(0, 1)), fileAt(0, 1))
	wantDo(t, made("numbers of another shard's node", s, dirB, "m", fileAt(1, 9)))
	// What went may come again.
	gone := s.without(rootDir, "f").withVal(fileF, 0)
	wantDo(t, made("numbers of a node that went", gone, rootDir, "f", fileF))
}

func TestAsManyNodesAsMayBe(t *testing.T) {
	most, fewer := crowd(mostNodes), crowd(mostNodes-1)
	free := fileAt(1, 5000)
	if len(most.tree().Nodes) != mostNodes || len(fewer.tree().Nodes) != mostNodes-1 {
		t.Fatal(len(most.tree().Nodes), len(fewer.tree().Nodes))
	}
	d := dirAt(3, 4)
	for _, dir := range most.handles() {
		if dir.Dir && len(most.entries(dir)) == 0 {
			d = dir
		}
	}
	for _, h := range []impl.Handle{free, turned(free)} {
		wantDo(t, made("one node fewer", fewer, d, "m", h))
		wantBad(t, "all nodes", most, makeOp(d, "m", h), h)
		wantBad(t, "all nodes, in a file", most, makeOp(free, "m", h), h)
		wantBad(t, "all nodes, in what there is not", most, makeOp(dirAt(0, 5000), "m", h), h)
		wantBad(t, "all nodes, over an entry", most, makeOp(rootDir, letters(1), h), h)
	}
	file, _ := most.find(rootDir, letters(2))
	wantDo(t, done("a link with all nodes", most, linkOp(d, "m", file), most.with(d, "m", file)))
	wantDo(t, moved("a move with all nodes", most, rootDir, letters(2), d, "m"))
	wantDo(t, done("a drop with all nodes", most, dropOp(rootDir, letters(2)), most.without(rootDir, letters(2))))
}

func TestFreshPlaysNoPartInTheOthers(t *testing.T) {
	for _, c := range allCases() {
		if c.op.Kind == impl.OpMake {
			continue
		}
		for _, h := range []impl.Handle{{}, fresh, newby, rootDir, fileK, dirAt(-1, -1), fileAt(impl.MaxShards, impl.MaxNum+1)} {
			c.fresh = h
			wantDo(t, c)
		}
	}
}

func TestWrongOperationsOnWrongTrees(t *testing.T) {
	for _, tree := range []impl.Tree{{}, sample().tree()} {
		for _, op := range []impl.Op{{}, {Kind: -1, Dir: rootDir}, {Kind: impl.OpMake, Dir: rootDir}} {
			for _, h := range []impl.Handle{{}, fresh} {
				if got, r := impl.Do(tree, op, h); len(got.Nodes) != 0 || !sameReply(r, impl.Reply{Code: impl.RpBad}) {
					t.Errorf("Do(%v, %v, %v) = %v, %v", tree, op, h, got, r)
				}
			}
		}
	}
}

func (p plan) there(h impl.Handle) bool { return slices.Contains(p.handles(), h) }

func (p plan) no(code int) (plan, impl.Reply) { return p, impl.Reply{Code: code} }

// do: the chapter's operations over branches. It answers the plan behind the operation.
func (p plan) do(op impl.Op, fresh impl.Handle) (plan, impl.Reply) {
	if op.Kind == impl.OpMake {
		asked := impl.Handle{Shard: op.To.Shard, Ino: fresh.Ino, Dir: op.To.Dir}
		if !impl.HandleOk(fresh) || fresh != asked || p.there(fresh) || p.there(turned(fresh)) || len(p.handles()) == mostNodes {
			return p.no(impl.RpBad)
		}
	}
	ofFile := op.Kind == impl.OpRead || op.Kind == impl.OpWrite
	if ofFile && op.Dir.Dir {
		return p.no(impl.RpIsDir)
	}
	if !ofFile && !op.Dir.Dir {
		return p.no(impl.RpNoDir)
	}
	if !p.there(op.Dir) {
		return p.no(impl.RpStale)
	}
	switch op.Kind {
	case impl.OpList:
		return p, impl.Reply{List: p.entries(op.Dir)}
	case impl.OpRead:
		return p, impl.Reply{Val: p.vals[op.Dir]}
	case impl.OpWrite:
		return p.withVal(op.Dir, op.Val), impl.Reply{}
	case impl.OpMake, impl.OpLink:
		return p.doNew(op, fresh)
	}
	h, has := p.find(op.Dir, string(op.Name))
	if !has {
		return p.no(impl.RpNoEnt)
	}
	switch op.Kind {
	case impl.OpLook:
		return p, impl.Reply{H: h}
	case impl.OpDrop:
		if len(p.entries(h)) > 0 {
			return p.no(impl.RpNotEmpty)
		}
		return p.without(op.Dir, string(op.Name)), impl.Reply{}
	}
	return p.doMove(op, h)
}

func (p plan) doNew(op impl.Op, fresh impl.Handle) (plan, impl.Reply) {
	if _, has := p.find(op.Dir, string(op.Name)); has {
		return p.no(impl.RpExist)
	}
	if len(p.entries(op.Dir)) == impl.MaxEntries {
		return p.no(impl.RpFull)
	}
	if op.Kind == impl.OpMake {
		return p.with(op.Dir, string(op.Name), fresh).withVal(fresh, 0), impl.Reply{H: fresh}
	}
	if op.To.Dir {
		return p.no(impl.RpIsDir)
	}
	if !p.there(op.To) {
		return p.no(impl.RpStale)
	}
	return p.with(op.Dir, string(op.Name), op.To), impl.Reply{}
}

func (p plan) doMove(op impl.Op, h impl.Handle) (plan, impl.Reply) {
	if !op.To.Dir {
		return p.no(impl.RpNoDir)
	}
	if !p.there(op.To) {
		return p.no(impl.RpStale)
	}
	if _, over := p.find(op.To, string(op.As)); over {
		return p.no(impl.RpExist)
	}
	if op.To != op.Dir {
		if len(p.entries(op.To)) == impl.MaxEntries {
			return p.no(impl.RpFull)
		}
		above := []impl.Handle{op.To}
		for len(above) < impl.MaxDeep {
			above = append(above, p.parent(above[len(above)-1]))
		}
		if h.Dir && slices.Contains(above, h) {
			return p.no(impl.RpLoop)
		}
		if h.Dir && !slices.Contains(above, rootDir) {
			return p.no(impl.RpDeep)
		}
	}
	return p.without(op.Dir, string(op.Name)).with(op.To, string(op.As), h), impl.Reply{}
}

// mixedHandle: mostly one of the plan, the later ones more often; sometimes one that there is not, or of the other kind.
func mixedHandle(s *steps, p plan) impl.Handle {
	all := p.handles()
	switch s.below(12) {
	case 0:
		return impl.Handle{Shard: s.below(impl.MaxShards), Ino: 1 + s.below(40), Dir: s.below(2) == 0}
	case 1:
		return turned(all[s.below(len(all))])
	case 2, 3, 4:
		return all[max(0, len(all)-1-s.below(3))]
	}
	return all[s.below(len(all))]
}

// mixedDir: as mixedHandle, but mostly a directory's.
func mixedDir(s *steps, p plan) impl.Handle {
	h := mixedHandle(s, p)
	for i := 0; i < 2 && !h.Dir; i++ {
		h = mixedHandle(s, p)
	}
	if s.below(4) == 0 {
		// One that is asked for often comes to be full.
		return rootDir
	}
	return h
}

func mixedOp(s *steps, p plan, names int) (impl.Op, impl.Handle) {
	name := func() string { return strings.Repeat(string(rune('a'+s.below(names))), 1+s.below(2)) }
	d, h := mixedDir(s, p), mixedHandle(s, p)
	made := impl.Handle{Shard: s.below(impl.MaxShards), Ino: 1 + s.below(100), Dir: s.below(5) < 3}
	// An entry that there is makes most operations mean something.
	b := branch{d, name(), h}
	if len(p.branches) > 0 && s.below(4) > 0 {
		b = p.branches[s.below(len(p.branches))]
	}
	switch s.below(16) {
	case 0:
		return lookOp(b.in, b.name), made
	case 1:
		return listOp(d), made
	case 2:
		return readOp(h), made
	case 3:
		return writeOp(h, s.below(1000)), made
	case 4, 5, 6, 7, 8, 9:
		return makeOp(d, name(), made), made
	case 10:
		return dropOp(b.in, b.name), made
	case 11, 12:
		return linkOp(d, name(), h), made
	case 13:
		return moveOp(b.in, b.name, b.in, name()), made
	}
	return moveOp(b.in, b.name, d, name()), made
}

func TestLongMixedUseOfATree(t *testing.T) {
	met := map[[2]int]int{}
	for round := range 10 {
		s := &steps{state: uint32(round)}
		p, _ := chain(2 * round)
		names, tree := 3+round, p.tree()
		for step := range 500 {
			op, h := mixedOp(s, p, names)
			next, want := p.do(op, h)
			got, reply := impl.Do(tree, op, h)
			if !sameReply(reply, want) || !sameTree(got, next.tree()) || !impl.TreeOk(got) {
				t.Fatalf("round %d, step %d: Do(%v, %v, %v) = %v, %v; want %v, %v", round, step, tree, op, h, got, reply, next.tree(), want)
			}
			met[[2]int{op.Kind, reply.Code}]++
			if reply.Code == impl.RpWell {
				wantFound(t, fmt.Sprintf("round %d, step %d: %v", round, step, op), got, op, h)
			}
			tree, p = got, next
		}
	}
	for kind, codes := range [][]int{
		impl.OpLook:  {impl.RpWell, impl.RpNoDir, impl.RpStale, impl.RpNoEnt},
		impl.OpList:  {impl.RpWell, impl.RpNoDir, impl.RpStale},
		impl.OpRead:  {impl.RpWell, impl.RpIsDir, impl.RpStale},
		impl.OpWrite: {impl.RpWell, impl.RpIsDir, impl.RpStale},
		impl.OpMake:  {impl.RpWell, impl.RpBad, impl.RpNoDir, impl.RpStale, impl.RpExist, impl.RpFull},
		impl.OpDrop:  {impl.RpWell, impl.RpNoDir, impl.RpStale, impl.RpNoEnt, impl.RpNotEmpty},
		impl.OpLink:  {impl.RpWell, impl.RpNoDir, impl.RpStale, impl.RpExist, impl.RpFull, impl.RpIsDir},
		impl.OpMove:  {impl.RpWell, impl.RpNoDir, impl.RpStale, impl.RpNoEnt, impl.RpExist, impl.RpFull, impl.RpLoop, impl.RpDeep},
	} {
		for _, code := range codes {
			if met[[2]int{kind, code}] == 0 {
				t.Errorf("the mixed use never came to kind %d, code %d", kind, code)
			}
		}
	}
}
