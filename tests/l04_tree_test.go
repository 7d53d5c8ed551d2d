package tests

import (
	"bytes"
	"fmt"
	"math"
	"slices"
	"sort"
	"strings"
	"testing"

	"loop.example/g00341/impl"
)

const mostNodes = impl.MaxShards * impl.MaxNodes

var rootDir = impl.Handle{Shard: 0, Ino: 1, Dir: true}

func dirAt(shard, ino int) impl.Handle { return impl.Handle{Shard: shard, Ino: ino, Dir: true} }

func fileAt(shard, ino int) impl.Handle { return impl.Handle{Shard: shard, Ino: ino} }

func turned(h impl.Handle) impl.Handle {
	h.Dir = !h.Dir
	return h
}

func lookOp(d impl.Handle, name string) impl.Op {
	return impl.Op{Kind: impl.OpLook, Dir: d, Name: []byte(name)}
}

func listOp(d impl.Handle) impl.Op { return impl.Op{Kind: impl.OpList, Dir: d} }

func readOp(f impl.Handle) impl.Op { return impl.Op{Kind: impl.OpRead, Dir: f} }

func writeOp(f impl.Handle, val int) impl.Op {
	return impl.Op{Kind: impl.OpWrite, Dir: f, Val: val}
}

// makeOp asks for a node of the shard and kind of h.
func makeOp(d impl.Handle, name string, h impl.Handle) impl.Op {
	return impl.Op{Kind: impl.OpMake, Dir: d, Name: []byte(name), To: impl.Handle{Shard: h.Shard, Dir: h.Dir}}
}

func dropOp(d impl.Handle, name string) impl.Op {
	return impl.Op{Kind: impl.OpDrop, Dir: d, Name: []byte(name)}
}

func linkOp(d impl.Handle, name string, to impl.Handle) impl.Op {
	return impl.Op{Kind: impl.OpLink, Dir: d, Name: []byte(name), To: to}
}

func moveOp(d impl.Handle, name string, to impl.Handle, as string) impl.Op {
	return impl.Op{Kind: impl.OpMove, Dir: d, Name: []byte(name), To: to, As: []byte(as)}
}

// branch: an entry, and the directory that it lies in.
type branch struct {
	in   impl.Handle
	name string
	h    impl.Handle
}

// plan: a tree as its branches alone; nodes, Parents and Links follow from them.
type plan struct {
	branches []branch
	vals     map[impl.Handle]int
}

func planOf(branches ...branch) plan {
	return plan{branches: branches, vals: map[impl.Handle]int{}}
}

func (p plan) with(in impl.Handle, name string, h impl.Handle) plan {
	return plan{append(slices.Clone(p.branches), branch{in, name, h}), p.vals}
}

func (p plan) without(in impl.Handle, name string) plan {
	out := plan{vals: p.vals}
	for _, b := range p.branches {
		if b.in != in || b.name != name {
			out.branches = append(out.branches, b)
		}
	}
	return out
}

func (p plan) withVal(f impl.Handle, val int) plan {
	out := plan{slices.Clone(p.branches), map[impl.Handle]int{f: val}}
	for h, v := range p.vals {
		if h != f {
			out.vals[h] = v
		}
	}
	return out
}

// handles: the root, and each node once, as it is met first.
func (p plan) handles() []impl.Handle {
	all := []impl.Handle{rootDir}
	for _, b := range p.branches {
		if !slices.Contains(all, b.h) {
			all = append(all, b.h)
		}
	}
	return all
}

func (p plan) entries(d impl.Handle) []impl.Entry {
	var all []impl.Entry
	for _, b := range p.branches {
		if b.in == d {
			all = append(all, impl.Entry{Name: []byte(b.name), H: b.h})
		}
	}
	sort.Slice(all, func(i, k int) bool { return string(all[i].Name) < string(all[k].Name) })
	return all
}

func (p plan) find(d impl.Handle, name string) (impl.Handle, bool) {
	for _, b := range p.branches {
		if b.in == d && b.name == name {
			return b.h, true
		}
	}
	return impl.Handle{}, false
}

func (p plan) parent(d impl.Handle) impl.Handle {
	for _, b := range p.branches {
		if b.h == d {
			return b.in
		}
	}
	return rootDir
}

func (p plan) links(h impl.Handle) int {
	count := 0
	for _, b := range p.branches {
		if b.h == h {
			count++
		}
	}
	return count
}

func (p plan) tree() impl.Tree {
	t := impl.Tree{}
	for _, h := range p.handles() {
		n := impl.Node{H: h, Links: max(1, p.links(h))}
		if h.Dir {
			n.Parent, n.Entries = p.parent(h), p.entries(h)
		} else {
			n.Val = p.vals[h]
		}
		t.Nodes = append(t.Nodes, n)
	}
	sort.SliceStable(t.Nodes, func(i, k int) bool {
		a, b := t.Nodes[i].H, t.Nodes[k].H
		return a.Shard < b.Shard || a.Shard == b.Shard && a.Ino < b.Ino
	})
	return t
}

func sameEntries(a, b []impl.Entry) bool {
	return slices.EqualFunc(a, b, func(x, y impl.Entry) bool { return bytes.Equal(x.Name, y.Name) && x.H == y.H })
}

func sameNode(a, b impl.Node) bool {
	return a.H == b.H && a.Parent == b.Parent && a.Links == b.Links && a.Val == b.Val && sameEntries(a.Entries, b.Entries)
}

func sameTree(a, b impl.Tree) bool { return slices.EqualFunc(a.Nodes, b.Nodes, sameNode) }

func sameReply(a, b impl.Reply) bool {
	return a.Code == b.Code && a.H == b.H && a.Val == b.Val && sameEntries(a.List, b.List)
}

// The sample tree has directories and files on all shards; k has three links.
var (
	dirA  = dirAt(1, 5)
	dirB  = dirAt(2, 7)
	dirC  = dirAt(3, 2)
	dirE  = dirAt(0, 30)
	fileF = fileAt(0, 9)
	fileG = fileAt(2, 5)
	fileK = fileAt(3, 4)
	noDir = dirAt(1, 6)
	noOne = fileAt(1, 6)
	fresh = fileAt(1, 50)
	newby = dirAt(1, 50)
)

func sample() plan {
	p := planOf(
		branch{rootDir, "a", dirA}, branch{rootDir, "b", dirB}, branch{rootDir, "f", fileF}, branch{rootDir, "k", fileK},
		branch{dirA, "c", dirC}, branch{dirA, "g", fileG}, branch{dirA, "k", fileK},
		branch{dirC, "e", dirE}, branch{dirC, "k", fileK},
	)
	return p.withVal(fileF, 11).withVal(fileK, impl.MaxNum)
}

// letters: a name for each number, ascending with it.
func letters(n int) string { return string([]byte{byte('a' + n/26%26), byte('a' + n%26)}) }

// filled: p with files in d until it has count entries.
func filled(p plan, d impl.Handle, count int) plan {
	for i := 0; len(p.entries(d)) < count; i++ {
		p = p.with(d, "p"+letters(i), fileAt(d.Shard, 1000*d.Ino+i+1))
	}
	return p
}

// chain: directories d1, d2 .. each in the one ahead of it, d1 in the root, on all shards.
func chain(count int) (plan, []impl.Handle) {
	p, way := planOf(), []impl.Handle{rootDir}
	for i := 1; i <= count; i++ {
		d := dirAt(i%impl.MaxShards, 100+i)
		p = p.with(way[i-1], "d", d)
		way = append(way, d)
	}
	return p, way
}

// crowd: a tree of just so many nodes, no directory of which is full.
func crowd(count int) plan {
	p, dirs, inFirst := planOf(), []impl.Handle{rootDir}, 0
	for i := 1; i < count; i++ {
		if inFirst == impl.MaxEntries-1 {
			dirs, inFirst = dirs[1:], 0
		}
		h := impl.Handle{Shard: i % impl.MaxShards, Ino: i + 1, Dir: i%3 == 1}
		p.branches = append(p.branches, branch{dirs[0], letters(i), h})
		inFirst++
		if h.Dir {
			dirs = append(dirs, h)
		}
	}
	return p
}

func TestLimitsOfTheTree(t *testing.T) {
	if impl.MaxShards != 4 || impl.MaxName != 6 || impl.MaxEntries != 12 || impl.MaxNodes != 60 || impl.MaxDeep != 12 {
		t.Fatal(impl.MaxShards, impl.MaxName, impl.MaxEntries, impl.MaxNodes, impl.MaxDeep)
	}
}

func TestHandleOk(t *testing.T) {
	shards := map[int]bool{math.MinInt: false, -1: false, 0: true, 1: true, impl.MaxShards - 1: true, impl.MaxShards: false, math.MaxInt: false}
	inos := map[int]bool{math.MinInt: false, -1: false, 0: false, 1: true, 2: true, impl.MaxNum - 1: true, impl.MaxNum: true, impl.MaxNum + 1: false, math.MaxInt: false}
	for shard, shardOk := range shards {
		for ino, inoOk := range inos {
			for _, dir := range []bool{false, true} {
				h := impl.Handle{Shard: shard, Ino: ino, Dir: dir}
				if got := impl.HandleOk(h); got != (shardOk && inoOk) {
					t.Errorf("HandleOk(%v) = %t", h, got)
				}
			}
		}
	}
}

// oneOfEach: an operation of each kind that is OpOk, by its kind.
func oneOfEach() []impl.Op {
	return []impl.Op{lookOp(dirA, "c"), listOp(dirA), readOp(fileF), writeOp(fileF, 5), makeOp(dirA, "m", fresh), dropOp(dirA, "g"), linkOp(dirA, "l", fileF), moveOp(dirA, "g", dirB, "h")}
}

func wantOpOk(t *testing.T, what string, op impl.Op, want bool) {
	t.Helper()
	if got := impl.OpOk(op); got != want {
		t.Errorf("%s: OpOk(%v) = %t", what, op, got)
	}
	if want {
		return
	}
	if tree, r := impl.Do(sample().tree(), op, fresh); len(tree.Nodes) != 0 || !sameReply(r, impl.Reply{Code: impl.RpBad}) {
		t.Errorf("%s: Do = %v, %v; want the zero value and RpBad", what, tree, r)
	}
}

func TestOpOkOfEachKind(t *testing.T) {
	for kind, op := range oneOfEach() {
		if op.Kind != kind {
			t.Fatal(kind, op)
		}
		wantOpOk(t, "as it should be", op, true)
		for _, d := range []impl.Handle{rootDir, fileAt(0, 1), fileAt(impl.MaxShards-1, impl.MaxNum), dirAt(impl.MaxShards-1, impl.MaxNum)} {
			op.Dir = d
			wantOpOk(t, "another Dir", op, true)
		}
		for _, d := range badHandles() {
			op.Dir = d
			wantOpOk(t, "a wrong Dir", op, false)
		}
	}
}

func badHandles() []impl.Handle {
	return []impl.Handle{{}, {Dir: true}, dirAt(-1, 1), dirAt(impl.MaxShards, 1), dirAt(0, 0), dirAt(0, -1), dirAt(0, impl.MaxNum+1), fileAt(-1, 1), fileAt(impl.MaxShards, 5), fileAt(2, 0), fileAt(2, impl.MaxNum+1), dirAt(math.MinInt, math.MaxInt)}
}

func TestKindsThatThereAreNot(t *testing.T) {
	for _, kind := range []int{-1, impl.OpMove + 1, impl.OpMove + 2, math.MinInt, math.MaxInt} {
		wantOpOk(t, "no fields", impl.Op{Kind: kind, Dir: rootDir}, false)
		for _, op := range oneOfEach() {
			op.Kind = kind
			wantOpOk(t, "a wrong kind", op, false)
		}
	}
	wantOpOk(t, "the zero value", impl.Op{}, false)
}

// namesOk: texts that are names, and texts that are not, each limit met and passed by one.
var namesOk = map[string]bool{
	"":                                   false,
	"a":                                  true,
	"z":                                  true,
	"m":                                  true,
	strings.Repeat("a", impl.MaxName):    true,
	strings.Repeat("z", impl.MaxName-1):  true,
	"abcxyz":                             true,
	strings.Repeat("a", impl.MaxName+1):  false,
	strings.Repeat("q", impl.MaxName+20): false,
	"`":                                  false,
	"{":                                  false,
	"ab`":                                false,
	"ab{":                                false,
	"`ab":                                false,
	"{ab":                                false,
	"a`b":                                false,
	"A":                                  false,
	"aZ":                                 false,
	"a1":                                 false,
	"a b":                                false,
	"\x00":                               false,
	"\xff":                               false,
	"a\x00":                              false,
	"é":                                  false,
	"abcde\xe1":                          false,
	"/":                                  false,
}

func TestNamesOfOperations(t *testing.T) {
	for name, ok := range namesOk {
		what := fmt.Sprintf("the name %q", name)
		for _, op := range oneOfEach() {
			switch op.Kind {
			case impl.OpList, impl.OpRead, impl.OpWrite:
			default:
				op.Name = []byte(name)
				wantOpOk(t, what, op, ok)
			}
		}
		wantOpOk(t, what+" in As", moveOp(dirA, "g", dirB, name), ok)
	}
}

func TestFieldsThatMustBeZero(t *testing.T) {
	hasName := map[int]bool{impl.OpLook: true, impl.OpMake: true, impl.OpDrop: true, impl.OpLink: true, impl.OpMove: true}
	hasTo := map[int]bool{impl.OpMake: true, impl.OpLink: true, impl.OpMove: true}
	for kind, op := range oneOfEach() {
		if !hasName[kind] {
			other := op
			other.Name = []byte("a")
			wantOpOk(t, "a Name", other, false)
			other.Name = []byte{0}
			wantOpOk(t, "a Name of a byte 0", other, false)
			other.Name = []byte{}
			wantOpOk(t, "an empty Name", other, true)
		}
		if !hasTo[kind] {
			for _, to := range []impl.Handle{{Dir: true}, {Shard: 1}, {Shard: -1}, {Ino: 1}, {Ino: -1}, rootDir, fileF, {Ino: impl.MaxNum + 1}} {
				other := op
				other.To = to
				wantOpOk(t, "a To", other, false)
			}
		}
		if kind != impl.OpMove {
			other := op
			other.As = []byte("a")
			wantOpOk(t, "an As", other, false)
			other.As = []byte{}
			wantOpOk(t, "an empty As", other, true)
		}
		if kind != impl.OpWrite {
			for _, val := range []int{1, -1, impl.MaxNum, math.MinInt} {
				other := op
				other.Val = val
				wantOpOk(t, "a Val", other, false)
			}
		}
	}
}

func TestToOfOperations(t *testing.T) {
	for _, h := range badHandles() {
		wantOpOk(t, "a link's To", linkOp(dirA, "l", h), false)
		wantOpOk(t, "a move's To", moveOp(dirA, "g", h, "h"), false)
	}
	for _, h := range []impl.Handle{rootDir, fileAt(0, 1), dirAt(impl.MaxShards-1, impl.MaxNum), fileAt(impl.MaxShards-1, impl.MaxNum)} {
		wantOpOk(t, "a link's To", linkOp(dirA, "l", h), true)
		wantOpOk(t, "a move's To", moveOp(dirA, "g", h, "h"), true)
	}
	for shard := -1; shard <= impl.MaxShards; shard++ {
		for _, ino := range []int{-1, 0, 1, impl.MaxNum} {
			for _, dir := range []bool{false, true} {
				op := makeOp(dirA, "m", fresh)
				op.To = impl.Handle{Shard: shard, Ino: ino, Dir: dir}
				wantOpOk(t, "what shall be made", op, shard >= 0 && shard < impl.MaxShards && ino == 0)
			}
		}
	}
}

func TestValOfAWrite(t *testing.T) {
	for val, ok := range map[int]bool{math.MinInt: false, -1: false, 0: true, 1: true, impl.MaxNum: true, impl.MaxNum + 1: false, math.MaxInt: false} {
		wantOpOk(t, "a write", writeOp(fileF, val), ok)
	}
}

func TestRoot(t *testing.T) {
	want := impl.Tree{Nodes: []impl.Node{{H: rootDir, Parent: rootDir, Links: 1}}}
	one, two := impl.Root(), impl.Root()
	if !sameTree(one, want) || !impl.TreeOk(one) {
		t.Fatal(one)
	}
	one.Nodes[0] = impl.Node{}
	if !sameTree(two, want) || !sameTree(impl.Root(), want) {
		t.Error("the roots share memory")
	}
}

func TestTreesThatAreOk(t *testing.T) {
	long, _ := chain(mostNodes - 1)
	limits := sample().with(dirB, "l", fileAt(impl.MaxShards-1, impl.MaxNum)).with(dirB, "m", dirAt(0, impl.MaxNum)).withVal(fileG, 1)
	many := planOf()
	for _, d := range []impl.Handle{rootDir, dirA, dirB, dirC} {
		if d != rootDir {
			many = many.with(rootDir, "z"+letters(d.Shard), d)
		}
		for i := range impl.MaxEntries - 3 {
			many = many.with(d, letters(i), fileF)
		}
	}
	texts := planOf()
	for i, name := range []string{"a", "aa", "aaaaaa", "ab", "b", "ba", "z", "za", "zz", "zzzzzz"} {
		texts = texts.with(rootDir, name, fileAt(3, 100-i))
	}
	for what, p := range map[string]plan{
		"the sample":         sample(),
		"limits":             limits,
		"the root alone":     planOf(),
		"as many nodes":      crowd(mostNodes),
		"one node fewer":     crowd(mostNodes - 1),
		"a long chain":       long,
		"a full directory":   filled(sample(), dirB, impl.MaxEntries),
		"many links":         many,
		"names by bytes":     texts,
		"a file that is one": planOf(branch{rootDir, "a", fileAt(0, 2)}),
	} {
		tree := p.tree()
		if !impl.TreeOk(tree) {
			t.Errorf("%s: %v is no tree", what, tree)
		}
		for i, n := range tree.Nodes {
			if len(n.Entries) == 0 {
				tree.Nodes[i].Entries = []impl.Entry{}
			}
		}
		if !impl.TreeOk(tree) {
			t.Errorf("%s: with empty lists in nil's place %v is no tree", what, tree)
		}
	}
}

// changed: a tree in which the node of h is another one.
func changed(t impl.Tree, h impl.Handle, change func(n *impl.Node)) impl.Tree {
	for i := range t.Nodes {
		if t.Nodes[i].H == h {
			change(&t.Nodes[i])
			return t
		}
	}
	panic("there is no such node")
}

func sampleWith(h impl.Handle, change func(n *impl.Node)) impl.Tree {
	return changed(sample().tree(), h, change)
}

// inOrder: a tree with its nodes in another order.
func inOrder(t impl.Tree, less func(a, b impl.Handle) bool) impl.Tree {
	sort.SliceStable(t.Nodes, func(i, k int) bool { return less(t.Nodes[i].H, t.Nodes[k].H) })
	return t
}

func added(t impl.Tree, nodes ...impl.Node) impl.Tree {
	t.Nodes = append(t.Nodes, nodes...)
	return inOrder(t, func(a, b impl.Handle) bool { return a.Shard < b.Shard || a.Shard == b.Shard && a.Ino < b.Ino })
}

func treesOfWrongNodes() map[string]impl.Tree {
	twice := sample().tree()
	twice.Nodes = slices.Insert(twice.Nodes, 1, twice.Nodes[1])
	oneIno := planOf(branch{rootDir, "a", fileAt(2, 5)}, branch{rootDir, "b", dirAt(2, 5)}).tree()
	oneInoToo := planOf(branch{rootDir, "a", dirAt(2, 5)}, branch{rootDir, "b", fileAt(2, 5)}).tree()
	reversed := sample().tree()
	slices.Reverse(reversed.Nodes)
	rootTwice := sample().tree()
	rootTwice.Nodes = slices.Insert(rootTwice.Nodes, 1, rootTwice.Nodes[0])
	turn := sample().tree()
	turn.Nodes[1], turn.Nodes[2] = turn.Nodes[2], turn.Nodes[1]
	last := sample().tree()
	last.Nodes = append(last.Nodes[1:], last.Nodes[0])
	lone := func(h, parent impl.Handle, links int) impl.Tree {
		return impl.Tree{Nodes: []impl.Node{{H: h, Parent: parent, Links: links}}}
	}
	return map[string]impl.Tree{
		"no nodes":                            {},
		"an empty list of nodes":              {Nodes: []impl.Node{}},
		"a node too many":                     crowd(mostNodes + 1).tree(),
		"nodes by Ino, then Shard":            inOrder(sample().tree(), func(a, b impl.Handle) bool { return a.Ino < b.Ino }),
		"nodes of a shard in another order":   turn,
		"nodes descending":                    reversed,
		"the root at the end":                 last,
		"two nodes alike":                     twice,
		"the root twice":                      rootTwice,
		"a file with the root's numbers":      sample().with(dirB, "x", turned(rootDir)).tree(),
		"two nodes of one Shard and Ino":      oneIno,
		"two such nodes, the directory ahead": oneInoToo,
		"another Ino than the root's":         lone(dirAt(0, 2), dirAt(0, 2), 1),
		"another Shard than the root's":       lone(dirAt(1, 1), dirAt(1, 1), 1),
		"another's Parent is the root":        lone(dirAt(0, 2), rootDir, 1),
		"a file in the root's place":          lone(fileAt(0, 1), impl.Handle{}, 1),
		"a node of zeros":                     lone(impl.Handle{}, impl.Handle{}, 0),
		"a root of no Parent":                 lone(rootDir, impl.Handle{}, 1),
		"a root whose Parent is its file":     lone(rootDir, fileAt(0, 1), 1),
		"a root whose Parent is not there":    lone(rootDir, dirAt(0, 2), 1),
		"a root whose Parent is below it":     sampleWith(rootDir, func(n *impl.Node) { n.Parent = dirA }),
		"a root of no Links":                  lone(rootDir, rootDir, 0),
		"a root of Links 2":                   lone(rootDir, rootDir, 2),
		"a root with a Val":                   sampleWith(rootDir, func(n *impl.Node) { n.Val = 1 }),
		"a file of Shard MaxShards":           sample().with(dirB, "x", fileAt(impl.MaxShards, 1)).tree(),
		"a directory of Shard MaxShards":      sample().with(dirB, "x", dirAt(impl.MaxShards, 1)).tree(),
		"a file of Shard -1":                  inOrder(sample().with(dirB, "x", fileAt(-1, 1)).tree(), func(a, b impl.Handle) bool { return a == rootDir && b != rootDir }),
		"a file of Ino 0":                     sample().with(dirB, "x", fileAt(1, 0)).tree(),
		"a directory of Ino 0":                sample().with(dirB, "x", dirAt(1, 0)).tree(),
		"a file of Ino MaxNum + 1":            sample().with(dirB, "x", fileAt(1, impl.MaxNum+1)).tree(),
		"a directory of Ino MaxNum + 1":       sample().with(dirB, "x", dirAt(1, impl.MaxNum+1)).tree(),
	}
}

func treesOfWrongFiles() map[string]impl.Tree {
	return map[string]impl.Tree{
		"a file of no links":            added(sample().tree(), impl.Node{H: noOne}),
		"a file of Links -1":            added(sample().tree(), impl.Node{H: noOne, Links: -1}),
		"a file that no entry leads to": added(sample().tree(), impl.Node{H: noOne, Links: 1}),
		"Links one too many":            sampleWith(fileK, func(n *impl.Node) { n.Links = 4 }),
		"Links one too few":             sampleWith(fileK, func(n *impl.Node) { n.Links = 2 }),
		"Links 2 for one entry":         sampleWith(fileF, func(n *impl.Node) { n.Links = 2 }),
		"Links 0 for one entry":         sampleWith(fileF, func(n *impl.Node) { n.Links = 0 }),
		"Links MaxNum + 1":              sampleWith(fileF, func(n *impl.Node) { n.Links = impl.MaxNum + 1 }),
		"a Val of -1":                   sampleWith(fileF, func(n *impl.Node) { n.Val = -1 }),
		"a Val of MaxNum + 1":           sampleWith(fileF, func(n *impl.Node) { n.Val = impl.MaxNum + 1 }),
		"a file with an entry": changed(sampleWith(fileK, func(n *impl.Node) { n.Links = 4 }), fileF, func(n *impl.Node) {
			n.Entries = []impl.Entry{{Name: []byte("x"), H: fileK}}
		}),
		"a file with the root as Parent": sampleWith(fileF, func(n *impl.Node) { n.Parent = rootDir }),
		"a file that is its own Parent":  sampleWith(fileF, func(n *impl.Node) { n.Parent = fileF }),
		"a file with a Parent's Dir":     sampleWith(fileF, func(n *impl.Node) { n.Parent = impl.Handle{Dir: true} }),
	}
}

func treesOfWrongDirectories() map[string]impl.Tree {
	twice := sample().with(rootDir, "aa", dirA)
	circle := func(count int) impl.Tree {
		t := sample().tree()
		for i := range count {
			next := dirAt(2, 100+(i+1)%count)
			t = added(t, impl.Node{H: dirAt(2, 100+i), Parent: dirAt(2, 100+(i+count-1)%count), Links: 1, Entries: []impl.Entry{{Name: []byte("n"), H: next}}})
		}
		return t
	}
	tail := added(circle(2), impl.Node{H: dirAt(3, 100), Parent: dirAt(2, 100), Links: 1})
	tail = changed(tail, dirAt(2, 100), func(n *impl.Node) {
		n.Entries = append(n.Entries, impl.Entry{Name: []byte("t"), H: dirAt(3, 100)})
	})
	parent := func(p impl.Handle) impl.Tree { return sampleWith(dirB, func(n *impl.Node) { n.Parent = p }) }
	return map[string]impl.Tree{
		"a directory with a Val":                 sampleWith(dirA, func(n *impl.Node) { n.Val = 1 }),
		"a directory with a Val below 0":         sampleWith(dirA, func(n *impl.Node) { n.Val = -1 }),
		"a directory of Links 2":                 sampleWith(dirA, func(n *impl.Node) { n.Links = 2 }),
		"a directory of Links 0":                 sampleWith(dirB, func(n *impl.Node) { n.Links = 0 }),
		"a directory of Links 2, two lead to it": twice.tree(),
		"a directory twice, of Links 1":          changed(twice.tree(), dirA, func(n *impl.Node) { n.Links = 1 }),
		"a directory in two, of Links 2":         sample().with(dirB, "aa", dirA).tree(),
		"a directory in two, of Links 1":         changed(sample().with(dirB, "aa", dirA).tree(), dirA, func(n *impl.Node) { n.Links = 1 }),
		"a directory in one that isn't its own":  parent(dirA),
		"a Parent that is a file's":              parent(fileF),
		"a Parent that differs in Dir alone":     parent(turned(rootDir)),
		"a Parent that is not there":             parent(noDir),
		"a Parent of zeros":                      parent(impl.Handle{}),
		"a Parent that is no handle":             parent(dirAt(0, 0)),
		"a Parent of Shard MaxShards":            parent(dirAt(impl.MaxShards, 1)),
		"a directory that is its own Parent":     parent(dirB),
		"a directory that no entry leads to":     added(sample().tree(), impl.Node{H: noDir, Parent: rootDir, Links: 1}),
		"a directory of no links":                added(sample().tree(), impl.Node{H: noDir, Parent: rootDir}),
		"a directory in itself":                  circle(1),
		"two in each other":                      circle(2),
		"three in a circle":                      circle(3),
		"one that hangs from a circle":           tail,
		"an entry to the root in the root":       changed(sample().with(rootDir, "r", rootDir).tree(), rootDir, func(n *impl.Node) { n.Parent = rootDir }),
		"an entry to the root below it":          changed(sample().with(dirB, "r", rootDir).tree(), rootDir, func(n *impl.Node) { n.Parent = rootDir }),
	}
}

func treesOfWrongEntries() map[string]impl.Tree {
	byLength := planOf(branch{rootDir, "aa", fileF}, branch{rootDir, "b", fileG}).tree()
	slices.Reverse(byLength.Nodes[0].Entries)
	bad := map[string]impl.Tree{
		"an entry too many":     filled(sample(), dirB, impl.MaxEntries+1).tree(),
		"a short name ahead":    byLength,
		"entries out of order":  sampleWith(dirA, func(n *impl.Node) { slices.Reverse(n.Entries) }),
		"the last two in turn":  sampleWith(rootDir, func(n *impl.Node) { n.Entries[2], n.Entries[3] = n.Entries[3], n.Entries[2] }),
		"the first two in turn": sampleWith(rootDir, func(n *impl.Node) { n.Entries[0], n.Entries[1] = n.Entries[1], n.Entries[0] }),
		"two of one name":       sampleWith(rootDir, func(n *impl.Node) { n.Entries[1].Name = []byte("a") }),
		"the last of one name":  sampleWith(rootDir, func(n *impl.Node) { n.Entries[2].Name = []byte("k") }),
		"one entry twice":       sample().with(rootDir, "k", fileK).tree(),
	}
	for what, h := range map[string]impl.Handle{"a file": noOne, "a directory": noDir, "a file, but a directory's": turned(dirA), "a directory, but a file's": turned(fileF), "zeros": {}, "no handle": fileAt(1, 0), "Shard MaxShards": fileAt(impl.MaxShards, 4)} {
		bad["an entry more to what there is not: "+what] = sampleWith(dirB, func(n *impl.Node) { n.Entries = []impl.Entry{{Name: []byte("x"), H: h}} })
		bad["an entry to what there is not: "+what] = sampleWith(rootDir, func(n *impl.Node) { n.Entries[3].H = h })
	}
	for name, ok := range namesOk {
		if !ok {
			bad[fmt.Sprintf("an entry of the name %q", name)] = sample().with(dirB, name, dirAt(1, 60)).tree()
		}
	}
	return bad
}

func treesThatAreNotOk() map[string]impl.Tree {
	all := map[string]impl.Tree{}
	for _, some := range []map[string]impl.Tree{treesOfWrongNodes(), treesOfWrongFiles(), treesOfWrongDirectories(), treesOfWrongEntries()} {
		for what, tree := range some {
			all[what] = tree
		}
	}
	return all
}

func TestTreesThatAreNotOk(t *testing.T) {
	ops := append(oneOfEach(), impl.Op{}, listOp(rootDir), makeOp(rootDir, "x", fresh))
	for what, tree := range treesThatAreNotOk() {
		if impl.TreeOk(tree) {
			t.Errorf("%s: %v is a tree", what, tree)
		}
		for _, op := range ops {
			for _, h := range []impl.Handle{fresh, {}} {
				if got, r := impl.Do(tree, op, h); len(got.Nodes) != 0 || !sameReply(r, impl.Reply{Code: impl.RpBad}) {
					t.Errorf("%s: Do = %v, %v; want the zero value and RpBad", what, got, r)
				}
			}
		}
	}
}

func TestEntriesOfEachNameThatIsOne(t *testing.T) {
	for name, ok := range namesOk {
		if got := impl.TreeOk(planOf(branch{rootDir, name, fileF}).tree()); got != ok {
			t.Errorf("a tree with the name %q: %t", name, got)
		}
	}
}
