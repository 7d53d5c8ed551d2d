package impl

import (
	"bytes"
	"cmp"
	"slices"
)

const MaxShards = 4
const MaxName = 6
const MaxEntries = 12
const MaxNodes = 60
const MaxDeep = 12

type Handle struct {
	Shard int
	Ino   int
	Dir   bool
}

const (
	OpLook = iota
	OpList
	OpRead
	OpWrite
	OpMake
	OpDrop
	OpLink
	OpMove
)

type Op struct {
	Kind int
	Dir  Handle
	Name []byte
	To   Handle
	As   []byte
	Val  int
}

const (
	RpWell = iota
	RpStale
	RpNoDir
	RpNoEnt
	RpExist
	RpFull
	RpIsDir
	RpNotEmpty
	RpLoop
	RpDeep
	RpBusy
	RpBad
)

type Entry struct {
	Name []byte
	H    Handle
}

type Reply struct {
	Code int
	H    Handle
	Val  int
	List []Entry
}

type Node struct {
	H       Handle
	Parent  Handle
	Links   int
	Val     int
	Entries []Entry
}

type Tree struct {
	Nodes []Node
}

// nodeMap holds nodes by their handles: a handle that differs in Dir alone is another node's.
type nodeMap map[Handle]Node

func HandleOk(h Handle) bool {
	return isShard(h.Shard) && h.Ino >= 1 && h.Ino <= MaxNum
}

func OpOk(o Op) bool {
	return o.Kind >= OpLook && o.Kind <= OpMove && HandleOk(o.Dir) && o.nameOk() && o.toOk() && o.asOk() && o.valOk()
}

func Root() Tree {
	root := rootHandle()
	return Tree{Nodes: []Node{{H: root, Parent: root, Links: 1}}}
}

func TreeOk(t Tree) bool {
	if len(t.Nodes) < 1 || len(t.Nodes) > MaxShards*MaxNodes || !ascendingNodes(t.Nodes) {
		return false
	}
	if first := t.Nodes[0]; first.H != rootHandle() || first.Parent != rootHandle() {
		return false
	}
	for _, n := range t.Nodes {
		if !n.ok() {
			return false
		}
	}
	nodes := nodesByHandle(t.Nodes)
	return nodes.leadRightly(t.Nodes) && nodes.allComeToRoot(t.Nodes)
}

func Do(t Tree, o Op, fresh Handle) (Tree, Reply) {
	if !TreeOk(t) || !OpOk(o) {
		return Tree{}, Reply{Code: RpBad}
	}
	nodes := nodesByHandle(copiedNodes(t.Nodes))
	reply := nodes.do(o, fresh)
	return Tree{Nodes: nodes.ascending()}, reply
}

func rootHandle() Handle {
	return Handle{Shard: 0, Ino: 1, Dir: true}
}

func isShard(n int) bool {
	return n >= 0 && n < MaxShards
}

func isNumber(n int) bool {
	return n >= 0 && n <= MaxNum
}

func isName(name []byte) bool {
	if len(name) < 1 || len(name) > MaxName {
		return false
	}
	for _, c := range name {
		if c < 'a' || c > 'z' {
			return false
		}
	}
	return true
}

func (o Op) nameOk() bool {
	switch o.Kind {
	case OpLook, OpMake, OpDrop, OpLink, OpMove:
		return isName(o.Name)
	}
	return len(o.Name) == 0
}

func (o Op) toOk() bool {
	switch o.Kind {
	case OpLink, OpMove:
		return HandleOk(o.To)
	case OpMake:
		// What is made has no number yet: it is told where it shall lie, and of which kind it is.
		return isShard(o.To.Shard) && o.To.Ino == 0
	}
	return o.To == Handle{}
}

func (o Op) asOk() bool {
	if o.Kind == OpMove {
		return isName(o.As)
	}
	return len(o.As) == 0
}

func (o Op) valOk() bool {
	if o.Kind == OpWrite {
		return isNumber(o.Val)
	}
	return o.Val == 0
}

// byPlace leaves Dir out: no two nodes of a tree have one Shard and Ino.
func byPlace(a, b Handle) int {
	return cmp.Or(cmp.Compare(a.Shard, b.Shard), cmp.Compare(a.Ino, b.Ino))
}

// byHandle holds handles of one place apart: a shard may come to have a file and a directory there, whose order must not hang on a map's.
func byHandle(a, b Handle) int {
	switch place := byPlace(a, b); {
	case place != 0:
		return place
	case !a.Dir && b.Dir:
		return -1
	case a.Dir && !b.Dir:
		return 1
	}
	return 0
}

func ascendingNodes(nodes []Node) bool {
	for i := 1; i < len(nodes); i++ {
		if byPlace(nodes[i-1].H, nodes[i].H) >= 0 {
			return false
		}
	}
	return true
}

// ok tells what can be told of a node by itself.
func (n Node) ok() bool {
	if !HandleOk(n.H) || n.Links < 1 || n.Links > MaxNum {
		return false
	}
	if !n.H.Dir {
		return isNumber(n.Val) && len(n.Entries) == 0 && n.Parent == Handle{}
	}
	return n.Val == 0 && n.Links == 1 && HandleOk(n.Parent) && n.Parent.Dir && entriesOk(n.Entries)
}

func entriesOk(entries []Entry) bool {
	if len(entries) > MaxEntries {
		return false
	}
	for i, e := range entries {
		if !isName(e.Name) || !HandleOk(e.H) {
			return false
		}
		if i > 0 && bytes.Compare(entries[i-1].Name, e.Name) >= 0 {
			return false
		}
	}
	return true
}

// nodesByHandle shares the memory of the nodes' entries.
func nodesByHandle(nodes []Node) nodeMap {
	m := nodeMap{}
	for _, n := range nodes {
		m[n.H] = n
	}
	return m
}

// leadRightly tells whether the entries of nodes, which are those of m, lead where they should, and as often.
func (m nodeMap) leadRightly(nodes []Node) bool {
	led := map[Handle]int{}
	for _, n := range nodes {
		for _, e := range n.Entries {
			at, there := m[e.H]
			if !there || e.H.Dir && at.Parent != n.H {
				return false
			}
			led[e.H]++
		}
	}
	for _, n := range nodes {
		want := n.Links
		if n.H == rootHandle() {
			want = 0
		}
		if led[n.H] != want {
			return false
		}
	}
	return true
}

func (m nodeMap) allComeToRoot(nodes []Node) bool {
	for _, n := range nodes {
		if n.H.Dir && !m.comesToRoot(n.H) {
			return false
		}
	}
	return true
}

// comesToRoot makes as many steps as there are nodes: a way that is longer goes round in a circle.
func (m nodeMap) comesToRoot(h Handle) bool {
	for range len(m) {
		if h == rootHandle() {
			return true
		}
		h = m[h].Parent
	}
	return false
}

func copiedEntries(entries []Entry) []Entry {
	var out []Entry
	for _, e := range entries {
		out = append(out, Entry{Name: joined(nil, e.Name), H: e.H})
	}
	return out
}

func copiedNodes(nodes []Node) []Node {
	var out []Node
	for _, n := range nodes {
		n.Entries = copiedEntries(n.Entries)
		out = append(out, n)
	}
	return out
}

// clone shares no memory with m, so that do may write into it.
func (m nodeMap) clone() nodeMap {
	out := nodeMap{}
	for h, n := range m {
		n.Entries = copiedEntries(n.Entries)
		out[h] = n
	}
	return out
}

// ascending sorts, since a map is gone through in no order.
func (m nodeMap) ascending() []Node {
	var out []Node
	for _, n := range m {
		out = append(out, n)
	}
	slices.SortFunc(out, func(a, b Node) int { return byHandle(a.H, b.H) })
	return out
}

// takes tells whether fresh may become a new node's handle, as to asks for it.
func (m nodeMap) takes(fresh, to Handle) bool {
	_, isFile := m[Handle{Shard: fresh.Shard, Ino: fresh.Ino}]
	_, isDir := m[Handle{Shard: fresh.Shard, Ino: fresh.Ino, Dir: true}]
	return HandleOk(fresh) && fresh.Shard == to.Shard && fresh.Dir == to.Dir && !isFile && !isDir && len(m) < MaxShards*MaxNodes
}

// do leaves m as it is where it refuses. m has the nodes of a tree, or those of it that lie on one shard, with memory of their own; the operation is OpOk.
func (m nodeMap) do(o Op, fresh Handle) Reply {
	if o.Kind == OpMake && !m.takes(fresh, o.To) {
		return Reply{Code: RpBad}
	}
	if code := m.dirCode(o); code != RpWell {
		return Reply{Code: code}
	}
	switch o.Kind {
	case OpLook:
		return m.look(o)
	case OpList:
		return Reply{List: copiedEntries(m[o.Dir].Entries)}
	case OpRead:
		return Reply{Val: m[o.Dir].Val}
	case OpWrite:
		return m.write(o)
	case OpMake:
		return m.makeNode(o, fresh)
	case OpDrop:
		return m.drop(o)
	case OpLink:
		return m.link(o)
	default:
		return m.move(o)
	}
}

// dirCode tells what keeps the operation from beginning at its Dir.
func (m nodeMap) dirCode(o Op) int {
	ofFile := o.Kind == OpRead || o.Kind == OpWrite
	_, there := m[o.Dir]
	switch {
	case ofFile && o.Dir.Dir:
		return RpIsDir
	case !ofFile && !o.Dir.Dir:
		return RpNoDir
	case !there:
		return RpStale
	}
	return RpWell
}

// roomCode tells what keeps a directory from getting an entry of this name.
func (m nodeMap) roomCode(dir Handle, name []byte) int {
	switch n := m[dir]; {
	case n.has(name):
		return RpExist
	case len(n.Entries) >= MaxEntries:
		return RpFull
	}
	return RpWell
}

// wayCode tells what keeps a directory h from lying in another one.
func (m nodeMap) wayCode(h, in Handle) int {
	for range MaxDeep {
		if in == h {
			return RpLoop
		}
		if in == rootHandle() {
			return RpWell
		}
		in = m[in].Parent
	}
	return RpDeep
}

// find tells the handle of the entry with this name, and whether there is one.
func (n Node) find(name []byte) (Handle, bool) {
	at := slices.IndexFunc(n.Entries, func(e Entry) bool { return bytes.Equal(e.Name, name) })
	if at < 0 {
		return Handle{}, false
	}
	return n.Entries[at].H, true
}

func (n Node) has(name []byte) bool {
	_, there := n.find(name)
	return there
}

// enter is for a directory that has room for it.
func (m nodeMap) enter(dir Handle, name []byte, h Handle) {
	n := m[dir]
	n.Entries = append(n.Entries, Entry{Name: joined(nil, name), H: h})
	slices.SortFunc(n.Entries, func(a, b Entry) int { return bytes.Compare(a.Name, b.Name) })
	m[dir] = n
}

func (m nodeMap) takeOut(dir Handle, name []byte) {
	n := m[dir]
	var left []Entry
	for _, e := range n.Entries {
		if !bytes.Equal(e.Name, name) {
			left = append(left, e)
		}
	}
	n.Entries = left
	m[dir] = n
}

func (m nodeMap) unlink(h Handle) {
	n := m[h]
	n.Links--
	if n.Links <= 0 {
		delete(m, h)
		return
	}
	m[h] = n
}

func (m nodeMap) look(o Op) Reply {
	h, there := m[o.Dir].find(o.Name)
	if !there {
		return Reply{Code: RpNoEnt}
	}
	return Reply{H: h}
}

func (m nodeMap) write(o Op) Reply {
	n := m[o.Dir]
	n.Val = o.Val
	m[o.Dir] = n
	return Reply{}
}

func (m nodeMap) makeNode(o Op, fresh Handle) Reply {
	if code := m.roomCode(o.Dir, o.Name); code != RpWell {
		return Reply{Code: code}
	}
	n := Node{H: fresh, Links: 1}
	if fresh.Dir {
		n.Parent = o.Dir
	}
	m[fresh] = n
	m.enter(o.Dir, o.Name, fresh)
	return Reply{H: fresh}
}

func (m nodeMap) drop(o Op) Reply {
	h, there := m[o.Dir].find(o.Name)
	if !there {
		return Reply{Code: RpNoEnt}
	}
	if h.Dir && len(m[h].Entries) > 0 {
		return Reply{Code: RpNotEmpty}
	}
	m.takeOut(o.Dir, o.Name)
	m.unlink(h)
	return Reply{}
}

func (m nodeMap) link(o Op) Reply {
	if code := m.roomCode(o.Dir, o.Name); code != RpWell {
		return Reply{Code: code}
	}
	if o.To.Dir {
		return Reply{Code: RpIsDir}
	}
	n, there := m[o.To]
	if !there {
		return Reply{Code: RpStale}
	}
	n.Links++
	m[o.To] = n
	m.enter(o.Dir, o.Name, o.To)
	return Reply{}
}

func (m nodeMap) move(o Op) Reply {
	h, there := m[o.Dir].find(o.Name)
	if !there {
		return Reply{Code: RpNoEnt}
	}
	if code := m.moveCode(o, h); code != RpWell {
		return Reply{Code: code}
	}
	m.takeOut(o.Dir, o.Name)
	m.enter(o.To, o.As, h)
	// A directory whose entry lies on this shard may lie on another one itself.
	if n, here := m[h]; here && h.Dir {
		n.Parent = o.To
		m[h] = n
	}
	return Reply{}
}

// moveCode tells what keeps h, which has an entry in Dir, from being moved.
func (m nodeMap) moveCode(o Op, h Handle) int {
	_, there := m[o.To]
	switch {
	case !o.To.Dir:
		return RpNoDir
	case !there:
		return RpStale
	}
	if o.To == o.Dir {
		// The entry that goes leaves its room, and what lies in Dir already makes no circle there.
		if m[o.To].has(o.As) {
			return RpExist
		}
		return RpWell
	}
	if code := m.roomCode(o.To, o.As); code != RpWell || !h.Dir {
		return code
	}
	return m.wayCode(h, o.To)
}
