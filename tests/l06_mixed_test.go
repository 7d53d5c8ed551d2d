package tests

import (
	"fmt"
	"slices"
	"sort"
	"testing"

	"loop.example/g00341/impl"
)

// shardModel: a shard as the chapter tells it, its nodes in a list without order, looked through one by one.
type shardModel struct {
	impl.Shard
	// met tells what the records came to.
	met map[string]int
}

func newShardModel(id int) *shardModel {
	m := &shardModel{Shard: impl.Shard{Id: id, Next: 2}, met: map[string]int{}}
	if id == 0 {
		m.Nodes = []impl.Node{{H: rootDir, Parent: rootDir, Links: 1}}
	}
	return m
}

func (m *shardModel) node(h impl.Handle) *impl.Node { return nodeOf(&m.Shard, h) }

func (m *shardModel) entry(d impl.Handle, name []byte) *impl.Entry {
	n := m.node(d)
	if n == nil {
		return nil
	}
	for i := range n.Entries {
		if string(n.Entries[i].Name) == string(name) {
			return &n.Entries[i]
		}
	}
	return nil
}

func (m *shardModel) take(h impl.Handle) {
	if h.Shard != m.Id || h.Ino < m.Next || h.Ino > impl.MaxNum-1 {
		return
	}
	m.Next = h.Ino + 1
}

func (m *shardModel) keep(r impl.Record) {
	last := impl.Last{Client: r.Client, Req: r.Req, Reply: r.Reply}
	for i := range m.Lasts {
		if m.Lasts[i].Client == r.Client {
			m.Lasts[i] = last
			return
		}
	}
	m.Lasts = append(m.Lasts, last)
}

func (m *shardModel) room(d impl.Handle, name []byte) bool {
	return m.node(d) != nil && m.entry(d, name) == nil && len(m.node(d).Entries) < impl.MaxEntries
}

func (m *shardModel) put(d impl.Handle, name []byte, h impl.Handle) bool {
	if !m.room(d, name) {
		return false
	}
	addEntry(&m.Shard, d, string(name), h)
	return true
}

// elsewhere: why an operation does not lie here, or nothing.
func (m *shardModel) elsewhere(op impl.Op) string {
	if m.node(op.Dir) == nil || !op.Dir.Dir {
		return ""
	}
	e := m.entry(op.Dir, op.Name)
	switch {
	case op.Kind == impl.OpMake && op.To.Shard != m.Id:
		return "made elsewhere"
	case op.Kind == impl.OpLink && !op.To.Dir && op.To.Shard != m.Id:
		return "linked elsewhere"
	case op.Kind == impl.OpDrop && e != nil && e.H.Shard != m.Id:
		return "dropped elsewhere"
	case op.Kind != impl.OpMove || e == nil || !op.To.Dir || op.To == op.Dir:
		return ""
	case op.To.Shard != m.Id:
		return "moved elsewhere"
	case e.H.Dir:
		return "a directory moved"
	}
	return ""
}

func (m *shardModel) void(op impl.Op, h impl.Handle) string {
	switch {
	case op.Kind == impl.OpMake && h.Shard != m.Id:
		return "void: shard"
	case op.Kind == impl.OpMake && h.Dir != op.To.Dir:
		return "void: kind"
	case op.Kind == impl.OpMake && h.Ino < m.Next:
		return "void: number"
	case op.Kind == impl.OpDrop && m.entry(op.Dir, op.Name) != nil && m.node(m.entry(op.Dir, op.Name).H) == nil:
		return "void: gone"
	}
	return ""
}

// act: chapter 4 over the nodes, of what lies here and is not void; whether it changed something is told.
func (m *shardModel) act(op impl.Op, fresh impl.Handle) bool {
	d, e := m.node(op.Dir), m.entry(op.Dir, op.Name)
	if d == nil {
		return false
	}
	if op.Kind == impl.OpWrite && !op.Dir.Dir {
		d.Val = op.Val
		return true
	}
	if !op.Dir.Dir {
		return false
	}
	switch op.Kind {
	case impl.OpMake:
		if op.To.Shard != fresh.Shard || !m.put(op.Dir, op.Name, fresh) {
			return false
		}
		m.make(fresh, op.Dir)
		return true
	case impl.OpLink:
		if op.To.Dir || m.node(op.To) == nil || !m.put(op.Dir, op.Name, op.To) {
			return false
		}
		m.node(op.To).Links++
		return true
	case impl.OpDrop:
		if e == nil || len(m.node(e.H).Entries) > 0 {
			return false
		}
		h := e.H
		removeEntry(&m.Shard, op.Dir, string(op.Name))
		m.unlink(h)
		return true
	case impl.OpMove:
		return e != nil && m.move(op, e.H)
	}
	return false
}

func (m *shardModel) move(op impl.Op, h impl.Handle) bool {
	if !op.To.Dir || m.node(op.To) == nil || m.entry(op.To, op.As) != nil || op.To != op.Dir && len(m.node(op.To).Entries) == impl.MaxEntries {
		return false
	}
	removeEntry(&m.Shard, op.Dir, string(op.Name))
	addEntry(&m.Shard, op.To, string(op.As), h)
	if h.Dir && m.node(h) != nil {
		m.node(h).Parent = op.To
	}
	return true
}

func (m *shardModel) make(h, parent impl.Handle) bool {
	if m.node(h) != nil || h.Shard != m.Id {
		return false
	}
	n := impl.Node{H: h, Links: 1}
	if h.Dir {
		n.Parent = parent
	}
	m.Nodes = append(m.Nodes, n)
	return true
}

func (m *shardModel) unlink(h impl.Handle) {
	m.node(h).Links--
	if m.node(h).Links < 1 {
		removeNode(&m.Shard, h)
	}
}

func (m *shardModel) part(in impl.Intent) bool {
	p, n := in.Part, m.node(in.Part.H)
	switch {
	case p.Kind == impl.PaMake:
		return m.make(in.Fresh, p.To)
	case n == nil || p.Kind == impl.PaGate:
		return false
	case p.Kind == impl.PaUnlink:
		m.unlink(p.H)
	case p.Kind == impl.PaRelink:
		n.Links++
	case p.Kind == impl.PaParent:
		n.Parent = p.To
	case p.Kind == impl.PaEnter:
		return m.put(p.H, p.As, p.To)
	}
	return true
}

func (m *shardModel) tell(x impl.Tx, code int) {
	var stay []impl.Intent
	for _, in := range m.Intents {
		if in.Tx != x {
			stay = append(stay, in)
			continue
		}
		if in.Code == impl.RpWell && code == 1 {
			m.met[fmt.Sprintf("part %d: %t", in.Part.Kind, m.part(in))]++
		}
	}
	m.Intents = stay
	if !slices.Contains(m.Done, x) {
		m.Done = append(m.Done, x)
	}
}

func (m *shardModel) local(r impl.Record) {
	m.keep(r)
	why := m.elsewhere(r.Op)
	if why == "" {
		why = m.void(r.Op, r.Fresh)
	}
	if r.Reply.Code != impl.RpWell || why != "" {
		m.met[why]++
		return
	}
	m.met[fmt.Sprintf("op %d: %t", r.Op.Kind, m.act(r.Op, r.Fresh))]++
	m.take(r.Fresh)
}

func (m *shardModel) decide(r impl.Record) {
	m.keep(r)
	m.Decided = append(m.Decided, impl.Verdict{Tx: r.Tx, Ok: r.Code == 1})
	if r.Code == 1 && m.node(r.Op.Dir) != nil {
		was := len(m.node(r.Op.Dir).Entries)
		switch r.Op.Kind {
		case impl.OpMake:
			m.put(r.Op.Dir, r.Op.Name, r.Reply.H)
		case impl.OpLink:
			m.put(r.Op.Dir, r.Op.Name, r.Op.To)
		case impl.OpDrop, impl.OpMove:
			removeEntry(&m.Shard, r.Op.Dir, string(r.Op.Name))
		}
		m.met[fmt.Sprintf("decided %d: %t", r.Op.Kind, was != len(m.node(r.Op.Dir).Entries))]++
	}
	m.tell(r.Tx, r.Code)
}

func (m *shardModel) play(r impl.Record) {
	switch r.Kind {
	case impl.RcBoot:
		m.Boot++
	case impl.RcLocal:
		m.local(r)
	case impl.RcIntent:
		m.Intents = append(m.Intents, impl.Intent{Tx: r.Tx, Part: r.Part, Code: r.Code, Fresh: r.Fresh})
		m.take(r.Fresh)
	case impl.RcDecide:
		m.decide(r)
	case impl.RcTold:
		m.tell(r.Tx, r.Code)
	}
}

func (m *shardModel) shard() impl.Shard {
	s := m.Shard
	s.Nodes = slices.Clone(m.Nodes)
	sort.Slice(s.Nodes, func(i, k int) bool { return s.Nodes[i].H.Ino < s.Nodes[k].H.Ino })
	return s
}

// shardMixer draws records for a shard as it is. Odd numbers are directories', so that no two nodes differ in Dir alone.
type shardMixer struct {
	*steps
	m     *shardModel
	names int
}

func (x shardMixer) one(of ...int) int { return of[x.below(len(of))] }

func (x shardMixer) handle() impl.Handle {
	if len(x.m.Nodes) > 0 && x.below(5) > 0 {
		return x.m.Nodes[x.below(len(x.m.Nodes))].H
	}
	ino := 1 + x.below(20)
	h := impl.Handle{Shard: x.below(impl.MaxShards), Ino: ino, Dir: ino%2 == 1}
	if x.below(4) == 0 {
		return turned(h)
	}
	return h
}

func (x shardMixer) of(dir bool) impl.Handle {
	h := x.handle()
	for i := 0; i < 6 && h.Dir != dir; i++ {
		h = x.handle()
	}
	return h
}

// sure: as of, but of the wanted kind, whether or not it is a node.
func (x shardMixer) sure(dir bool) impl.Handle {
	h := x.of(dir)
	h.Dir = dir
	return h
}

func (x shardMixer) fresh() impl.Handle {
	ino := max(x.m.Next-1+x.one(0, 1, 1, 1, 1, 2), 1)
	if x.below(8) == 0 {
		ino = 1 + x.below(x.m.Next)
	}
	h := impl.Handle{Shard: x.m.Id, Ino: ino, Dir: ino%2 == 1}
	if x.below(10) == 0 {
		h.Shard = x.below(impl.MaxShards)
	}
	return h
}

func (x shardMixer) name() string {
	return string([]byte{byte('a' + x.below(x.names))})
}

// branch: an entry that there is, if there is one.
func (x shardMixer) branch() (impl.Handle, string) {
	for range 8 {
		d := x.of(true)
		if n := x.m.node(d); n != nil && len(n.Entries) > 0 && x.below(8) > 0 {
			return d, string(n.Entries[x.below(len(n.Entries))].Name)
		}
	}
	return x.of(true), x.name()
}

func (x shardMixer) op(h impl.Handle) impl.Op {
	d, name := x.branch()
	switch x.below(12) {
	case 0:
		return []impl.Op{lookOp(d, name), listOp(d), readOp(x.of(false))}[x.below(3)]
	case 1:
		return writeOp(x.of(false), x.below(100))
	case 2, 3, 4, 5:
		if x.below(6) == 0 {
			h = impl.Handle{Shard: x.below(impl.MaxShards), Dir: x.below(2) == 0}
		}
		return makeOp(x.of(true), x.name(), h)
	case 6:
		return dropOp(d, name)
	case 7, 8:
		return linkOp(x.of(true), x.name(), x.of(false))
	case 9:
		return moveOp(d, name, d, x.name())
	}
	return moveOp(d, name, x.of(true), x.name())
}

func (x shardMixer) part() impl.Part {
	switch x.below(10) {
	case 0:
		return unlinkPart(x.of(false))
	case 1:
		return unlinkPart(x.handle())
	case 2, 3:
		return relinkPart(x.sure(false))
	case 4, 5:
		return makePart(x.handle(), x.sure(true))
	case 6, 7:
		return enterPart(x.sure(true), x.name(), x.handle())
	case 8:
		return parentPart(x.sure(true), x.sure(true))
	}
	return impl.Part{Kind: impl.PaGate}
}

func (x shardMixer) record() impl.Record {
	tx := impl.Tx{Shard: x.below(2), Boot: 1, N: x.below(3)}
	h := x.fresh()
	code := x.one(0, 0, 0, 0, 0, impl.RpBusy, impl.RpStale)
	call := impl.Record{Client: x.below(impl.MaxClients), Req: x.below(50), Op: x.op(h), Reply: impl.Reply{Code: code, H: x.handle(), Val: x.below(3)}}
	switch x.below(20) {
	case 0:
		return impl.Record{}
	case 1, 2, 3, 4, 5, 6:
		r := intentOf(tx, x.part(), code, h)
		if x.below(4) == 0 && r.Part.Kind != impl.PaMake {
			r.Fresh = zeroH
		}
		return r
	case 7, 8, 9:
		return toldOf(tx, x.one(0, 1, 1))
	case 10, 11:
		call.Kind, call.Tx, call.Code = impl.RcDecide, tx, x.one(0, 1, 1, 1)
		if call.Op.Dir.Dir {
			return call
		}
		call.Code = 0
		return call
	}
	call.Kind, call.Fresh = impl.RcLocal, h
	return call
}

func TestLongMixedUseOfAShard(t *testing.T) {
	met := map[string]int{}
	for round := range 60 {
		m := newShardModel(round % impl.MaxShards)
		m.met = met
		x := shardMixer{&steps{state: uint32(1000 + round)}, m, 3 + round%16}
		var l []impl.Record
		for step := range 250 {
			r := x.record()
			if !impl.RecordOk(r) {
				t.Fatalf("round %d: %v is not RecordOk", round, r)
			}
			l = append(l, r)
			m.play(r)
			if step%4 > 0 {
				continue
			}
			if got, want := replayed(t, fmt.Sprintf("round %d", round), m.Id, l), m.shard(); !sameShard(got, want) {
				t.Fatalf("round %d, step %d: behind %v the shard is\n%v; want\n%v", round, step, r, got, want)
			}
		}
	}
	for _, want := range []string{
		"made elsewhere", "linked elsewhere", "dropped elsewhere", "moved elsewhere", "a directory moved", "void: shard", "void: kind", "void: number", "void: gone",
		"op 0: false", "op 1: false", "op 2: false", "op 3: true", "op 3: false", "op 4: true", "op 4: false", "op 5: true", "op 5: false", "op 6: true", "op 6: false", "op 7: true", "op 7: false",
		"part 0: true", "part 0: false", "part 1: true", "part 1: false", "part 2: true", "part 2: false", "part 3: true", "part 3: false", "part 4: true", "part 4: false", "part 5: false",
		"decided 4: true", "decided 4: false", "decided 5: true", "decided 5: false", "decided 6: true", "decided 6: false", "decided 7: true", "decided 7: false",
	} {
		if met[want] < 5 {
			t.Errorf("the mixed use came to %q %d times", want, met[want])
		}
	}
}

// wildRecord: a record that may be, of whatever handles, those that a file and a directory have at once among them.
func wildRecord(s *steps) impl.Record {
	handle := func() impl.Handle {
		return impl.Handle{Shard: s.below(s.below(impl.MaxShards) + 1), Ino: 1 + s.below(1+s.below(9)), Dir: s.below(2) == 0}
	}
	fresh := func() impl.Handle {
		h := handle()
		switch n := s.below(300); {
		case n == 0:
			h.Ino = impl.MaxNum - 1 - s.below(3)
		case n < 20:
			return zeroH
		case n < 150:
			h.Ino += s.below(40)
		}
		return h
	}
	dir := func() impl.Handle {
		h := handle()
		h.Dir = true
		return h
	}
	name := func() string { return string([]byte{byte('a' + s.below(3))}) }
	ops := []impl.Op{
		lookOp(dir(), name()), listOp(dir()), readOp(handle()), writeOp(handle(), s.below(9)), makeOp(dir(), name(), handle()), makeOp(handle(), name(), handle()),
		dropOp(dir(), name()), dropOp(handle(), name()), linkOp(dir(), name(), handle()), moveOp(dir(), name(), dir(), name()), moveOp(handle(), name(), handle(), name()),
	}
	file := handle()
	file.Dir = false
	parts := []impl.Part{unlinkPart(handle()), relinkPart(file), enterPart(dir(), name(), handle()), parentPart(dir(), dir()), {Kind: impl.PaGate}}
	parts = append(parts, slices.Repeat([]impl.Part{makePart(handle(), dir())}, 4)...)
	x := impl.Tx{Shard: s.below(2), N: s.below(2)}
	code, verdict := max(0, s.below(40)-28), min(1, s.below(4))
	r := impl.Record{Kind: s.below(5)}
	switch r.Kind {
	case impl.RcLocal, impl.RcDecide:
		r.Client, r.Req, r.Op = s.below(impl.MaxClients), s.below(9), ops[s.below(len(ops))]
		r.Reply = impl.Reply{Code: code, H: fresh(), Val: s.below(2)}
		if r.Kind == impl.RcLocal {
			r.Fresh = fresh()
			return r
		}
		r.Tx, r.Code = x, verdict
	case impl.RcIntent:
		r.Tx, r.Part, r.Code, r.Fresh = x, parts[s.below(len(parts))], code, fresh()
	case impl.RcTold:
		r.Tx, r.Code = x, verdict
	}
	return r
}

// Promise 6 on lists of whatever records may be, of which no Fresh has the last number of all; and the same shard each time.
func TestWhateverRecords(t *testing.T) {
	most := 0
	for round := range 400 {
		s := &steps{state: uint32(round)}
		var l []impl.Record
		for range []int{5, 40, 300}[round%3] {
			l = append(l, wildRecord(s))
		}
		for id := range impl.MaxShards {
			shard := replayed(t, fmt.Sprintf("round %d", round), id, l)
			most = max(most, len(shard.Nodes))
			for i := 1; i < len(shard.Nodes); i++ {
				if shard.Nodes[i-1].H.Ino > shard.Nodes[i].H.Ino {
					t.Fatalf("round %d: the nodes do not ascend: %v", round, shard.Nodes)
				}
			}
			for _, n := range shard.Nodes {
				if n.Links < 1 || len(n.Entries) > impl.MaxEntries {
					t.Fatalf("round %d: %v", round, n)
				}
			}
		}
	}
	for _, id := range []int{0, 2} {
		s := &steps{state: uint32(id)}
		var l []impl.Record
		for range 20000 {
			l = append(l, wildRecord(s))
		}
		replayed(t, "a long list", id, l)
	}
	if most < 15 {
		t.Error("no shard came to have more than", most, "nodes")
	}
}

// What comes back from its bytes gives the same shard.
func TestAShardIsItsRecords(t *testing.T) {
	for round := range 40 {
		s := &steps{state: uint32(500 + round)}
		var l, back []impl.Record
		for range 100 {
			r := wildRecord(s)
			b, ok := impl.RecordBytes(r)
			again, okAgain := impl.RecordRead(b)
			if !ok || !okAgain || len(b) > impl.MaxRecord {
				t.Fatalf("%v: %v, %t, %t", r, b, ok, okAgain)
			}
			l, back = append(l, r), append(back, again)
		}
		id := round % impl.MaxShards
		wantShard(t, "from bytes", id, back, replayed(t, "as they are", id, l))
	}
}
