package impl

import "slices"

const (
	RcBoot = iota
	RcLocal
	RcIntent
	RcDecide
	RcTold
)

type Record struct {
	Kind   int
	Client int
	Req    int
	Op     Op
	Fresh  Handle
	Reply  Reply
	Tx     Tx
	Part   Part
	Code   int
}

type Intent struct {
	Tx    Tx
	Part  Part
	Code  int
	Fresh Handle
}

type Verdict struct {
	Tx Tx
	Ok bool
}

type Last struct {
	Client int
	Req    int
	Reply  Reply
}

type Shard struct {
	Id      int
	Boot    int
	Next    int
	Nodes   []Node
	Intents []Intent
	Decided []Verdict
	Done    []Tx
	Lasts   []Last
}

// firstNext is behind the root's number, which no shard gives out again.
const firstNext = 2

// agreed is the Code of a verdict by which the parts of a transaction are done.
const agreed = 1

// state is a shard that is worked on. Its Nodes are empty, since they lie in nodes; its lists are its own memory.
type state struct {
	Shard
	nodes nodeMap
}

func RecordOk(r Record) bool {
	return hasOk(r) && sameRecord(r, justOf(r))
}

func RecordBytes(r Record) ([]byte, bool) {
	if !RecordOk(r) {
		return nil, false
	}
	return put(PutNum(nil, r.Kind), recordValues(r)...), true
}

func RecordRead(b []byte) (Record, bool) {
	r := &reader{bytes: b}
	rec := r.record()
	if !r.isAtEnd() || !RecordOk(rec) {
		return Record{}, false
	}
	return rec, true
}

func Replay(id int, l []Record) (Shard, bool) {
	if !isShard(id) {
		return Shard{}, false
	}
	for _, r := range l {
		if !RecordOk(r) {
			return Shard{}, false
		}
	}
	s := newState(id)
	for _, r := range l {
		s.do(r)
	}
	return s.shard(), true
}

func isClient(n int) bool {
	return n >= 0 && n < MaxClients
}

// hasOk tells whether what a record's kind has is as it should be, whatever the rest may be.
func hasOk(r Record) bool {
	switch r.Kind {
	case RcBoot:
		return true
	case RcLocal:
		return callOk(r) && isNoneOrOk(r.Fresh)
	case RcIntent:
		return TxOk(r.Tx) && PartOk(r.Part) && isCode(r.Code) && isNoneOrOk(r.Fresh)
	case RcDecide:
		return callOk(r) && TxOk(r.Tx) && isFlag(r.Code)
	case RcTold:
		return TxOk(r.Tx) && isFlag(r.Code)
	}
	return false
}

// callOk is of what a client asked and is answered. What lists is never recorded, so that records stay short.
func callOk(r Record) bool {
	return isClient(r.Client) && isNumber(r.Req) && OpOk(r.Op) && ReplyOk(r.Reply) && len(r.Reply.List) == 0
}

// justOf is the record with what its kind has alone.
func justOf(r Record) Record {
	switch r.Kind {
	case RcLocal:
		return Record{Kind: r.Kind, Client: r.Client, Req: r.Req, Op: r.Op, Fresh: r.Fresh, Reply: r.Reply}
	case RcIntent:
		return Record{Kind: r.Kind, Tx: r.Tx, Part: r.Part, Code: r.Code, Fresh: r.Fresh}
	case RcDecide:
		return Record{Kind: r.Kind, Tx: r.Tx, Code: r.Code, Client: r.Client, Req: r.Req, Op: r.Op, Reply: r.Reply}
	case RcTold:
		return Record{Kind: r.Kind, Tx: r.Tx, Code: r.Code}
	}
	return Record{Kind: r.Kind}
}

// recordValues tells what stands in the bytes of a record behind its kind, in order.
func recordValues(r Record) []any {
	switch r.Kind {
	case RcLocal:
		return []any{r.Client, r.Req, r.Op, r.Fresh, r.Reply}
	case RcIntent:
		return []any{r.Tx, r.Part, r.Code, r.Fresh}
	case RcDecide:
		return []any{r.Tx, r.Code, r.Client, r.Req, r.Op, r.Reply}
	case RcTold:
		return []any{r.Tx, r.Code}
	}
	return nil
}

// record reads nothing behind a kind that has nothing, or that there is not.
func (r *reader) record() Record {
	kind := r.number()
	switch kind {
	case RcLocal:
		return Record{Kind: kind, Client: r.number(), Req: r.number(), Op: r.op(), Fresh: r.handle(), Reply: r.reply()}
	case RcIntent:
		return Record{Kind: kind, Tx: r.tx(), Part: r.part(), Code: r.number(), Fresh: r.handle()}
	case RcDecide:
		return Record{Kind: kind, Tx: r.tx(), Code: r.number(), Client: r.number(), Req: r.number(), Op: r.op(), Reply: r.reply()}
	case RcTold:
		return Record{Kind: kind, Tx: r.tx(), Code: r.number()}
	}
	return Record{Kind: kind}
}

func sameRecord(a, b Record) bool {
	return a.Kind == b.Kind && a.Client == b.Client && a.Req == b.Req && sameOp(a.Op, b.Op) && a.Fresh == b.Fresh && sameReply(a.Reply, b.Reply) &&
		a.Tx == b.Tx && samePart(a.Part, b.Part) && a.Code == b.Code
}

func newState(id int) *state {
	s := &state{Shard: Shard{Id: id, Next: firstNext}, nodes: nodeMap{}}
	if id == rootHandle().Shard {
		s.nodes = nodesByHandle(Root().Nodes)
	}
	return s
}

// shard tells the state's own memory, not a copy of it.
func (s *state) shard() Shard {
	out := s.Shard
	out.Nodes = s.nodes.ascending()
	return out
}

// do is for a record that is RecordOk.
func (s *state) do(r Record) {
	does := [...]func(Record){RcBoot: s.boot, RcLocal: s.local, RcIntent: s.intend, RcDecide: s.decide, RcTold: s.told}
	does[r.Kind](r)
}

func (s *state) boot(Record) {
	s.Boot = min(s.Boot+1, MaxNum)
}

func (s *state) local(r Record) {
	s.keepLast(r)
	if r.Reply.Code != RpWell || !s.liesHere(r.Op) || s.isVoid(r.Op, r.Fresh) {
		return
	}
	s.nodes.do(r.Op, r.Fresh)
	// Even where the tree refuses: a number that was given out once must not be given out again.
	s.take(r.Fresh)
}

func (s *state) intend(r Record) {
	part := r.Part
	part.As = copiedText(part.As)
	s.Intents = append(s.Intents, Intent{Tx: r.Tx, Part: part, Code: r.Code, Fresh: r.Fresh})
	s.take(r.Fresh)
}

func (s *state) decide(r Record) {
	s.keepLast(r)
	s.Decided = append(s.Decided, Verdict{Tx: r.Tx, Ok: r.Code == agreed})
	if r.Code == agreed && s.isHere(r.Op.Dir) {
		s.doInDir(r.Op, r.Reply.H)
	}
	s.told(r)
}

func (s *state) told(r Record) {
	lock := s.lockOf(r.Tx)
	if r.Code == agreed && imag(lock) > 0 {
		s.doHeld(r.Tx)
	}
	if lock != 0 {
		s.Intents = slices.DeleteFunc(s.Intents, func(i Intent) bool { return i.Tx == r.Tx })
	}
	if !slices.Contains(s.Done, r.Tx) {
		s.Done = append(s.Done, r.Tx)
	}
}

// copiedText is nil for a text of no bytes, as the zero value has it.
func copiedText(text []byte) []byte {
	if len(text) == 0 {
		return nil
	}
	return joined(nil, text)
}

// keepLast leaves the Reply's List out: none has one, but there may be room behind it.
func (s *state) keepLast(r Record) {
	last := Last{Client: r.Client, Req: r.Req, Reply: Reply{Code: r.Reply.Code, H: r.Reply.H, Val: r.Reply.Val}}
	at := slices.IndexFunc(s.Lasts, func(l Last) bool { return l.Client == r.Client })
	if at < 0 {
		s.Lasts = append(s.Lasts, last)
		return
	}
	s.Lasts[at] = last
}

func (s *state) isHere(h Handle) bool {
	_, here := s.nodes[h]
	return here
}

// liesHere tells whether this shard can do the operation without asking another one.
func (s *state) liesHere(o Op) bool {
	d, here := s.nodes[o.Dir]
	if !here || !o.Dir.Dir {
		return true
	}
	switch o.Kind {
	case OpMake:
		return o.To.Shard == s.Id
	case OpLink:
		return o.To.Dir || o.To.Shard == s.Id
	case OpDrop, OpMove:
		h, has := d.find(o.Name)
		return !has || s.entryLiesHere(o, h)
	}
	return true
}

// entryLiesHere is of an operation that takes out an entry, which leads to h.
func (s *state) entryLiesHere(o Op, h Handle) bool {
	if o.Kind == OpDrop {
		return h.Shard == s.Id
	}
	return !o.To.Dir || o.To == o.Dir || o.To.Shard == s.Id && !h.Dir
}

// isVoid tells whether no shard that keeps to its numbers can have recorded the operation.
func (s *state) isVoid(o Op, fresh Handle) bool {
	switch o.Kind {
	case OpMake:
		return fresh.Shard != s.Id || fresh.Dir != o.To.Dir || fresh.Ino < s.Next
	case OpDrop:
		h, has := s.nodes[o.Dir].find(o.Name)
		return has && !s.isHere(h)
	}
	return false
}

func (s *state) take(fresh Handle) {
	if fresh.Shard == s.Id && fresh.Ino >= s.Next && fresh.Ino < MaxNum {
		s.Next = fresh.Ino + 1
	}
}

// lockOf adds up what the Intents of a transaction lock: real, what waits for the verdict alone; imaginary, what is held, since the verdict may have it done.
func (s *state) lockOf(x Tx) complex128 {
	sum := complex(0, 0)
	for _, i := range s.Intents {
		switch {
		case i.Tx != x:
			continue
		case i.isHeld():
			sum += complex(0, 1)
		default:
			sum += complex(1, 0)
		}
	}
	return sum
}

func (i Intent) isHeld() bool {
	return i.Code == RpWell
}

// doInDir does what a decision means for the operation's own directory, which is here; made is what a part has made.
func (s *state) doInDir(o Op, made Handle) {
	switch o.Kind {
	case OpMake:
		s.enter(o.Dir, o.Name, made)
	case OpLink:
		s.enter(o.Dir, o.Name, o.To)
	case OpDrop, OpMove:
		s.nodes.takeOut(o.Dir, o.Name)
	}
}

// enter is for a node that is here, whether or not it has room.
func (s *state) enter(dir Handle, name []byte, h Handle) {
	if s.nodes.roomCode(dir, name) == RpWell {
		s.nodes.enter(dir, name, h)
	}
}

func (s *state) doHeld(x Tx) {
	for _, i := range s.Intents {
		if i.Tx == x && i.isHeld() {
			s.doPart(i)
		}
	}
}

func (s *state) doPart(i Intent) {
	if i.Part.Kind == PaMake {
		s.makeNode(i.Fresh, i.Part.To)
		return
	}
	n, here := s.nodes[i.Part.H]
	if !here {
		return
	}
	switch i.Part.Kind {
	case PaUnlink:
		s.nodes.unlink(n.H)
	case PaRelink:
		n.Links = min(n.Links+1, MaxNum)
		s.nodes[n.H] = n
	case PaEnter:
		s.enter(n.H, i.Part.As, i.Part.To)
	case PaParent:
		n.Parent = i.Part.To
		s.nodes[n.H] = n
	}
}

func (s *state) makeNode(fresh, parent Handle) {
	if fresh.Shard != s.Id || s.isHere(fresh) {
		return
	}
	n := Node{H: fresh, Links: 1}
	if fresh.Dir {
		n.Parent = parent
	}
	s.nodes[fresh] = n
}
