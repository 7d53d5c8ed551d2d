package impl

import "slices"

const MaxScript = 400
const MaxNet = 80
const Reserve = 600

const (
	AcCall = iota
	AcDeliver
	AcDouble
	AcDrop
	AcTick
	AcCrash
	AcFuse
	AcStart
)

// maxKeep is at least as many sectors as a frame can have.
const maxKeep = 20

// maxOpen is how many transactions a shard has open at most.
const maxOpen = 3

// maxAge is how many ticks a transaction may stay open.
const maxAge = 8

// maxRounds and maxHeard keep settling from going on forever.
const maxRounds = 60
const maxHeard = 2000

// notBack is the To of a Call that did not come back.
const notBack = -1

type Setup struct {
	Shards  int
	Clients int
	Sectors int
	Settle  bool
}

type Action struct {
	Kind int
	Node int
	I    int
	Op   Op
	Keep []bool
	Torn int
}

type Deed struct {
	At     int
	Client int
	Req    int
	Op     Op
	Reply  Reply
}

type Call struct {
	Client int
	Req    int
	Op     Op
	From   int
	To     int
	Reply  Reply
}

type Result struct {
	Ok     bool
	Deeds  []Deed
	Calls  []Call
	Shards []Shard
	Up     []bool
	Net    int
	Acts   int
	Rounds int
}

// queue holds what waits, in the order in which it came.
type queue[T any] struct {
	items []T
}

// cluster is what a script plays with.
type cluster struct {
	now     int
	net     queue[[]byte]
	shards  []*member
	clients []*client
	deeds   []Deed
	calls   []Call
}

// client has its last request at the place call in the cluster's calls, while it waits.
type client struct {
	id    int
	in    *cluster
	asked int
	waits bool
	call  int
}

// member is a shard of a cluster. Its state is what its journal says, whether it is up or down.
type member struct {
	*state
	in      *cluster
	journal Journal
	up      bool
	fuse    *fuse
	open    queue[*transaction]
	begun   int
}

// fuse is how the disk crashes at the next commit.
type fuse struct {
	keep []bool
	torn int
}

// fallen is what a shard panics with when its fuse burns: nothing else of the step may happen.
type fallen struct {
	who *member
}

// request is what a client asks for.
type request struct {
	client int
	req    int
	op     Op
}

// share is the part of a transaction that one shard does, and what this one says of it.
type share struct {
	Part
	shard int
	voted bool
	vote  int
}

// transaction is open: what is known of it is lost in a fall. The walk of a moved directory is at a place of the way from its new directory up.
type transaction struct {
	request
	tx     Tx
	shares []share
	made   Handle
	moved  Handle
	age    int
	walks  bool
	at     Handle
	steps  int
}

func SetupOk(s Setup) bool {
	return s.Shards >= 1 && s.Shards <= MaxShards && s.Clients >= 1 && s.Clients <= MaxClients && s.Sectors >= 1 && s.Sectors <= MaxSectors
}

func ActionOk(a Action) bool {
	if a.Kind < AcCall || a.Kind > AcStart || !isEnd(a.Node) || !isNumber(a.I) {
		return false
	}
	if len(a.Keep) > maxKeep || a.Torn < -1 || a.Torn > maxKeep {
		return false
	}
	if a.Kind == AcCall {
		return OpOk(a.Op)
	}
	return sameOp(a.Op, Op{})
}

func Run(s Setup, script []Action) Result {
	if !SetupOk(s) || len(script) > MaxScript {
		return Result{}
	}
	for _, a := range script {
		if !ActionOk(a) {
			return Result{}
		}
	}
	c := newCluster(s)
	for _, a := range script {
		c.now++
		c.act(a)
	}
	rounds := 0
	if s.Settle {
		rounds = c.settle()
	}
	return c.result(rounds)
}

func (q *queue[T]) count() int {
	return len(q.items)
}

func (q *queue[T]) put(item T) {
	q.items = append(q.items, item)
}

// look is for a place that there is.
func (q *queue[T]) look(place int) T {
	return q.items[place]
}

// pull is for a place that there is.
func (q *queue[T]) pull(place int) T {
	item := q.items[place]
	q.items = slices.Delete(q.items, place, place+1)
	return item
}

// place tells -1 where none is meant.
func (q *queue[T]) place(meant func(T) bool) int {
	return slices.IndexFunc(q.items, meant)
}

// all tells them as they are now, whatever comes and goes meanwhile.
func (q *queue[T]) all() []T {
	return slices.Clone(q.items)
}

func newCluster(s Setup) *cluster {
	c := &cluster{}
	for id := range s.Shards {
		// A setup that is ok asks for no more sectors than a disk may have.
		disk, _ := DiskNew(s.Sectors)
		m := &member{state: newState(id), in: c, journal: Journal{Disk: disk}}
		m.start()
		c.shards = append(c.shards, m)
	}
	for id := range s.Clients {
		c.clients = append(c.clients, &client{id: id, in: c})
	}
	return c
}

func (c *cluster) act(a Action) {
	switch a.Kind {
	case AcCall:
		c.call(a)
	case AcDeliver, AcDouble, AcDrop:
		c.carry(a)
	case AcTick:
		c.tick(a.Node)
	default:
		c.touch(a)
	}
}

func (c *cluster) call(a Action) {
	if a.Node >= len(c.clients) || a.Op.Dir.Shard >= len(c.shards) || a.Op.To.Shard >= len(c.shards) {
		return
	}
	if who := c.clients[a.Node]; !who.waits {
		who.begin(a.Op)
	}
}

// carry is of a message in the net.
func (c *cluster) carry(a Action) {
	count := c.net.count()
	if count == 0 {
		return
	}
	place := a.I % count
	switch a.Kind {
	case AcDeliver:
		c.hear(c.net.pull(place))
	case AcDouble:
		c.hear(c.net.look(place))
	case AcDrop:
		c.net.pull(place)
	}
}

func (c *cluster) tick(node int) {
	at := node - MaxShards
	switch {
	case node < len(c.shards) && c.shards[node].up:
		step(c.shards[node].tick)
	case at >= 0 && at < len(c.clients) && c.clients[at].waits:
		c.clients[at].ask()
	}
}

// touch is of what happens to a shard alone.
func (c *cluster) touch(a Action) {
	if a.Node >= len(c.shards) {
		return
	}
	m := c.shards[a.Node]
	switch {
	case a.Kind == AcCrash:
		m.fall()
	case a.Kind == AcFuse && m.up:
		m.fuse = &fuse{keep: a.Keep, torn: a.Torn}
	case a.Kind == AcStart && !m.up:
		m.start()
	}
}

// settle tells how many rounds it took until all was quiet.
func (c *cluster) settle() int {
	for _, m := range c.shards {
		m.fuse = nil
		if !m.up {
			m.start()
		}
	}
	for round := range maxRounds {
		c.hearAll()
		if c.isQuiet() {
			return round
		}
		for node := range MaxShards + MaxClients {
			c.tick(node)
		}
	}
	return maxRounds
}

// hearAll hears what comes meanwhile, too.
func (c *cluster) hearAll() {
	for heard := 0; heard < maxHeard && c.net.count() > 0; heard++ {
		c.now++
		c.hear(c.net.pull(0))
	}
}

func (c *cluster) isQuiet() bool {
	for _, m := range c.shards {
		if len(m.Intents) > 0 || m.open.count() > 0 {
			return false
		}
	}
	for _, who := range c.clients {
		if who.waits {
			return false
		}
	}
	return c.net.count() == 0
}

func (c *cluster) result(rounds int) Result {
	r := Result{Ok: true, Deeds: c.deeds, Calls: c.calls, Net: c.net.count(), Rounds: rounds}
	for _, m := range c.shards {
		r.Shards = append(r.Shards, m.shard())
		r.Up = append(r.Up, m.up)
		r.Acts += m.open.count()
	}
	return r
}

func (c *cluster) send(msg Msg) {
	b, ok := MsgBytes(msg)
	if ok && c.net.count() < MaxNet {
		c.net.put(b)
	}
}

func (c *cluster) hear(b []byte) {
	msg, ok := MsgRead(b)
	if !ok {
		return
	}
	at := msg.To - MaxShards
	switch {
	case msg.To < len(c.shards) && c.shards[msg.To].up:
		step(func() { c.shards[msg.To].hear(msg) })
	case at >= 0 && at < len(c.clients):
		c.clients[at].hear(msg)
	}
}

// step is what a shard does at once.
func step(do func()) {
	defer func() {
		switch is := recover().(type) {
		case nil:
		case fallen:
			is.who.fall()
		default:
			panic(is)
		}
	}()
	do()
}

func (who *client) begin(o Op) {
	who.asked++
	who.waits = true
	who.call = len(who.in.calls)
	who.in.calls = append(who.in.calls, Call{Client: who.id, Req: who.asked, Op: copiedOp(o), From: who.in.now, To: notBack})
	who.ask()
}

// ask is of a client that waits.
func (who *client) ask() {
	o := who.in.calls[who.call].Op
	who.in.send(Msg{Kind: MsRequest, From: MaxShards + who.id, To: o.Dir.Shard, Req: who.asked, Op: o})
}

func (who *client) hear(msg Msg) {
	if !who.waits || msg.Kind != MsReply || msg.Req != who.asked {
		return
	}
	who.waits = false
	who.in.calls[who.call].To = who.in.now
	who.in.calls[who.call].Reply = msg.Reply
}

func copiedOp(o Op) Op {
	o.Name, o.As = copiedText(o.Name), copiedText(o.As)
	return o
}

// load makes the state anew by what lies in the journal.
func (m *member) load() {
	m.state = newState(m.Id)
	for _, b := range m.journal.reopen() {
		if r, ok := RecordRead(b); ok {
			m.do(r)
		}
	}
}

// start needs no look at the journal: the state is what it says, and nothing is open.
func (m *member) start() {
	m.begun = 0
	m.up = m.commit(Record{Kind: RcBoot})
}

func (m *member) fall() {
	m.up = false
	m.fuse = nil
	m.open = queue[*transaction]{}
	m.load()
}

// commit tells whether the record is there and done; the deeds are put behind the others if it is there at all.
func (m *member) commit(r Record, deeds ...Deed) bool {
	// What a shard records is always a record.
	b, _ := RecordBytes(r)
	if m.fuse != nil {
		return m.burn(b, deeds)
	}
	if !m.journal.add(b) {
		return false
	}
	m.do(r)
	m.in.deeds = append(m.in.deeds, deeds...)
	return true
}

// burn comes back only where there is no room for the record.
func (m *member) burn(b []byte, deeds []Deed) bool {
	was, seq := m.fuse, m.journal.Seq
	m.fuse = nil
	if !m.journal.write(b) {
		return false
	}
	m.journal.Disk.crash(was.keep, was.torn)
	m.journal.reopen()
	if m.journal.Seq > seq {
		m.in.deeds = append(m.in.deeds, deeds...)
	}
	panic(fallen{who: m})
}

func (m *member) send(to int, msg Msg) {
	msg.From, msg.To = m.Id, to
	m.in.send(msg)
}

func (m *member) answer(r request, reply Reply) {
	m.send(MaxShards+r.client, Msg{Kind: MsReply, Req: r.req, Reply: reply})
}

// deedOf is none of a Busy: what was not done is no deed.
func (m *member) deedOf(r request, reply Reply) []Deed {
	if reply.Code == RpBusy {
		return nil
	}
	return []Deed{{At: m.in.now, Client: r.client, Req: r.req, Op: copiedOp(r.op), Reply: reply}}
}

func (m *member) hasRoom() bool {
	return len(m.journal.Disk.Safe)-m.journal.Next >= Reserve
}

func (m *member) isCrowded() bool {
	return len(m.nodes)+len(m.Intents) >= MaxNodes
}

// noTx is no transaction's: what is locked but for it is locked for all.
func noTx() Tx {
	return Tx{Shard: -1}
}

// locks tells the handle that the Intent holds.
func (i Intent) locks() Handle {
	if i.Part.Kind == PaMake {
		return i.Fresh
	}
	return i.Part.H
}

func (m *member) isLocked(h Handle, but Tx) bool {
	intended := slices.ContainsFunc(m.Intents, func(i Intent) bool { return i.Tx != but && i.locks() == h })
	return intended || m.open.place(func(t *transaction) bool { return t.tx != but && t.op.Dir == h }) >= 0
}

// transactionOf is nil where it is not open.
func (m *member) transactionOf(x Tx) *transaction {
	place := m.open.place(func(t *transaction) bool { return t.tx == x })
	if place < 0 {
		return nil
	}
	return m.open.look(place)
}

// lastOf has Req 0 where the client has none: requests are counted from 1 on.
func (m *member) lastOf(client int) Last {
	for _, l := range m.Lasts {
		if l.Client == client {
			return l
		}
	}
	return Last{}
}

func (m *member) hear(msg Msg) {
	hears := [...]func(*member, Msg){
		MsRequest: (*member).hearRequest,
		MsReply:   (*member).hearNothing,
		MsPrepare: (*member).hearPrepare,
		MsVote:    (*member).hearVote,
		MsAsk:     (*member).hearAsk,
		MsTell:    (*member).hearTell,
		MsUp:      (*member).hearUp,
		MsIs:      (*member).hearIs,
	}
	hears[msg.Kind](m, msg)
}

func (m *member) hearNothing(Msg) {}

func (m *member) hearRequest(msg Msg) {
	r := request{client: msg.From - MaxShards, req: msg.Req, op: msg.Op}
	if !isClient(r.client) || r.op.Dir.Shard != m.Id {
		return
	}
	last := m.lastOf(r.client)
	isOpen := m.open.place(func(t *transaction) bool { return t.client == r.client && t.req == r.req }) >= 0
	switch {
	case last.Req > r.req:
	case last.Req == r.req:
		m.answer(r, last.Reply)
	case isOpen:
	case r.op.looks():
		m.read(r)
	default:
		m.change(r)
	}
}

// looks tells whether the operation changes nothing.
func (o Op) looks() bool {
	return o.Kind == OpLook || o.Kind == OpList || o.Kind == OpRead
}

func (m *member) read(r request) {
	if m.isLocked(r.op.Dir, noTx()) {
		m.answer(r, Reply{Code: RpBusy})
		return
	}
	reply := m.nodes.do(r.op, Handle{})
	m.in.deeds = append(m.in.deeds, m.deedOf(r, reply)...)
	m.answer(r, reply)
}

func (m *member) change(r request) {
	switch {
	case !m.hasRoom():
		m.answer(r, Reply{Code: RpBusy})
	case m.isLocked(r.op.Dir, noTx()):
		m.endAlone(r, Reply{Code: RpBusy}, Handle{})
	case m.liesHere(r.op):
		m.changeHere(r)
	default:
		m.changeApart(r)
	}
}

func (m *member) endAlone(r request, reply Reply, fresh Handle) {
	rec := Record{Kind: RcLocal, Client: r.client, Req: r.req, Op: r.op, Fresh: fresh, Reply: reply}
	if m.commit(rec, m.deedOf(r, reply)...) {
		m.answer(r, reply)
	}
}

func (m *member) changeHere(r request) {
	if m.isBusyHere(r.op) {
		m.endAlone(r, Reply{Code: RpBusy}, Handle{})
		return
	}
	// Of the Shard that is asked for: where Dir is none the reply is the tree's then, even if that is another one.
	fresh := Handle{Shard: r.op.To.Shard, Ino: m.Next, Dir: r.op.To.Dir}
	reply := m.nodes.clone().do(r.op, fresh)
	// H is what is new, for no other change than OpMake tells one.
	m.endAlone(r, reply, reply.H)
}

// isBusyHere is of an operation that lies here.
func (m *member) isBusyHere(o Op) bool {
	switch o.Kind {
	case OpMake:
		return m.isCrowded()
	case OpDrop:
		h, has := m.nodes[o.Dir].find(o.Name)
		return has && m.isLocked(h, noTx())
	case OpLink, OpMove:
		return o.To != o.Dir && o.To.Shard == m.Id && m.isLocked(o.To, noTx())
	}
	return false
}

// changeApart is of an operation whose Dir is here, and that other shards have a part in.
func (m *member) changeApart(r request) {
	code := RpWell
	if r.op.Kind == OpMake || r.op.Kind == OpLink {
		code = m.nodes.roomCode(r.op.Dir, r.op.Name)
	}
	switch {
	case code != RpWell:
		m.endAlone(r, Reply{Code: code}, Handle{})
	case m.open.count() >= maxOpen:
		m.endAlone(r, Reply{Code: RpBusy}, Handle{})
	default:
		m.begin(r)
	}
}

func (m *member) begin(r request) {
	h, _ := m.nodes[r.op.Dir].find(r.op.Name)
	t := &transaction{request: r, tx: Tx{Shard: m.Id, Boot: m.Boot, N: m.begun}, shares: sharesOf(r.op, h), moved: h}
	m.begun++
	m.open.put(t)
	for i, s := range t.shares {
		if s.shard != m.Id {
			m.prepare(t, s)
			continue
		}
		if said, says := m.getReady(t.tx, s.Part); says {
			t.hold(i, said.Code, said.Fresh)
		}
	}
	m.count(t)
}

// sharesOf is of an operation whose entry, if it takes one out, leads to h.
func sharesOf(o Op, h Handle) []share {
	switch o.Kind {
	case OpMake:
		return []share{{Part: Part{Kind: PaMake, H: o.To, To: o.Dir}, shard: o.To.Shard}}
	case OpLink:
		return []share{{Part: Part{Kind: PaRelink, H: o.To}, shard: o.To.Shard}}
	case OpDrop:
		return []share{{Part: Part{Kind: PaUnlink, H: h}, shard: h.Shard}}
	}
	shares := []share{{Part: Part{Kind: PaEnter, H: o.To, As: o.As, To: h}, shard: o.To.Shard}}
	if h.Dir {
		shares = append(shares,
			share{Part: Part{Kind: PaGate}, shard: rootHandle().Shard},
			share{Part: Part{Kind: PaParent, H: h, To: o.To}, shard: h.Shard})
	}
	return shares
}

func (m *member) prepare(t *transaction, s share) {
	m.send(s.shard, Msg{Kind: MsPrepare, Tx: t.tx, Part: s.Part})
}

// hold keeps what is said of a part.
func (t *transaction) hold(place, code int, made Handle) {
	t.shares[place].voted, t.shares[place].vote = true, code
	if t.shares[place].Kind == PaMake {
		t.made = made
	}
}

func (m *member) hearPrepare(msg Msg) {
	if said, says := m.getReady(msg.Tx, msg.Part); says {
		m.send(msg.From, Msg{Kind: MsVote, Tx: msg.Tx, Part: msg.Part, Code: said.Code, H: said.Fresh})
	}
}

// getReady tells what the shard says of a part, and whether it says anything.
func (m *member) getReady(x Tx, p Part) (Intent, bool) {
	for _, i := range m.Intents {
		if i.Tx == x && i.Part.Kind == p.Kind {
			return i, true
		}
	}
	if slices.Contains(m.Done, x) {
		return Intent{}, false
	}
	if m.isBusyFor(x, p) {
		return Intent{Code: RpBusy}, true
	}
	i := Intent{Code: m.codeOf(p)}
	if p.Kind == PaMake {
		i.Fresh = Handle{Shard: m.Id, Ino: m.Next, Dir: p.H.Dir}
	}
	return i, m.commit(Record{Kind: RcIntent, Tx: x, Part: p, Code: i.Code, Fresh: i.Fresh})
}

func (m *member) isBusyFor(x Tx, p Part) bool {
	switch {
	case !m.hasRoom():
		return true
	case p.Kind == PaMake:
		return m.isCrowded()
	}
	return m.isLocked(p.H, x)
}

// codeOf tells what keeps a part from being done.
func (m *member) codeOf(p Part) int {
	switch {
	case p.Kind == PaMake || p.Kind == PaGate:
		return RpWell
	case !m.isHere(p.H):
		return RpStale
	case p.Kind == PaUnlink && len(m.nodes[p.H].Entries) > 0:
		return RpNotEmpty
	case p.Kind == PaEnter:
		return m.nodes.roomCode(p.H, p.As)
	}
	return RpWell
}

func (m *member) hearVote(msg Msg) {
	t := m.transactionOf(msg.Tx)
	if t == nil {
		return
	}
	place := slices.IndexFunc(t.shares, func(s share) bool { return s.Kind == msg.Part.Kind })
	if place >= 0 && !t.shares[place].voted {
		t.hold(place, msg.Code, msg.H)
	}
	m.count(t)
}

func (m *member) count(t *transaction) {
	code, all := t.counted()
	switch {
	case !all:
	case code != RpWell || len(t.shares) == 1:
		m.end(t, code)
	default:
		if !t.walks {
			t.walks, t.at = true, t.op.To
		}
		m.goOn(t)
	}
}

// counted tells what all votes together say, and whether they say anything yet.
func (t *transaction) counted() (int, bool) {
	code, all := RpWell, true
votes:
	for _, s := range t.shares {
		switch {
		case !s.voted:
			all = false
		case s.vote == RpBusy:
			// Whatever the others say or said: it is of no use to wait for them.
			code, all = RpBusy, true
			break votes
		case code == RpWell:
			code = s.vote
		}
	}
	return code, all
}

// goOn walks as far up as it is known here.
func (m *member) goOn(t *transaction) {
	for {
		switch {
		case t.steps >= MaxDeep:
			m.end(t, RpDeep)
			return
		case t.at == t.moved:
			m.end(t, RpLoop)
			return
		case t.at == rootHandle():
			m.end(t, RpWell)
			return
		case t.at.Shard != m.Id:
			m.send(t.at.Shard, Msg{Kind: MsUp, Tx: t.tx, Req: t.steps, H: t.at})
			return
		}
		code, parent := m.parentOf(t.at, t.tx)
		if !m.goUp(t, code, parent) {
			return
		}
	}
}

// parentOf tells what is known of a directory's parent for a transaction.
func (m *member) parentOf(h Handle, x Tx) (int, Handle) {
	for _, i := range m.Intents {
		if i.Tx != x && i.Part.Kind == PaParent && i.Part.H == h {
			return RpBusy, Handle{}
		}
	}
	n, here := m.nodes[h]
	if !here {
		return RpStale, Handle{}
	}
	return RpWell, n.Parent
}

// goUp tells false where the walk ends.
func (m *member) goUp(t *transaction, code int, parent Handle) bool {
	switch code {
	case RpWell:
		t.at = parent
		t.steps++
		return true
	case RpBusy:
		m.end(t, RpBusy)
	default:
		m.end(t, RpWell)
	}
	return false
}

func (m *member) hearUp(msg Msg) {
	code, parent := m.parentOf(msg.H, msg.Tx)
	m.send(msg.From, Msg{Kind: MsIs, Tx: msg.Tx, Req: msg.Req, Code: code, H: parent})
}

func (m *member) hearIs(msg Msg) {
	t := m.transactionOf(msg.Tx)
	if t == nil || !t.walks || t.steps != msg.Req {
		return
	}
	if m.goUp(t, msg.Code, msg.H) {
		m.goOn(t)
	}
}

// end decides. Where that can't be recorded the transaction stays open.
func (m *member) end(t *transaction, code int) {
	reply, verdict := Reply{Code: code}, 0
	if code == RpWell {
		reply.H, verdict = t.made, agreed
	}
	rec := Record{Kind: RcDecide, Tx: t.tx, Code: verdict, Client: t.client, Req: t.req, Op: t.op, Reply: reply}
	if !m.commit(rec, m.deedOf(t.request, reply)...) {
		return
	}
	m.open.pull(m.open.place(func(other *transaction) bool { return other == t }))
	m.answer(t.request, reply)
	for _, s := range t.shares {
		if s.shard != m.Id {
			m.send(s.shard, Msg{Kind: MsTell, Tx: t.tx, Code: verdict})
		}
	}
}

func (m *member) hearAsk(msg Msg) {
	if msg.Tx.Shard != m.Id || m.transactionOf(msg.Tx) != nil {
		return
	}
	verdict := 0
	if slices.Contains(m.Decided, Verdict{Tx: msg.Tx, Ok: true}) {
		verdict = agreed
	}
	m.send(msg.From, Msg{Kind: MsTell, Tx: msg.Tx, Code: verdict})
}

func (m *member) hearTell(msg Msg) {
	if msg.Tx.Shard != m.Id && m.lockOf(msg.Tx) != 0 {
		m.commit(Record{Kind: RcTold, Tx: msg.Tx, Code: msg.Code})
	}
}

func (m *member) tick() {
	for _, x := range m.intended() {
		switch {
		case x.Shard != m.Id:
			m.send(x.Shard, Msg{Kind: MsAsk, Tx: x})
		case m.transactionOf(x) == nil:
			m.commit(Record{Kind: RcTold, Tx: x})
		}
	}
	for _, t := range m.open.all() {
		m.grow(t)
	}
}

// intended tells the transactions of the Intents, each once.
func (m *member) intended() []Tx {
	var all []Tx
	for _, i := range m.Intents {
		if !slices.Contains(all, i.Tx) {
			all = append(all, i.Tx)
		}
	}
	return all
}

// grow is a tick of an open transaction.
func (m *member) grow(t *transaction) {
	t.age++
	if t.age > maxAge {
		m.end(t, RpBusy)
		return
	}
	for _, s := range t.shares {
		if s.shard != m.Id && !s.voted {
			m.prepare(t, s)
		}
	}
	if t.walks {
		m.goOn(t)
	}
}
