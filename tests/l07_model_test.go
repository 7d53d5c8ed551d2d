package tests

import (
	"slices"

	"loop.example/g00341/impl"
)

// hostModel: a shard of a cluster as the chapter tells it. Its journal is the list of its records, and how many sectors they take.
type hostModel struct {
	*shardModel
	in      *clusterModel
	records []impl.Record
	sectors int
	up      bool
	fuse    *impl.Action
	open    []*dealModel
	opened  int
}

// dealModel: an open transaction. A vote is -1 as long as it lacks; the way is where the walk was, and is.
type dealModel struct {
	tx     impl.Tx
	client int
	req    int
	op     impl.Op
	h      impl.Handle
	parts  []impl.Part
	homes  []int
	votes  []int
	fresh  impl.Handle
	ticks  int
	way    []impl.Handle
}

// clusterModel: the net holds messages as they are, not their bytes; who falls does not panic, but is not up any more.
type clusterModel struct {
	setup   impl.Setup
	now     int
	net     []impl.Msg
	hosts   []*hostModel
	asked   []int
	waits   []bool
	deeds   []impl.Deed
	calls   []impl.Call
	rounds  int
	met     map[string]int
	overall int
}

func newClusterModel(s impl.Setup) *clusterModel {
	c := &clusterModel{setup: s, asked: make([]int, s.Clients), waits: make([]bool, s.Clients), met: map[string]int{}}
	for id := range s.Shards {
		h := &hostModel{in: c, shardModel: newShardModel(id)}
		c.hosts = append(c.hosts, h)
		h.start()
	}
	return c
}

func (c *clusterModel) meet(what string) { c.met[what]++ }

func (c *clusterModel) send(m impl.Msg) {
	c.overall++
	if len(c.net) >= impl.MaxNet {
		c.meet("a message is lost in a full net")
		return
	}
	c.net = append(c.net, m)
}

func (c *clusterModel) do(a impl.Action) {
	c.now++
	switch a.Kind {
	case impl.AcCall:
		c.call(a.Node, a.Op)
	case impl.AcDeliver, impl.AcDouble, impl.AcDrop:
		c.carry(a)
	case impl.AcTick:
		c.tick(a.Node)
	case impl.AcCrash:
		if a.Node < len(c.hosts) {
			c.hosts[a.Node].fall()
		}
	case impl.AcFuse:
		if a.Node < len(c.hosts) && c.hosts[a.Node].up {
			c.hosts[a.Node].fuse = &a
		}
	case impl.AcStart:
		if a.Node < len(c.hosts) && !c.hosts[a.Node].up {
			c.hosts[a.Node].start()
		}
	}
}

func (c *clusterModel) call(who int, op impl.Op) {
	if who >= c.setup.Clients || c.waits[who] || op.Dir.Shard >= c.setup.Shards || op.To.Shard >= c.setup.Shards {
		return
	}
	c.asked[who]++
	c.waits[who] = true
	c.calls = append(c.calls, impl.Call{Client: who, Req: c.asked[who], Op: op, From: c.now, To: -1})
	c.ask(who)
}

func (c *clusterModel) callOf(who int) *impl.Call {
	for i := range c.calls {
		if c.calls[i].Client == who && c.calls[i].Req == c.asked[who] {
			return &c.calls[i]
		}
	}
	return nil
}

func (c *clusterModel) ask(who int) {
	op := c.callOf(who).Op
	c.send(impl.Msg{Kind: impl.MsRequest, From: impl.MaxShards + who, To: op.Dir.Shard, Req: c.asked[who], Op: op})
}

func (c *clusterModel) carry(a impl.Action) {
	if len(c.net) == 0 {
		return
	}
	i := a.I % len(c.net)
	m := c.net[i]
	if a.Kind != impl.AcDouble {
		c.net = append(slices.Clone(c.net[:i]), c.net[i+1:]...)
	}
	if a.Kind != impl.AcDrop {
		c.hear(m)
	}
}

func (c *clusterModel) hear(m impl.Msg) {
	if m.To < impl.MaxShards {
		if h := c.hosts[m.To]; h.up {
			h.hear(m)
		} else {
			c.meet("a message to a shard that is down")
		}
		return
	}
	who := m.To - impl.MaxShards
	switch {
	case !c.waits[who]:
		c.meet("a reply to a client that waits for nothing")
	case m.Req != c.asked[who]:
		c.meet("a reply of another request")
	default:
		c.waits[who] = false
		c.callOf(who).To = c.now
		c.callOf(who).Reply = m.Reply
	}
}

func (c *clusterModel) tick(node int) {
	who := node - impl.MaxShards
	if node < len(c.hosts) && c.hosts[node].up {
		c.hosts[node].tick()
	}
	if who >= 0 && who < c.setup.Clients && c.waits[who] {
		c.ask(who)
	}
}

func (c *clusterModel) isQuiet() bool {
	for _, h := range c.hosts {
		if len(h.Intents)+len(h.open) > 0 {
			return false
		}
	}
	return !slices.Contains(c.waits, true) && len(c.net) == 0
}

func (c *clusterModel) settle() {
	for _, h := range c.hosts {
		h.fuse = nil
		if !h.up {
			h.start()
		}
	}
	for c.rounds = 0; c.rounds < 60; c.rounds++ {
		for n := 0; n < 2000 && len(c.net) > 0; n++ {
			m := c.net[0]
			c.net = slices.Clone(c.net[1:])
			c.now++
			c.hear(m)
		}
		if c.isQuiet() {
			return
		}
		for node := range impl.MaxShards + impl.MaxClients {
			c.tick(node)
		}
	}
}

func (c *clusterModel) result() impl.Result {
	r := impl.Result{Ok: true, Deeds: c.deeds, Calls: c.calls, Net: len(c.net), Rounds: c.rounds}
	for _, h := range c.hosts {
		r.Shards = append(r.Shards, h.shard())
		r.Up = append(r.Up, h.up)
		r.Acts += len(h.open)
	}
	return r
}

func (h *hostModel) replay() {
	h.shardModel = newShardModel(h.Id)
	for _, r := range h.records {
		h.play(r)
	}
}

func (h *hostModel) start() {
	h.replay()
	h.open, h.opened, h.fuse = nil, 0, nil
	h.up = h.commit(impl.Record{Kind: impl.RcBoot})
	if !h.up {
		h.in.meet("a shard that can't be started")
	}
}

func (h *hostModel) fall() {
	h.up, h.open, h.fuse = false, nil, nil
	h.replay()
}

func sectorsOf(r impl.Record) int {
	return max(1, (len(recordForm(r))+impl.Load-1)/impl.Load)
}

func (h *hostModel) commit(r impl.Record, deeds ...impl.Deed) bool {
	fuse, n := h.fuse, sectorsOf(r)
	h.fuse = nil
	if h.sectors+n > h.in.setup.Sectors {
		return false
	}
	whole := true
	for i := range n {
		if fuse != nil && (i >= len(fuse.Keep) || !fuse.Keep[i] || i == fuse.Torn) {
			whole = false
		}
	}
	if whole {
		h.records = append(h.records, r)
		h.sectors += n
		h.in.deeds = append(h.in.deeds, deeds...)
	}
	if fuse != nil {
		h.in.meet("a fuse at a record of kind " + string(rune('0'+r.Kind)))
		h.fall()
		return false
	}
	h.play(r)
	return true
}

func (h *hostModel) send(to int, m impl.Msg) {
	m.From, m.To = h.Id, to
	h.in.send(m)
}

func (h *hostModel) hasRoom() bool { return h.in.setup.Sectors-h.sectors >= impl.Reserve }

func (h *hostModel) crowded() bool { return len(h.Nodes)+len(h.Intents) >= impl.MaxNodes }

// lockers: who holds a handle, and how.
func (h *hostModel) lockers(of impl.Handle) map[impl.Tx]string {
	by := map[impl.Tx]string{}
	for _, i := range h.Intents {
		held := i.Part.H
		if i.Part.Kind == impl.PaMake {
			held = i.Fresh
		}
		if held == of {
			by[i.Tx] = "an Intent"
		}
	}
	for _, d := range h.open {
		if d.op.Dir == of {
			by[d.tx] = "an open transaction"
		}
	}
	return by
}

func (h *hostModel) deal(x impl.Tx) *dealModel {
	for _, d := range h.open {
		if d.tx == x {
			return d
		}
	}
	return nil
}

func (h *hostModel) reply(client, req int, r impl.Reply) {
	h.send(impl.MaxShards+client, impl.Msg{Kind: impl.MsReply, Req: req, Reply: r})
}

// deeds: none for what is Busy.
func (h *hostModel) deeds(client, req int, op impl.Op, r impl.Reply) []impl.Deed {
	if r.Code == impl.RpBusy {
		return nil
	}
	return []impl.Deed{{At: h.in.now, Client: client, Req: req, Op: op, Reply: r}}
}

func (h *hostModel) hear(m impl.Msg) {
	switch m.Kind {
	case impl.MsRequest:
		h.hearRequest(m)
	case impl.MsPrepare:
		if code, fresh := h.ready(m.Tx, m.Part); code >= 0 {
			h.send(m.From, impl.Msg{Kind: impl.MsVote, Tx: m.Tx, Part: m.Part, Code: code, H: fresh})
		}
	case impl.MsVote:
		h.hearVote(m)
	case impl.MsAsk:
		h.hearAsk(m)
	case impl.MsTell:
		if slices.ContainsFunc(h.Intents, func(i impl.Intent) bool { return i.Tx == m.Tx }) {
			h.commit(impl.Record{Kind: impl.RcTold, Tx: m.Tx, Code: m.Code})
		} else {
			h.in.meet("a tell of what is not intended")
		}
	case impl.MsUp:
		code, parent := h.above(m.H, m.Tx)
		h.send(m.From, impl.Msg{Kind: impl.MsIs, Tx: m.Tx, Req: m.Req, Code: code, H: parent})
	case impl.MsIs:
		d := h.deal(m.Tx)
		if d == nil || len(d.way) == 0 || len(d.way)-1 != m.Req {
			h.in.meet("an answer to no step of a walk")
			return
		}
		h.step(d, m.Code, m.H)
	}
}

func (h *hostModel) hearRequest(m impl.Msg) {
	client, req, op := m.From-impl.MaxShards, m.Req, m.Op
	for _, l := range h.Lasts {
		if l.Client == client && l.Req > req {
			h.in.meet("a request ahead of the last one")
			return
		}
		if l.Client == client && l.Req == req {
			h.in.meet("the last request again")
			h.reply(client, req, l.Reply)
			return
		}
	}
	for _, d := range h.open {
		if d.client == client && d.req == req {
			h.in.meet("a request that is open")
			return
		}
	}
	busy := impl.Reply{Code: impl.RpBusy}
	locked := false
	for _, by := range h.lockers(op.Dir) {
		locked = true
		h.in.meet("a request on what is locked by " + by)
	}
	if op.Kind <= impl.OpRead {
		r := busy
		if !locked {
			r = h.answer(op)
		}
		h.in.deeds = append(h.in.deeds, h.deeds(client, req, op, r)...)
		h.reply(client, req, r)
		return
	}
	if !h.hasRoom() {
		h.in.meet("a request without room")
		h.reply(client, req, busy)
		return
	}
	if locked {
		h.alone(m, busy)
		return
	}
	if h.elsewhere(op) == "" {
		h.alone(m, h.here(op))
		return
	}
	h.apart(m)
}

// alone: to end a request alone.
func (h *hostModel) alone(m impl.Msg, r impl.Reply) {
	client := m.From - impl.MaxShards
	fresh := impl.Handle{}
	if m.Op.Kind == impl.OpMake && r.Code == impl.RpWell {
		fresh = r.H
	}
	rec := impl.Record{Kind: impl.RcLocal, Client: client, Req: m.Req, Op: m.Op, Fresh: fresh, Reply: r}
	if h.commit(rec, h.deeds(client, m.Req, m.Op, r)...) {
		h.reply(client, m.Req, r)
	}
}

// here: what is said of an operation that lies here.
func (h *hostModel) here(op impl.Op) impl.Reply {
	busy := ""
	switch op.Kind {
	case impl.OpMake:
		if h.crowded() {
			busy = "a make on a crowded shard"
		}
	case impl.OpDrop:
		if e := h.entry(op.Dir, op.Name); e != nil && len(h.lockers(e.H)) > 0 {
			busy = "a drop of what is locked"
		}
	case impl.OpLink, impl.OpMove:
		if op.To != op.Dir && op.To.Shard == h.Id && len(h.lockers(op.To)) > 0 {
			busy = "a link or move to what is locked"
		}
	}
	if busy != "" {
		h.in.meet(busy)
		return impl.Reply{Code: impl.RpBusy}
	}
	return h.answer(op)
}

// answer: what chapter 4 says over the nodes of a shard alone.
func (m *shardModel) answer(op impl.Op) impl.Reply {
	ofFile := op.Kind == impl.OpRead || op.Kind == impl.OpWrite
	n, e := m.node(op.Dir), m.entry(op.Dir, op.Name)
	code := impl.RpWell
	switch {
	case ofFile && op.Dir.Dir:
		code = impl.RpIsDir
	case !ofFile && !op.Dir.Dir:
		code = impl.RpNoDir
	case n == nil:
		code = impl.RpStale
	case op.Kind == impl.OpRead:
		return impl.Reply{Val: n.Val}
	case op.Kind == impl.OpList:
		return impl.Reply{List: slices.Clone(n.Entries)}
	case op.Kind == impl.OpMake || op.Kind == impl.OpLink:
		return m.answerNew(op, n, e)
	case op.Kind != impl.OpWrite && e == nil:
		code = impl.RpNoEnt
	case op.Kind == impl.OpLook:
		return impl.Reply{H: e.H}
	case op.Kind == impl.OpDrop:
		if child := m.node(e.H); child != nil && len(child.Entries) > 0 {
			code = impl.RpNotEmpty
		}
	case op.Kind == impl.OpMove:
		code = m.moveCode(op)
	}
	return impl.Reply{Code: code}
}

func (m *shardModel) answerNew(op impl.Op, n *impl.Node, e *impl.Entry) impl.Reply {
	switch {
	case e != nil:
		return impl.Reply{Code: impl.RpExist}
	case len(n.Entries) == impl.MaxEntries:
		return impl.Reply{Code: impl.RpFull}
	case op.Kind == impl.OpMake:
		return impl.Reply{H: impl.Handle{Shard: m.Id, Ino: m.Next, Dir: op.To.Dir}}
	case op.To.Dir:
		return impl.Reply{Code: impl.RpIsDir}
	case m.node(op.To) == nil:
		return impl.Reply{Code: impl.RpStale}
	}
	return impl.Reply{}
}

// moveCode: of a move that lies here and has an entry.
func (m *shardModel) moveCode(op impl.Op) int {
	to := m.node(op.To)
	switch {
	case !op.To.Dir:
		return impl.RpNoDir
	case to == nil:
		return impl.RpStale
	case m.entry(op.To, op.As) != nil:
		return impl.RpExist
	case op.To != op.Dir && len(to.Entries) == impl.MaxEntries:
		return impl.RpFull
	}
	return impl.RpWell
}

func (h *hostModel) apart(m impl.Msg) {
	op := m.Op
	e, n := h.entry(op.Dir, op.Name), h.node(op.Dir)
	isNew := op.Kind == impl.OpMake || op.Kind == impl.OpLink
	switch {
	case isNew && e != nil:
		h.alone(m, impl.Reply{Code: impl.RpExist})
		return
	case isNew && len(n.Entries) == impl.MaxEntries:
		h.alone(m, impl.Reply{Code: impl.RpFull})
		return
	case len(h.open) == 3:
		h.in.meet("a fourth transaction")
		h.alone(m, impl.Reply{Code: impl.RpBusy})
		return
	}
	d := &dealModel{tx: impl.Tx{Shard: h.Id, Boot: h.Boot, N: h.opened}, client: m.From - impl.MaxShards, req: m.Req, op: op}
	if e != nil {
		d.h = e.H
	}
	d.divide()
	h.opened++
	h.open = append(h.open, d)
	for i, p := range d.parts {
		if d.homes[i] != h.Id {
			h.send(d.homes[i], impl.Msg{Kind: impl.MsPrepare, Tx: d.tx, Part: p})
			continue
		}
		d.votes[i], _ = h.ready(d.tx, p)
		if !h.up {
			h.in.meet("it falls while it gets ready itself")
			return
		}
	}
	h.count(d)
}

func (d *dealModel) add(home int, p impl.Part) {
	d.parts, d.homes, d.votes = append(d.parts, p), append(d.homes, home), append(d.votes, -1)
}

func (d *dealModel) divide() {
	op, to := d.op, d.op.To
	switch op.Kind {
	case impl.OpMake:
		d.add(to.Shard, impl.Part{Kind: impl.PaMake, H: to, To: op.Dir})
	case impl.OpLink:
		d.add(to.Shard, impl.Part{Kind: impl.PaRelink, H: to})
	case impl.OpDrop:
		d.add(d.h.Shard, impl.Part{Kind: impl.PaUnlink, H: d.h})
	case impl.OpMove:
		d.add(to.Shard, impl.Part{Kind: impl.PaEnter, H: to, As: op.As, To: d.h})
		if d.h.Dir {
			d.add(0, impl.Part{Kind: impl.PaGate})
			d.add(d.h.Shard, impl.Part{Kind: impl.PaParent, H: d.h, To: to})
		}
	}
}

// ready: the Code and Fresh that are said, or -1 for nothing.
func (h *hostModel) ready(x impl.Tx, p impl.Part) (int, impl.Handle) {
	for _, i := range h.Intents {
		if i.Tx == x && i.Part.Kind == p.Kind {
			h.in.meet("a prepare of what is intended")
			return i.Code, i.Fresh
		}
	}
	if slices.Contains(h.Done, x) {
		h.in.meet("a prepare of what is done")
		return -1, impl.Handle{}
	}
	if why := h.busyFor(x, p); why != "" {
		h.in.meet(why)
		return impl.RpBusy, impl.Handle{}
	}
	code, fresh := impl.RpWell, impl.Handle{}
	n := h.node(p.H)
	switch {
	case p.Kind == impl.PaMake:
		fresh = impl.Handle{Shard: h.Id, Ino: h.Next, Dir: p.H.Dir}
	case p.Kind == impl.PaGate:
	case n == nil:
		code = impl.RpStale
	case p.Kind == impl.PaUnlink && len(n.Entries) > 0:
		code = impl.RpNotEmpty
	case p.Kind == impl.PaEnter && h.entry(p.H, p.As) != nil:
		code = impl.RpExist
	case p.Kind == impl.PaEnter && len(n.Entries) == impl.MaxEntries:
		code = impl.RpFull
	}
	if !h.commit(impl.Record{Kind: impl.RcIntent, Tx: x, Part: p, Code: code, Fresh: fresh}) {
		return -1, impl.Handle{}
	}
	return code, fresh
}

func (h *hostModel) busyFor(x impl.Tx, p impl.Part) string {
	if !h.hasRoom() {
		return "a prepare without room"
	}
	if p.Kind == impl.PaMake {
		if h.crowded() {
			return "a prepare on a crowded shard"
		}
		return ""
	}
	for y, by := range h.lockers(p.H) {
		if y != x {
			if p.Kind == impl.PaGate {
				by = "another gate"
			}
			return "a prepare of what is locked by " + by
		}
	}
	return ""
}

func (h *hostModel) hearVote(m impl.Msg) {
	d := h.deal(m.Tx)
	if d == nil {
		h.in.meet("a vote of what is not open")
		return
	}
	for i, p := range d.parts {
		if p.Kind != m.Part.Kind {
			continue
		}
		if d.votes[i] >= 0 {
			h.in.meet("a vote twice")
			break
		}
		d.votes[i] = m.Code
		if p.Kind == impl.PaMake {
			d.fresh = m.H
		}
		break
	}
	h.count(d)
}

func (h *hostModel) count(d *dealModel) {
	if slices.Contains(d.votes, impl.RpBusy) {
		h.decide(d, impl.RpBusy)
		return
	}
	if slices.Contains(d.votes, -1) {
		return
	}
	for _, vote := range d.votes {
		if vote != impl.RpWell {
			h.decide(d, vote)
			return
		}
	}
	if len(d.parts) == 1 {
		h.decide(d, impl.RpWell)
		return
	}
	if len(d.way) == 0 {
		d.way = []impl.Handle{d.op.To}
	}
	h.walk(d)
}

func (h *hostModel) walk(d *dealModel) {
	at, steps := d.way[len(d.way)-1], len(d.way)-1
	switch {
	case steps == impl.MaxDeep:
		h.decide(d, impl.RpDeep)
	case at == d.h:
		h.decide(d, impl.RpLoop)
	case at == rootDir:
		h.decide(d, impl.RpWell)
	case at.Shard != h.Id:
		h.send(at.Shard, impl.Msg{Kind: impl.MsUp, Tx: d.tx, Req: steps, H: at})
	default:
		code, parent := h.above(at, d.tx)
		h.step(d, code, parent)
	}
}

// above: what is known of the parent of a directory.
func (h *hostModel) above(at impl.Handle, x impl.Tx) (int, impl.Handle) {
	for _, i := range h.Intents {
		if i.Part.Kind == impl.PaParent && i.Part.H == at && i.Tx != x {
			h.in.meet("a walk past what is moved")
			return impl.RpBusy, impl.Handle{}
		}
	}
	n := h.node(at)
	if n == nil {
		h.in.meet("a walk past what is no node")
		return impl.RpStale, impl.Handle{}
	}
	return impl.RpWell, n.Parent
}

func (h *hostModel) step(d *dealModel, code int, parent impl.Handle) {
	switch code {
	case impl.RpWell:
		d.way = append(d.way, parent)
		h.walk(d)
	case impl.RpBusy:
		h.decide(d, impl.RpBusy)
	default:
		h.decide(d, impl.RpWell)
	}
}

func (h *hostModel) decide(d *dealModel, code int) {
	r, verdict := impl.Reply{Code: code}, 0
	if code == impl.RpWell {
		r.H, verdict = d.fresh, 1
	}
	rec := impl.Record{Kind: impl.RcDecide, Tx: d.tx, Code: verdict, Client: d.client, Req: d.req, Op: d.op, Reply: r}
	if !h.commit(rec, h.deeds(d.client, d.req, d.op, r)...) {
		return
	}
	h.in.meet("decided with code " + letters(code))
	h.open = slices.DeleteFunc(slices.Clone(h.open), func(o *dealModel) bool { return o == d })
	h.reply(d.client, d.req, r)
	for _, home := range d.homes {
		if home != h.Id {
			h.send(home, impl.Msg{Kind: impl.MsTell, Tx: d.tx, Code: verdict})
		}
	}
}

func (h *hostModel) hearAsk(m impl.Msg) {
	if h.deal(m.Tx) != nil {
		h.in.meet("an ask of what is open")
		return
	}
	verdict, was := 0, "never"
	for _, v := range h.Decided {
		if v.Tx == m.Tx {
			was = "not done"
			if v.Ok {
				verdict, was = 1, "done"
			}
		}
	}
	h.in.meet("an ask of what was decided: " + was)
	h.send(m.From, impl.Msg{Kind: impl.MsTell, Tx: m.Tx, Code: verdict})
}

func (h *hostModel) tick() {
	var all []impl.Tx
	for _, i := range h.Intents {
		if !slices.Contains(all, i.Tx) {
			all = append(all, i.Tx)
		}
	}
	for _, x := range all {
		switch {
		case x.Shard != h.Id:
			h.send(x.Shard, impl.Msg{Kind: impl.MsAsk, Tx: x})
		case h.deal(x) == nil:
			h.in.meet("a tick of an own Intent that is not open")
			h.commit(impl.Record{Kind: impl.RcTold, Tx: x})
			if !h.up {
				return
			}
		}
	}
	for _, d := range slices.Clone(h.open) {
		d.ticks++
		if d.ticks > 8 {
			h.in.meet("an old transaction")
			h.decide(d, impl.RpBusy)
		} else {
			h.askAgain(d)
		}
		if !h.up {
			return
		}
	}
}

func (h *hostModel) askAgain(d *dealModel) {
	for i, p := range d.parts {
		if d.homes[i] != h.Id && d.votes[i] < 0 {
			h.send(d.homes[i], impl.Msg{Kind: impl.MsPrepare, Tx: d.tx, Part: p})
		}
	}
	if len(d.way) > 0 {
		h.in.meet("a tick of a walk")
		h.walk(d)
	}
}
