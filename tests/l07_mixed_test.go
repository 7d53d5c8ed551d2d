package tests

import (
	"fmt"
	"slices"
	"strings"
	"testing"

	"loop.example/g00341/impl"
)

func sameDeed(a, b impl.Deed) bool {
	return a.At == b.At && a.Client == b.Client && a.Req == b.Req && sameOp(a.Op, b.Op) && sameReply(a.Reply, b.Reply)
}

func sameCall(a, b impl.Call) bool {
	return a.Client == b.Client && a.Req == b.Req && sameOp(a.Op, b.Op) && a.From == b.From && a.To == b.To && sameReply(a.Reply, b.Reply)
}

// otherIn: what two results differ in, or nothing.
func otherIn(a, b impl.Result) string {
	for what, same := range map[string]bool{
		"Ok":     a.Ok == b.Ok,
		"Deeds":  slices.EqualFunc(a.Deeds, b.Deeds, sameDeed),
		"Calls":  slices.EqualFunc(a.Calls, b.Calls, sameCall),
		"Shards": slices.EqualFunc(a.Shards, b.Shards, sameShard),
		"Up":     slices.Equal(a.Up, b.Up),
		"Net":    a.Net == b.Net,
		"Acts":   a.Acts == b.Acts,
		"Rounds": a.Rounds == b.Rounds,
	} {
		if !same {
			return what
		}
	}
	return ""
}

// followed: the first deed that is not what one tree answers behind the others, or -1, and the tree.
func followed(deeds []impl.Deed) (impl.Tree, int) {
	t := impl.Root()
	for i, d := range deeds {
		h := impl.Handle{Shard: d.Op.To.Shard, Ino: impl.MaxNum, Dir: d.Op.To.Dir}
		if d.Op.Kind == impl.OpMake && d.Reply.Code == impl.RpWell {
			h = d.Reply.H
		}
		next, r := impl.Do(t, d.Op, h)
		if r.Code == impl.RpBad || !sameReply(r, d.Reply) {
			return t, i
		}
		t = next
	}
	return t, -1
}

// unanswered: why the deeds are not those of the calls, or nothing.
func unanswered(calls []impl.Call, deeds []impl.Deed) string {
	for _, d := range deeds {
		if !slices.ContainsFunc(calls, func(c impl.Call) bool { return c.Client == d.Client && c.Req == d.Req }) {
			return fmt.Sprint("no call of ", d)
		}
	}
	for _, c := range calls {
		count, isThere := 0, false
		for _, d := range deeds {
			if d.Client != c.Client || d.Req != c.Req {
				continue
			}
			count++
			if !sameOp(d.Op, c.Op) || d.At < c.From {
				return fmt.Sprint("not of its call: ", d, c)
			}
			isThere = isThere || d.At <= c.To && sameReply(d.Reply, c.Reply)
		}
		isBusy, changes := c.To >= 0 && c.Reply.Code == impl.RpBusy, c.Op.Kind >= impl.OpWrite && c.Op.Kind <= impl.OpMove
		switch {
		case c.To >= 0 && !isBusy && !isThere:
			return fmt.Sprint("no deed of ", c)
		case changes && count > 1:
			return fmt.Sprint("done more than once: ", c)
		case changes && isBusy && count > 0:
			return fmt.Sprint("done, though it was Busy: ", c)
		}
	}
	return ""
}

// nodesOfAll: the nodes of all shards, as a tree.
func nodesOfAll(r impl.Result) impl.Tree {
	t := impl.Tree{}
	for _, s := range r.Shards {
		t.Nodes = append(t.Nodes, s.Nodes...)
	}
	return t
}

// broken: which promise a result breaks, or nothing.
func broken(s impl.Setup, r impl.Result) string {
	t, at := followed(r.Deeds)
	if at >= 0 {
		return fmt.Sprintf("deed %d does not follow: %v", at, r.Deeds[at])
	}
	if why := unanswered(r.Calls, r.Deeds); why != "" {
		return why
	}
	if !s.Settle || slices.Contains(r.Up, false) {
		return ""
	}
	if r.Rounds >= 40 || r.Net != 0 || r.Acts != 0 {
		return fmt.Sprintf("not quiet: Rounds %d, Net %d, Acts %d", r.Rounds, r.Net, r.Acts)
	}
	for _, c := range r.Calls {
		if c.To < 0 {
			return fmt.Sprint("did not come back: ", c)
		}
	}
	for _, sh := range r.Shards {
		if len(sh.Intents) > 0 {
			return fmt.Sprint("Intents are left: ", sh)
		}
	}
	if all := nodesOfAll(r); !impl.TreeOk(all) || !sameTree(all, t) {
		return fmt.Sprint("not the tree of the deeds: ", all, t)
	}
	return ""
}

// mood: how often what happens.
type mood struct {
	setup   impl.Setup
	length  int
	names   int
	call    int
	deliver int
	double  int
	drop    int
	tick    int
	crash   int
	fuse    int
	start   int
	// first: of ten messages that are delivered, how many are the first one.
	first int
	// moves and dirs: how much more often things are moved, and directories made.
	moves int
	dirs  int
}

// scriptMixer draws the next action by what the cluster is.
type scriptMixer struct {
	*steps
	mood
	c *clusterModel
}

func (x scriptMixer) name() string {
	return strings.Repeat(string(rune('a'+x.below(x.names))), 1+x.below(2))
}

func (x scriptMixer) branches() (all []branch, handles []impl.Handle) {
	for _, h := range x.c.hosts {
		for _, n := range h.Nodes {
			handles = append(handles, n.H)
			for _, e := range n.Entries {
				all = append(all, branch{n.H, string(e.Name), e.H})
			}
		}
	}
	return all, handles
}

// handle: one that there is, or that there never will be.
func (x scriptMixer) handle(of []impl.Handle) impl.Handle {
	if x.below(15) == 0 || len(of) == 0 {
		return impl.Handle{Shard: x.below(impl.MaxShards), Ino: 200 + x.below(6), Dir: x.below(2) == 0}
	}
	return of[x.below(len(of))]
}

func (x scriptMixer) dir(of []impl.Handle) impl.Handle {
	h := x.handle(of)
	for i := 0; i < 3 && !h.Dir; i++ {
		h = x.handle(of)
	}
	return h
}

func (x scriptMixer) op() impl.Op {
	all, handles := x.branches()
	d, h := x.dir(handles), x.handle(handles)
	b := branch{d, x.name(), h}
	if len(all) > 0 && x.below(6) > 0 {
		b = all[x.below(len(all))]
	}
	made := impl.Handle{Shard: x.below(x.setup.Shards), Dir: x.below(5) < 2+x.dirs}
	switch x.below(16 + 4*x.moves) {
	case 0:
		return lookOp(b.in, b.name)
	case 1:
		return listOp(d)
	case 2:
		return readOp(h)
	case 3:
		return writeOp(h, x.below(1000))
	case 4, 5, 6, 7, 8, 9, 10:
		return makeOp(d, x.name(), made)
	case 11, 12:
		return dropOp(b.in, b.name)
	case 13, 14:
		return linkOp(d, x.name(), h)
	case 15:
		return moveOp(b.in, b.name, b.in, x.name())
	}
	return moveOp(b.in, b.name, d, x.name())
}

func (x scriptMixer) fused() impl.Action {
	a := impl.Action{Kind: impl.AcFuse, Node: x.below(x.setup.Shards), Torn: -1}
	switch x.below(4) {
	case 0:
	case 1:
		for range x.below(21) {
			a.Keep = append(a.Keep, x.below(6) > 0)
		}
		a.Torn = x.below(22) - 1
	default:
		a.Keep = slices.Repeat([]bool{true}, 9+x.below(3))
	}
	return a
}

func (x scriptMixer) action() impl.Action {
	draw := x.below(x.call + x.deliver + x.double + x.drop + x.tick + x.crash + x.fuse + x.start)
	for kind, weight := range []int{x.call, x.deliver, x.double, x.drop, x.tick, x.crash, x.fuse, x.start} {
		if draw >= weight {
			draw -= weight
			continue
		}
		switch kind {
		case impl.AcCall:
			return impl.Action{Kind: kind, Node: x.below(x.setup.Clients), Op: x.op()}
		case impl.AcTick:
			return impl.Action{Kind: kind, Node: x.below(impl.MaxShards + impl.MaxClients)}
		case impl.AcFuse:
			return x.fused()
		case impl.AcDeliver, impl.AcDouble, impl.AcDrop:
			if x.below(10) < x.first {
				return impl.Action{Kind: kind}
			}
			return impl.Action{Kind: kind, I: x.below(2 * impl.MaxNet)}
		}
		return impl.Action{Kind: kind, Node: x.below(x.setup.Shards)}
	}
	return impl.Action{}
}

// mixed: a script of this mood, and what the model makes of it, without settling.
func mixed(m mood, seed int) ([]impl.Action, *clusterModel) {
	c := newClusterModel(m.setup)
	x := scriptMixer{&steps{state: uint32(seed)}, m, c}
	var script []impl.Action
	for range m.length {
		a := x.action()
		script = append(script, a)
		c.do(a)
	}
	return script, c
}

// moodOf: calm and wild ones, with few and many shards, with hardly any room and with enough.
func moodOf(seed int) mood {
	s := &steps{state: uint32(seed)*7919 + 5}
	m := mood{length: 40 + s.below(361), names: 1 + s.below(6), call: 3 + s.below(6), deliver: 4 + s.below(28), tick: s.below(5), first: s.below(11), moves: s.below(3), dirs: s.below(4)}
	m.setup = impl.Setup{Shards: 1 + s.below(impl.MaxShards), Clients: 1 + s.below(impl.MaxClients), Sectors: impl.MaxSectors}
	if s.below(4) > 0 {
		m.setup.Shards, m.setup.Clients = 2+s.below(3), impl.MaxClients
	}
	switch s.below(12) {
	case 0, 1:
		m.setup.Sectors = impl.Reserve + s.below(60)
	case 2:
		m.setup.Sectors = 1 + s.below(6)
	}
	if s.below(3) > 0 {
		m.double, m.drop = s.below(5), s.below(4)
	}
	if s.below(3) > 0 {
		m.crash, m.fuse, m.start = s.below(2), s.below(4), 1+s.below(5)
	}
	if s.below(4) == 0 {
		m.tick = 5 + s.below(15)
	}
	return m
}

// TestLongMixedUseOfACluster: promises 7 and 8, and what the model answers, as it is and settled.
func TestLongMixedUseOfACluster(t *testing.T) {
	met := map[string]int{}
	for seed := range 1500 {
		m := moodOf(seed)
		script, c := mixed(m, seed)
		what := fmt.Sprintf("seed %d", seed)
		wantModel(t, what, m.setup, script, c.result())
		c.settle()
		m.setup.Settle = true
		r := wantModel(t, what+", settled", m.setup, script, c.result())
		for w, n := range c.met {
			met[w] += n
		}
		for _, k := range r.Calls {
			met[fmt.Sprintf("op %d: %d", k.Op.Kind, k.Reply.Code)]++
		}
	}
	for _, w := range []string{
		"a drop of what is locked", "a link or move to what is locked", "a message is lost in a full net", "a message to a shard that is down",
		"a prepare of what is done", "a prepare of what is intended", "a prepare of what is locked by an Intent", "a prepare of what is locked by an open transaction",
		"a prepare of what is locked by another gate", "a prepare without room", "a reply of another request", "a reply to a client that waits for nothing",
		"a request ahead of the last one", "a request on what is locked by an Intent", "a request on what is locked by an open transaction", "a request that is open",
		"a request without room", "a shard that can't be started", "a tell of what is not intended", "a tick of a walk", "a tick of an own Intent that is not open",
		"a vote of what is not open", "a vote twice", "an answer to no step of a walk", "an ask of what is open", "an ask of what was decided: done",
		"an ask of what was decided: never", "an ask of what was decided: not done", "an old transaction", "it falls while it gets ready itself", "the last request again",
		"a fuse at a record of kind 1", "a fuse at a record of kind 2", "a fuse at a record of kind 3", "a fuse at a record of kind 4",
	} {
		if met[w] == 0 {
			t.Errorf("the mixed use never came to: %s", w)
		}
	}
	for kind := impl.OpLook; kind <= impl.OpMove; kind++ {
		for _, code := range []int{impl.RpWell, impl.RpStale, impl.RpBusy} {
			if w := fmt.Sprintf("op %d: %d", kind, code); met[w] == 0 {
				t.Errorf("the mixed use never came to: %s", w)
			}
		}
	}
}
