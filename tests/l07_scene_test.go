package tests

import (
	"fmt"
	"slices"
	"testing"

	"loop.example/g00341/impl"
)

// scene: a script that is written down step by step. The model plays it along, so that a message of the net can be named by its kind.
type scene struct {
	t      *testing.T
	c      *clusterModel
	script []impl.Action
}

// on: a cluster with as many sectors as may be.
func on(t *testing.T, shards, clients int) *scene {
	return onDisks(t, shards, clients, impl.MaxSectors)
}

func onDisks(t *testing.T, shards, clients, sectors int) *scene {
	return &scene{t: t, c: newClusterModel(impl.Setup{Shards: shards, Clients: clients, Sectors: sectors})}
}

func (s *scene) do(actions ...impl.Action) {
	for _, a := range actions {
		s.script = append(s.script, a)
		s.c.do(a)
	}
}

func (s *scene) call(client int, op impl.Op) {
	s.do(impl.Action{Kind: impl.AcCall, Node: client, Op: op})
}

// carry does something with the first message of this kind.
func (s *scene) carry(action, kind int) {
	s.t.Helper()
	at := slices.IndexFunc(s.c.net, func(m impl.Msg) bool { return m.Kind == kind })
	if at < 0 {
		s.t.Fatalf("no message of kind %d in the net %v", kind, s.c.net)
	}
	s.do(impl.Action{Kind: action, I: at})
}

// hearTo delivers the first message of this kind to this node.
func (s *scene) hearTo(kind, to int) {
	s.t.Helper()
	at := slices.IndexFunc(s.c.net, func(m impl.Msg) bool { return m.Kind == kind && m.To == to })
	if at < 0 {
		s.t.Fatalf("no message of kind %d to %d in the net %v", kind, to, s.c.net)
	}
	s.do(impl.Action{Kind: impl.AcDeliver, I: at})
}

func (s *scene) hear(kinds ...int) {
	s.t.Helper()
	for _, kind := range kinds {
		s.carry(impl.AcDeliver, kind)
	}
}

func (s *scene) double(kind int) {
	s.t.Helper()
	s.carry(impl.AcDouble, kind)
}

func (s *scene) lose(kind int) {
	s.t.Helper()
	s.carry(impl.AcDrop, kind)
}

// hearAll delivers in order until the net is empty.
func (s *scene) hearAll() {
	for i := 0; len(s.c.net) > 0 && i < impl.MaxScript; i++ {
		s.do(impl.Action{Kind: impl.AcDeliver})
	}
}

// hearOthers delivers, in order, what is not of this kind, until there is nothing else.
func (s *scene) hearOthers(kind int) {
	for i := 0; i < impl.MaxScript; i++ {
		at := slices.IndexFunc(s.c.net, func(m impl.Msg) bool { return m.Kind != kind })
		if at < 0 {
			return
		}
		s.do(impl.Action{Kind: impl.AcDeliver, I: at})
	}
}

// ask: a call, and all that comes of it, in order.
func (s *scene) ask(client int, ops ...impl.Op) {
	for _, op := range ops {
		s.call(client, op)
		s.hearAll()
	}
}

func (s *scene) tick(node int)  { s.do(impl.Action{Kind: impl.AcTick, Node: node}) }
func (s *scene) crash(node int) { s.do(impl.Action{Kind: impl.AcCrash, Node: node}) }
func (s *scene) start(node int) { s.do(impl.Action{Kind: impl.AcStart, Node: node}) }

func (s *scene) fuse(node, torn int, keep ...bool) {
	s.do(impl.Action{Kind: impl.AcFuse, Node: node, Keep: keep, Torn: torn})
}

// allKept: as many sectors as a frame can have.
func allKept() []bool { return slices.Repeat([]bool{true}, 9) }

// run: what Run answers, which must be what the model answers, and break no promise.
func (s *scene) run() impl.Result {
	s.t.Helper()
	return wantModel(s.t, "the scene", s.c.setup, s.script, s.c.result())
}

// settled: what Run answers if it is settled now. The scene itself goes on as if it were not.
func (s *scene) settled() impl.Result {
	s.t.Helper()
	c := newClusterModel(s.c.setup)
	for _, a := range s.script {
		c.do(a)
	}
	c.settle()
	setup := s.c.setup
	setup.Settle = true
	return wantModel(s.t, "the settled scene", setup, s.script, c.result())
}

// beginnings: what Run answers to each beginning of the scene, settled or not, must be what the model answers.
func (s *scene) beginnings() {
	s.t.Helper()
	c := newClusterModel(s.c.setup)
	for i, a := range s.script {
		c.do(a)
		wantModel(s.t, fmt.Sprintf("the first %d actions", i+1), s.c.setup, s.script[:i+1], c.result())
	}
	s.settled()
}

func wantModel(t *testing.T, what string, setup impl.Setup, script []impl.Action, want impl.Result) impl.Result {
	t.Helper()
	got := impl.Run(setup, script)
	if other := otherIn(got, want); other != "" {
		t.Fatalf("%s: %s is other than the model's:\n%+v\nwant\n%+v", what, other, got, want)
	}
	if why := broken(setup, got); why != "" {
		t.Fatalf("%s: %s", what, why)
	}
	return got
}

// wantCodes: the codes of the calls, the last of them; -1: it did not come back.
func (s *scene) wantCodes(what string, codes ...int) {
	s.t.Helper()
	calls := s.run().Calls
	if len(calls) < len(codes) {
		s.t.Fatalf("%s: %d calls; want %d at least", what, len(calls), len(codes))
	}
	for i, c := range calls[len(calls)-len(codes):] {
		code := c.Reply.Code
		if c.To < 0 {
			code = -1
		}
		if code != codes[i] {
			s.t.Errorf("%s: of the last %d calls number %d, %v, has code %d; want %d", what, len(codes), i, c, code, codes[i])
		}
	}
}

// wantOpen: how many messages are in the net, how many transactions are open, and how many Intents each shard has.
func (s *scene) wantOpen(what string, net, acts int, intents ...int) {
	s.t.Helper()
	r := s.run()
	if r.Net != net || r.Acts != acts {
		s.t.Errorf("%s: Net %d, Acts %d; want %d, %d", what, r.Net, r.Acts, net, acts)
	}
	for i, n := range intents {
		if len(r.Shards[i].Intents) != n {
			s.t.Errorf("%s: shard %d has Intents %v; want %d", what, i, r.Shards[i].Intents, n)
		}
	}
}

// wantMet: that the scene came to what it was made for.
func (s *scene) wantMet(what ...string) {
	s.t.Helper()
	for _, w := range what {
		if s.c.met[w] == 0 {
			s.t.Errorf("the scene never came to: %s", w)
		}
	}
}

func (s *scene) wantDeeds(what string, count int) {
	s.t.Helper()
	if deeds := s.run().Deeds; len(deeds) != count {
		s.t.Errorf("%s: %d deeds %v; want %d", what, len(deeds), deeds, count)
	}
}
