package tests

import (
	"fmt"
	"slices"
	"testing"

	"loop.example/g00341/impl"
)

// TestTicksOfIntents: of each transaction of another shard's one ask, however many Intents it has, in order.
func TestTicksOfIntents(t *testing.T) {
	s := stage(t)
	s.call(0, moveOp(stageB, "d", stageC, "n"))
	s.call(1, makeOp(stageC, "n", fileAt(0, 0)))
	s.hear(impl.MsRequest, impl.MsRequest)
	for range 3 {
		s.hearTo(impl.MsPrepare, 0)
	}
	s.wantIntents("of two transactions", 0, intent(txOf(1, 1), impl.Part{Kind: impl.PaGate}, impl.RpWell, zeroH), intent(txOf(1, 1), parentPart(stageD, stageC), impl.RpWell, zeroH), intent(txOf(2, 0), makePart(fileAt(0, 0), stageC), impl.RpWell, fileAt(0, 5)))
	s.lose(impl.MsPrepare)
	net := len(s.c.net)
	s.tick(0)
	s.wantOpen("two asks", net+2, 2, 3)
	s.tick(0)
	s.wantOpen("and again", net+4, 2, 3)
	s.crash(1)
	s.crash(2)
	s.start(1)
	s.start(2)
	s.do(impl.Action{Kind: impl.AcDeliver, I: net})
	s.hear(impl.MsTell)
	s.wantOpen("the first ask was of the first one", net+3, 0, 1)
	s.hearAll()
	s.wantOpen("told", 0, 0, 0, 0, 0)
	s.beginnings()
}

// TestTicksOfOwnIntents: nothing while the transaction is open, else they go, and nothing of them is done.
func TestTicksOfOwnIntents(t *testing.T) {
	s := stage(t)
	s.call(0, moveOp(rootDir, "b", stageA, "n"))
	s.hear(impl.MsRequest)
	s.wantOpen("its own Intents", 1, 1, 2)
	s.tick(0)
	s.wantOpen("it is open: what lacks is prepared again", 2, 1, 2)
	s.crash(0)
	s.start(0)
	s.wantOpen("open no more", 2, 0, 2)
	if done := s.run().Shards[0].Done; slices.Contains(done, txOf(0, 3)) {
		t.Error("Done ahead of the tick:", done)
	}
	s.tick(0)
	s.wantMet("a tick of an own Intent that is not open")
	s.wantOpen("both go", 2, 0, 0)
	if done := s.run().Shards[0].Done; done[len(done)-1] != txOf(0, 3) {
		t.Error("Done behind the tick:", done)
	}
	s.tick(0)
	s.wantOpen("nothing is left", 2, 0, 0)
	s.beginnings()
}

// TestAFuseAtATick: it falls at the first of its own transactions, and the rest of the tick does not happen.
func TestAFuseAtATick(t *testing.T) {
	for _, keep := range [][]bool{nil, allKept()} {
		s := stage(t)
		s.call(0, moveOp(rootDir, "b", stageA, "n"))
		s.hear(impl.MsRequest)
		s.crash(0)
		s.start(0)
		s.call(1, makeOp(stageB, "m", fileAt(0, 0)))
		s.hearTo(impl.MsRequest, 1)
		s.hearTo(impl.MsPrepare, 0)
		net := len(s.c.net)
		s.fuse(0, -1, keep...)
		s.tick(0)
		s.wantMet("a fuse at a record of kind 4")
		left := 3
		if len(keep) > 0 {
			left = 1
		}
		s.wantOpen("nothing is asked", net, 1, left)
		s.beginnings()
	}
}

// aged: on the stage a transaction of shard 0 that ticked so often.
func aged(t *testing.T, ticks int) *scene {
	s := stage(t)
	s.call(0, makeOp(rootDir, "n", fileAt(1, 0)))
	s.hear(impl.MsRequest)
	s.lose(impl.MsPrepare)
	for range ticks {
		s.tick(0)
	}
	return s
}

func TestATransactionGrowsOld(t *testing.T) {
	s := aged(t, 8)
	s.wantOpen("at each tick it is prepared again", 8, 1)
	s.hearAll()
	s.wantCodes("it is not too old", impl.RpWell)
	s.beginnings()

	s = aged(t, 9)
	s.wantMet("an old transaction")
	s.wantOpen("decided: a reply, and one that is told", 10, 0)
	s.hear(impl.MsReply)
	s.wantCodes("it is too old", impl.RpBusy)
	s.wantDeeds("nothing was done", 6)
	if r := s.run(); !lastIs(r.Shards[0], 0, 1, impl.Reply{Code: impl.RpBusy}) || r.Shards[0].Decided[3] != (impl.Verdict{Tx: txOf(0, 3)}) {
		t.Error("kept:", r.Shards[0])
	}
	s.tick(impl.MaxShards)
	s.call(1, makeOp(rootDir, "n", fileAt(1, 0)))
	s.hearTo(impl.MsRequest, 0)
	s.wantOpen("the directory is free", 10, 1)
	s.beginnings()

	s = aged(t, 8)
	s.fuse(0, -1, allKept()...)
	s.tick(0)
	s.wantOpen("it fell at the decision", 8, 0)
	if r := s.run(); r.Up[0] || !lastIs(r.Shards[0], 0, 1, impl.Reply{Code: impl.RpBusy}) || len(r.Deeds) != 6 {
		t.Error("kept:", r)
	}
	s.start(0)
	s.tick(impl.MaxShards)
	s.hearAll()
	s.wantCodes("answered from what was kept", impl.RpBusy)
	s.settled()
}

// TestSeveralTransactionsGrowOld: each by itself, in the order in which they were opened; a fall at one ends the tick.
func TestSeveralTransactionsGrowOld(t *testing.T) {
	grown := func() *scene {
		s := aged(t, 3)
		s.call(1, makeOp(stageA, "n", fileAt(1, 0)))
		s.hear(impl.MsRequest)
		s.call(2, linkOp(stageD, "n", stageG))
		s.hear(impl.MsRequest)
		for range 5 {
			s.tick(0)
		}
		return s
	}
	s := grown()
	s.wantOpen("none is too old", 3+2+15, 3)
	s.tick(0)
	s.wantOpen("the first one is, and the others are prepared again", 3+2+15+2+2, 2)
	s.tick(0)
	s.tick(0)
	s.wantOpen("the others are not", 3+2+15+2+2+4, 2)
	s.tick(0)
	s.wantOpen("they are", 3+2+15+2+2+4+4, 0)
	s.hearAll()
	s.wantCodes("all", impl.RpBusy, impl.RpBusy, impl.RpBusy)
	s.beginnings()

	s = grown()
	s.fuse(0, -1)
	s.tick(0)
	s.wantOpen("it fell at the first one", 3+2+15, 0)
	s.settled()
}

// TestATickPreparesWhatLacks: not what has its vote, nor what is its own.
func TestATickPreparesWhatLacks(t *testing.T) {
	s := stage(t)
	s.call(0, moveOp(stageB, "d", stageC, "n"))
	s.hear(impl.MsRequest)
	for range 3 {
		s.lose(impl.MsPrepare)
	}
	s.tick(1)
	s.wantOpen("three lack", 3, 1)
	s.hearTo(impl.MsPrepare, 2)
	s.hear(impl.MsVote)
	s.wantOpen("two lack", 2, 1)
	s.tick(1)
	s.wantOpen("two are prepared again", 4, 1)
	s.hear(impl.MsPrepare, impl.MsVote)
	s.tick(1)
	s.wantOpen("one is prepared again", 4, 1)
	for len(s.c.net) > 0 {
		s.lose(s.c.net[0].Kind)
	}
	s.tick(1)
	s.hear(impl.MsPrepare, impl.MsVote)
	s.wantOpen("the walk asks", 1, 1)
	s.tick(1)
	s.wantOpen("it asks again", 2, 1)
	s.hearAll()
	s.wantCodes("moved", impl.RpWell)
	s.beginnings()

	s = stage(t)
	s.call(0, moveOp(rootDir, "b", stageA, "n"))
	s.hear(impl.MsRequest)
	s.tick(0)
	s.wantOpen("its own are not prepared again", 2, 1, 2)
}

// TestSettlingAtOnce: it is quiet ahead of each round, if nothing waits; a round is for what is lost.
func TestSettlingAtOnce(t *testing.T) {
	s := stage(t)
	if r := s.settled(); r.Rounds != 0 || r.Net != 0 {
		t.Error("nothing is open:", r)
	}
	s.call(0, moveOp(rootDir, "a", stageB, "n"))
	now := len(s.script)
	r := s.settled()
	if r.Rounds != 0 || r.Net != 0 || r.Acts != 0 || r.Calls[6].Reply.Code != impl.RpWell {
		t.Error("all is heard at once:", r)
	}
	// The request, a prepare, a vote, two for the step, the reply.
	if c := r.Calls[6]; c.To != now+6 || r.Deeds[6].At != now+5 {
		t.Errorf("now goes on behind the script: %v, %v", c, r.Deeds[6])
	}
	s.lose(impl.MsRequest)
	if r := s.settled(); r.Rounds != 1 || r.Calls[6].To != now+1+6 {
		t.Error("the request is lost:", r)
	}
	s.tick(impl.MaxShards)
	s.hear(impl.MsRequest, impl.MsPrepare, impl.MsVote, impl.MsUp, impl.MsIs)
	s.lose(impl.MsTell)
	if r := s.settled(); r.Rounds != 1 {
		t.Error("what is told is lost:", r)
	}
	s.fuse(0, -1)
	s.crash(1)
	s.call(1, makeOp(rootDir, "q", fileAt(0, 0)))
	r = s.settled()
	if r.Rounds != 1 || !r.Up[0] || !r.Up[1] || r.Shards[0].Boot != 1 || r.Shards[1].Boot != 2 || r.Calls[7].Reply.Code != impl.RpWell {
		t.Error("the fuse goes, and who is down is started:", r)
	}
	r = s.run()
	if r.Rounds != 0 || r.Up[1] {
		t.Error("it is not settled:", r)
	}
}

// TestSettlingInOrder: the shards tick, then the clients ask, each in their order.
func TestSettlingInOrder(t *testing.T) {
	s := stage(t)
	s.ask(2, linkOp(rootDir, "l", stageG))
	s.call(3, makeOp(stageA, "n", fileAt(1, 0)))
	s.hear(impl.MsRequest, impl.MsPrepare, impl.MsVote)
	s.lose(impl.MsTell)
	s.hearAll()
	for _, client := range []int{3, 1, 0, 2} {
		s.call(client, listOp(rootDir))
		s.lose(impl.MsRequest)
	}
	now := len(s.script)
	r := s.settled()
	if r.Rounds != 1 || len(r.Deeds) != 8+4 {
		t.Error("Rounds, Deeds:", r.Rounds, r.Deeds)
	}
	for client, d := range r.Deeds[8:] {
		// Ahead of them the ask of shard 1 is heard.
		if d.Client != client || d.At != now+1+client+1 {
			t.Errorf("deed %d: %v", client, d)
		}
	}
	s.beginnings()
}

// TestSettlingWithAShardThatStaysDown: what waits for it waits for ever.
func TestSettlingWithAShardThatStaysDown(t *testing.T) {
	s := onDisks(t, 2, 2, 1)
	s.crash(1)
	s.call(0, listOp(dirAt(1, 2)))
	s.call(1, listOp(rootDir))
	r := s.settled()
	if r.Rounds != 60 || r.Up[1] || r.Net != 1 || r.Calls[0].To != -1 || r.Calls[1].To < 0 {
		t.Errorf("%+v", r)
	}
	if now := len(s.script) + 3 + 59; len(r.Deeds) != 1 || r.Deeds[0].At > now {
		t.Error("Deeds:", r.Deeds)
	}
	// Nobody waits: it is quiet, though no shard can be started.
	s = onDisks(t, 2, 2, 1)
	s.crash(0)
	s.crash(1)
	if r := s.settled(); r.Rounds != 0 || r.Up[0] || r.Up[1] || r.Shards[0].Boot != 1 || len(r.Shards[0].Nodes) != 1 || len(r.Shards[1].Nodes) != 0 {
		t.Errorf("%+v", r)
	}
}

// TestManyToBeSettled: a net as full as may be, shards that fell, and Intents of all kinds.
func TestManyToBeSettled(t *testing.T) {
	for seed := range 30 {
		x := &steps{state: uint32(seed)}
		s := stage(t)
		for client, op := range []impl.Op{moveOp(rootDir, "b", stageA, "n"), moveOp(stageB, "d", stageC, "n"), makeOp(stageC, "n", fileAt(0, 0)), linkOp(stageD, "n", stageG)} {
			s.call(client, op)
		}
		for len(s.script) < 150 {
			switch x.below(8) {
			case 0, 1:
				s.tick(x.below(impl.MaxShards + impl.MaxClients))
			case 2:
				s.do(impl.Action{Kind: impl.AcDouble, I: x.below(80)})
			case 3:
				s.do(impl.Action{Kind: impl.AcCrash + 2*x.below(2), Node: x.below(3)})
			default:
				s.do(impl.Action{Kind: impl.AcDeliver, I: x.below(80)})
			}
		}
		if r := s.settled(); r.Rounds >= 40 {
			t.Error(fmt.Sprint("seed ", seed, ": "), r.Rounds)
		}
	}
}
