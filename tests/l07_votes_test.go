package tests

import (
	"fmt"
	"slices"
	"testing"

	"loop.example/g00341/impl"
)

// txOf: a transaction of a shard that was started once.
func txOf(shard, n int) impl.Tx { return impl.Tx{Shard: shard, Boot: 1, N: n} }

func (s *scene) wantIntents(what string, shard int, want ...impl.Intent) {
	s.t.Helper()
	if got := s.run().Shards[shard].Intents; !slices.EqualFunc(got, want, sameIntent) {
		s.t.Errorf("%s: shard %d has Intents %v; want %v", what, shard, got, want)
	}
}

// TestPartsOnTheirShards: each kind of part, as it is prepared by its own shard and by another one. On the stage shard 0 opened three transactions, shard 1 one.
func TestPartsOnTheirShards(t *testing.T) {
	zero, one := txOf(0, 3), txOf(1, 1)
	well := func(x impl.Tx, p impl.Part) impl.Intent { return intent(x, p, impl.RpWell, zeroH) }
	gate := impl.Part{Kind: impl.PaGate}
	for _, c := range []struct {
		op    impl.Op
		parts [3][]impl.Intent
	}{
		{makeOp(rootDir, "n", dirAt(1, 0)), [3][]impl.Intent{1: {intent(zero, makePart(dirAt(1, 0), rootDir), impl.RpWell, dirAt(1, 4))}}},
		{makeOp(stageB, "n", fileAt(0, 0)), [3][]impl.Intent{0: {intent(one, makePart(fileAt(0, 0), stageB), impl.RpWell, fileAt(0, 5))}}},
		{makeOp(stageB, "n", fileAt(2, 0)), [3][]impl.Intent{2: {intent(one, makePart(fileAt(2, 0), stageB), impl.RpWell, fileAt(2, 3))}}},
		{linkOp(rootDir, "n", stageG), [3][]impl.Intent{1: {well(zero, relinkPart(stageG))}}},
		{linkOp(rootDir, "n", fileAt(1, 99)), [3][]impl.Intent{1: {intent(zero, relinkPart(fileAt(1, 99)), impl.RpStale, zeroH)}}},
		{dropOp(rootDir, "g"), [3][]impl.Intent{1: {well(zero, unlinkPart(stageG))}}},
		{dropOp(stageA, "c"), [3][]impl.Intent{2: {well(zero, unlinkPart(stageC))}}},
		{dropOp(rootDir, "b"), [3][]impl.Intent{1: {intent(zero, unlinkPart(stageB), impl.RpNotEmpty, zeroH)}}},
		{moveOp(rootDir, "f", stageB, "n"), [3][]impl.Intent{1: {well(zero, enterPart(stageB, "n", stageF))}}},
		{moveOp(rootDir, "f", stageB, "d"), [3][]impl.Intent{1: {intent(zero, enterPart(stageB, "d", stageF), impl.RpExist, zeroH)}}},
		{moveOp(rootDir, "f", dirAt(1, 99), "d"), [3][]impl.Intent{1: {intent(zero, enterPart(dirAt(1, 99), "d", stageF), impl.RpStale, zeroH)}}},
		{moveOp(rootDir, "a", stageB, "n"), [3][]impl.Intent{
			{well(zero, gate), well(zero, parentPart(stageA, stageB))}, {well(zero, enterPart(stageB, "n", stageA))}}},
		{moveOp(rootDir, "b", stageA, "n"), [3][]impl.Intent{
			{well(zero, enterPart(stageA, "n", stageB)), well(zero, gate)}, {well(zero, parentPart(stageB, stageA))}}},
		{moveOp(rootDir, "b", stageA, "c"), [3][]impl.Intent{
			{intent(zero, enterPart(stageA, "c", stageB), impl.RpExist, zeroH), well(zero, gate)}, {well(zero, parentPart(stageB, stageA))}}},
		{moveOp(rootDir, "a", stageC, "n"), [3][]impl.Intent{
			{well(zero, gate), well(zero, parentPart(stageA, stageC))}, nil, {well(zero, enterPart(stageC, "n", stageA))}}},
		{moveOp(stageB, "d", stageC, "n"), [3][]impl.Intent{
			{well(one, gate), well(one, parentPart(stageD, stageC))}, nil, {well(one, enterPart(stageC, "n", stageD))}}},
		{moveOp(rootDir, "b", stageB, "n"), [3][]impl.Intent{
			{well(zero, gate)}, {well(zero, enterPart(stageB, "n", stageB)), well(zero, parentPart(stageB, stageB))}}},
	} {
		what := fmt.Sprint("operation ", c.op)
		s := stage(t)
		s.call(0, c.op)
		s.hear(impl.MsRequest)
		for slices.ContainsFunc(s.c.net, func(m impl.Msg) bool { return m.Kind == impl.MsPrepare }) {
			s.double(impl.MsPrepare)
			s.hear(impl.MsPrepare)
		}
		for id, want := range c.parts {
			s.wantIntents(what, id, want...)
		}
		s.wantOpen(what, 2*othersParts(c.op, c.parts), 1)
		if othersParts(c.op, c.parts) > 0 {
			s.wantMet("a prepare of what is intended")
		}
		s.hearAll()
		s.wantOpen(what+" in the end", 0, 0, 0, 0, 0)
		s.wantDeeds(what, 7)
		s.beginnings()
	}
}

// othersParts: how many of the Intents are of other shards than that of the operation.
func othersParts(op impl.Op, parts [3][]impl.Intent) int {
	count := 0
	for id, l := range parts {
		if id != op.Dir.Shard {
			count += len(l)
		}
	}
	return count
}

// TestPreparesWithoutRoom: on a shard whose journal has just as many sectors as are held back, and one less. What is told Busy leaves no Intent.
func TestPreparesWithoutRoom(t *testing.T) {
	for _, c := range []struct{ left, code, intents int }{{impl.Reserve - 1, impl.RpBusy, 0}, {impl.Reserve, impl.RpWell, 1}, {impl.Reserve + 1, impl.RpWell, 1}} {
		s := onDisks(t, 2, 3, impl.Reserve+9)
		s.ask(2, makeOp(rootDir, "b", dirAt(1, 0)))
		for s.c.setup.Sectors-s.c.hosts[1].sectors > c.left {
			// A start takes one sector.
			s.crash(1)
			s.start(1)
		}
		s.call(1, makeOp(rootDir, "n", fileAt(1, 0)))
		s.hear(impl.MsRequest, impl.MsPrepare)
		s.wantOpen("prepared", 1, 1, 0, c.intents)
		s.hearAll()
		s.wantCodes(fmt.Sprint(c.left, " sectors"), c.code)
		s.beginnings()
	}
}

// TestOneMoveOfADirectoryAtATime: a second one is told Busy at the gate.
func TestOneMoveOfADirectoryAtATime(t *testing.T) {
	s := stage(t)
	s.call(0, moveOp(stageB, "d", stageC, "n"))
	s.hear(impl.MsRequest)
	// PaEnter for shard 2, PaGate and PaParent for shard 0.
	s.wantOpen("the first one", 3, 1)
	s.hearTo(impl.MsPrepare, 0)
	s.wantIntents("the gate", 0, intent(txOf(1, 1), impl.Part{Kind: impl.PaGate}, impl.RpWell, zeroH))
	s.call(1, moveOp(rootDir, "a", stageB, "n"))
	s.hear(impl.MsRequest)
	s.wantMet("a prepare of what is locked by another gate")
	s.hearTo(impl.MsReply, impl.MaxShards+1)
	s.wantCodes("the second one", -1, impl.RpBusy)
	s.wantOpen("the second one left PaParent alone, and it is told", 5, 1, 1, 0, 0)
	s.call(2, moveOp(rootDir, "f", stageA, "n"))
	s.hearTo(impl.MsRequest, 0)
	s.hearTo(impl.MsReply, impl.MaxShards+2)
	s.wantCodes("a file goes through no gate", impl.RpWell)
	s.hearAll()
	s.wantCodes("the first one", impl.RpWell, impl.RpBusy, impl.RpWell)
	s.ask(1, moveOp(rootDir, "a", stageB, "n"))
	s.wantCodes("behind it", impl.RpWell)
	s.beginnings()
}

// TestPreparesOfWhatIsLocked: by another's Intent, by another's open transaction; not by its own.
func TestPreparesOfWhatIsLocked(t *testing.T) {
	for _, c := range []struct {
		what       string
		first      impl.Op
		second     impl.Op
		code, then int
		by         string
	}{
		{"a file that is linked twice", linkOp(stageB, "l", stageF), linkOp(stageC, "l", stageF), impl.RpBusy, impl.RpWell, "an Intent"},
		{"a directory that is made in", makeOp(stageA, "l", fileAt(1, 0)), moveOp(stageB, "d", stageA, "n"), impl.RpBusy, impl.RpWell, "an open transaction"},
		{"a directory that is entered", moveOp(stageB, "d", stageA, "n"), moveOp(stageC, "k", stageA, "o"), impl.RpBusy, impl.RpWell, "an Intent"},
		{"a make beside what is locked", linkOp(stageB, "l", stageF), makeOp(stageC, "l", fileAt(0, 0)), impl.RpWell, impl.RpWell, ""},
		{"into itself", linkOp(stageB, "l", stageF), moveOp(rootDir, "b", stageB, "n"), impl.RpBusy, impl.RpLoop, "an open transaction"},
	} {
		s := stage(t)
		s.ask(3, makeOp(stageC, "k", fileAt(1, 0)))
		s.call(0, c.first)
		s.hear(impl.MsRequest)
		for slices.ContainsFunc(s.c.net, func(m impl.Msg) bool { return m.Kind == impl.MsPrepare && m.To == 0 }) {
			s.hearTo(impl.MsPrepare, 0)
		}
		held := len(s.c.net)
		s.call(1, c.second)
		s.hear(impl.MsRequest)
		for s.c.calls[len(s.c.calls)-1].To < 0 && len(s.c.net) > held {
			s.do(impl.Action{Kind: impl.AcDeliver, I: held})
		}
		s.wantCodes(c.what, c.code)
		if c.by != "" {
			s.wantMet("a prepare of what is locked by " + c.by)
		}
		s.hearAll()
		s.wantCodes(c.what+": the first one", impl.RpWell, c.code)
		if c.code == impl.RpBusy {
			s.ask(1, c.second)
			s.wantCodes(c.what+": behind the first one", c.then)
		}
		s.beginnings()
	}
}

// TestVotes: one that lacks, that comes twice, that is late.
func TestVotes(t *testing.T) {
	s := stage(t)
	s.call(0, moveOp(stageB, "d", stageC, "n"))
	s.hear(impl.MsRequest)
	s.hearTo(impl.MsPrepare, 2)
	s.double(impl.MsVote)
	s.double(impl.MsVote)
	s.wantOpen("two lack", 3, 1)
	s.wantMet("a vote twice")
	s.hearTo(impl.MsPrepare, 0)
	s.wantOpen("the gate's is in the net", 3, 1)
	s.do(impl.Action{Kind: impl.AcDeliver, I: 2})
	s.wantOpen("one lacks", 2, 1)
	s.hearTo(impl.MsPrepare, 0)
	s.do(impl.Action{Kind: impl.AcDeliver, I: 1})
	s.wantOpen("all are there, the walk asks", 2, 1, 2, 0, 1)
	s.hear(impl.MsUp, impl.MsIs, impl.MsUp, impl.MsIs)
	s.wantDeeds("decided", 7)
	s.wantOpen("the vote that is left, a reply and three that are told", 5, 0)
	s.hear(impl.MsVote)
	s.wantMet("a vote of what is not open")
	s.wantOpen("it means nothing any more", 4, 0)
	s.hearAll()
	s.wantCodes("moved", impl.RpWell)
	s.beginnings()
}

// TestAVoteAgainWhileItWalks: votes are counted at each vote, and the walk goes on from where it is.
func TestAVoteAgainWhileItWalks(t *testing.T) {
	s := stage(t)
	s.call(0, moveOp(stageB, "d", stageC, "n"))
	s.hear(impl.MsRequest, impl.MsPrepare, impl.MsPrepare, impl.MsPrepare, impl.MsVote, impl.MsVote)
	s.double(impl.MsVote)
	s.wantOpen("the walk asks shard 2", 2, 1)
	s.hear(impl.MsUp, impl.MsIs)
	s.wantOpen("the walk asks shard 0", 2, 1)
	s.hear(impl.MsVote)
	s.wantOpen("the walk asks again", 2, 1)
	s.hear(impl.MsUp, impl.MsUp, impl.MsIs)
	s.wantDeeds("decided", 7)
	s.wantOpen("an answer that is late, a reply, three that are told", 5, 0)
	s.hear(impl.MsIs)
	s.wantMet("an answer to no step of a walk")
	s.hearAll()
	s.wantDeeds("decided once", 7)
	s.beginnings()
}

// TestVotesThatRefuse: Busy comes ahead of all, and does not wait for the others; else the first part's code counts, when all are there.
func TestVotesThatRefuse(t *testing.T) {
	s := stage(t)
	s.ask(3, makeOp(stageC, "d", fileAt(2, 0)))
	s.call(0, moveOp(stageB, "d", stageC, "d"))
	s.hear(impl.MsRequest)
	s.hearTo(impl.MsPrepare, 2)
	s.hear(impl.MsVote)
	s.wantOpen("it refuses, and two lack", 2, 1, 0, 0, 1)
	s.wantDeeds("nothing is decided", 7)
	s.hear(impl.MsPrepare, impl.MsVote)
	s.wantDeeds("one lacks", 7)
	s.hear(impl.MsPrepare, impl.MsVote)
	s.wantDeeds("none lacks", 8)
	s.hear(impl.MsReply)
	s.wantCodes("refused", impl.RpExist)
	s.hearAll()
	s.wantOpen("told", 0, 0, 0, 0, 0)
	s.beginnings()

	s = stage(t)
	s.ask(3, makeOp(stageC, "d", fileAt(2, 0)))
	s.call(1, moveOp(rootDir, "b", stageA, "n"))
	s.hear(impl.MsRequest)
	s.call(0, moveOp(stageB, "d", stageC, "d"))
	s.hearTo(impl.MsRequest, 1)
	s.hearTo(impl.MsPrepare, 2)
	s.hearTo(impl.MsVote, 1)
	s.wantOpen("it refuses", 3, 2)
	s.hearTo(impl.MsPrepare, 0)
	s.wantMet("a prepare of what is locked by another gate")
	s.hearTo(impl.MsVote, 1)
	s.hearTo(impl.MsReply, impl.MaxShards)
	s.wantCodes("Busy at the gate, ahead of what refuses and of what lacks", -1, impl.RpBusy)
	s.wantDeeds("nothing is done", 7)
	s.hearAll()
	// What was prepared behind the decision is asked for, and told.
	for len(s.run().Shards[0].Intents) > 0 {
		s.tick(0)
		s.hearAll()
	}
	s.wantOpen("told", 0, 0, 0, 0, 0)
	s.beginnings()
}

// TestWhatIsToldWithNothing: Intents of a decision that is none are done with, and nothing of them is done.
func TestWhatIsToldWithNothing(t *testing.T) {
	s := stage(t)
	before := s.run().Shards
	s.ask(0, dropOp(rootDir, "b"), linkOp(rootDir, "n", fileAt(1, 99)), moveOp(rootDir, "a", stageB, "d"), moveOp(rootDir, "b", stageD, "n"))
	s.wantCodes("refused", impl.RpNotEmpty, impl.RpStale, impl.RpExist, impl.RpLoop)
	after := s.run().Shards
	for id := range after {
		if !sameTree(impl.Tree{Nodes: before[id].Nodes}, impl.Tree{Nodes: after[id].Nodes}) || len(after[id].Intents) > 0 {
			t.Errorf("shard %d is %v; was %v", id, after[id], before[id])
		}
	}
	if done := after[1].Done[len(before[1].Done):]; !slices.Equal(done, []impl.Tx{txOf(0, 3), txOf(0, 4), txOf(0, 5), txOf(0, 6)}) {
		t.Error("Done of shard 1:", done)
	}
	for i, v := range after[0].Decided[3:] {
		if v != (impl.Verdict{Tx: txOf(0, 3+i)}) {
			t.Errorf("verdict %d: %v", i, v)
		}
	}
}

// TestAPrepareOfWhatIsDone: it says nothing; what is told again means nothing.
func TestAPrepareOfWhatIsDone(t *testing.T) {
	s := stage(t)
	s.call(0, makeOp(rootDir, "n", fileAt(1, 0)))
	s.hear(impl.MsRequest)
	s.double(impl.MsPrepare)
	s.hear(impl.MsVote, impl.MsReply)
	s.double(impl.MsTell)
	s.wantOpen("told", 2, 0, 0, 0)
	was := s.run().Shards[1]
	if n := nodeOf(&was, fileAt(1, 4)); n == nil || was.Done[len(was.Done)-1] != txOf(0, 3) {
		t.Error("shard 1:", was)
	}
	s.hear(impl.MsPrepare)
	s.wantMet("a prepare of what is done")
	s.wantOpen("it says nothing", 1, 0, 0, 0)
	s.hear(impl.MsTell)
	s.wantMet("a tell of what is not intended")
	if is := s.run().Shards[1]; !sameShard(is, was) {
		t.Errorf("shard 1 is %v; was %v", is, was)
	}
	s.beginnings()
}

// TestAskingForADecision: while it is open, decided with 1, with 0, never heard of.
func TestAskingForADecision(t *testing.T) {
	s := stage(t)
	s.call(0, makeOp(rootDir, "n", fileAt(1, 0)))
	s.hear(impl.MsRequest, impl.MsPrepare)
	s.tick(1)
	s.wantOpen("a vote and an ask", 2, 1, 0, 1)
	s.double(impl.MsAsk)
	s.wantOpen("it is open: nothing is said", 2, 1, 0, 1)
	s.wantMet("an ask of what is open")
	s.hear(impl.MsVote, impl.MsReply)
	s.lose(impl.MsTell)
	s.wantOpen("the ask alone is left", 1, 0, 0, 1)
	s.hear(impl.MsAsk)
	s.wantOpen("it is told", 1, 0, 0, 1)
	s.hear(impl.MsTell)
	s.wantOpen("done", 0, 0, 0, 0)
	if sh := s.run().Shards[1]; nodeOf(&sh, fileAt(1, 4)) == nil {
		t.Error("decided with 1, but not made:", sh)
	}
	s.beginnings()

	s = stage(t)
	s.call(0, dropOp(rootDir, "b"))
	s.hear(impl.MsRequest, impl.MsPrepare, impl.MsVote, impl.MsReply)
	s.lose(impl.MsTell)
	s.tick(1)
	s.hear(impl.MsAsk, impl.MsTell)
	s.wantOpen("done", 0, 0, 0, 0)
	s.wantMet("an ask of what was decided: not done")
	s.beginnings()

	s = stage(t)
	s.call(0, makeOp(rootDir, "n", fileAt(1, 0)))
	s.hear(impl.MsRequest, impl.MsPrepare)
	s.crash(0)
	s.tick(1)
	s.hear(impl.MsAsk)
	s.wantOpen("the shard is down: nothing is said", 1, 0, 0, 1)
	s.start(0)
	s.tick(1)
	s.hear(impl.MsAsk, impl.MsTell)
	s.wantOpen("the vote is left", 1, 0, 0, 0)
	s.wantMet("an ask of what was decided: never")
	if sh := s.run().Shards[1]; nodeOf(&sh, fileAt(1, 4)) != nil || sh.Next != 5 {
		t.Error("never decided, but made, or its number is free again:", sh)
	}
	s.hear(impl.MsVote)
	s.wantDeeds("the vote means nothing", 6)
	s.beginnings()
}

// TestTransactionsAreHeldApart: a transaction whose number is the same but for Boot or Shard is another one.
func TestTransactionsAreHeldApart(t *testing.T) {
	s := stage(t)
	s.call(0, makeOp(rootDir, "n", fileAt(2, 0)))
	s.hear(impl.MsRequest, impl.MsPrepare)
	s.crash(0)
	s.start(0)
	s.call(1, makeOp(rootDir, "m", dirAt(2, 0)))
	s.hear(impl.MsRequest, impl.MsPrepare)
	second := impl.Tx{Shard: 0, Boot: 2}
	s.wantIntents("both", 2, intent(txOf(0, 3), makePart(fileAt(2, 0), rootDir), impl.RpWell, fileAt(2, 3)), intent(second, makePart(dirAt(2, 0), rootDir), impl.RpWell, dirAt(2, 4)))
	s.hear(impl.MsVote)
	s.wantDeeds("the first one's vote", 6)
	s.hear(impl.MsVote)
	s.wantDeeds("the second one's vote", 7)
	s.hear(impl.MsTell)
	s.wantIntents("the second one is told", 2, intent(txOf(0, 3), makePart(fileAt(2, 0), rootDir), impl.RpWell, fileAt(2, 3)))
	s.tick(2)
	s.hear(impl.MsAsk, impl.MsTell)
	s.wantIntents("the first one is told", 2)
	sh := s.run().Shards[2]
	if nodeOf(&sh, dirAt(2, 4)) == nil || nodeOf(&sh, fileAt(2, 3)) != nil {
		t.Error("shard 2:", sh)
	}
	s.beginnings()
}
