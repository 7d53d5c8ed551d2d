package tests

import (
	"fmt"
	"testing"

	"loop.example/g00341/impl"
)

// row: a chain of directories from the root down, each on the next one of these shards, and beside it a directory x of the root on shard 0.
func row(t *testing.T, shards, count int, places ...int) (*scene, []impl.Handle) {
	s := on(t, shards, 3)
	s.ask(2, makeOp(rootDir, "x", dirAt(0, 0)))
	all := []impl.Handle{rootDir}
	for i := range count {
		s.ask(2, makeOp(all[i], "d", dirAt(places[i%len(places)], 0)))
		all = append(all, s.c.calls[len(s.c.calls)-1].Reply.H)
	}
	return s, all
}

// TestTheWalk: chains that lie on one shard, on another one, on several, just as deep as may be, and deeper.
func TestTheWalk(t *testing.T) {
	for _, shards := range [][]int{{0}, {1}, {0, 1}, {1, 0, 2}, {3, 2, 1, 0}} {
		for _, depth := range []int{1, 2, impl.MaxDeep - 2, impl.MaxDeep - 1, impl.MaxDeep, impl.MaxDeep + 1} {
			s, all := row(t, impl.MaxShards, depth, shards...)
			code := impl.RpWell
			if depth >= impl.MaxDeep {
				code = impl.RpDeep
			}
			what := fmt.Sprintf("shards %v, depth %d", shards, depth)
			// Up to the directory that is moved, which is met ahead of the root.
			loop := impl.RpLoop
			if depth > impl.MaxDeep {
				loop = impl.RpDeep
			}
			s.ask(0, moveOp(rootDir, "d", all[depth], "y"))
			s.wantCodes(what+": into itself", loop)
			s.ask(0, moveOp(rootDir, "x", all[depth], "x"))
			s.wantCodes(what+": to the root", code)
			s.wantOpen(what, 0, 0, 0, 0, 0, 0)
			if code == impl.RpWell {
				if r := s.run(); parentIn(r, dirAt(0, 2)) != all[depth] {
					t.Errorf("%s: the Parent is %v", what, parentIn(r, dirAt(0, 2)))
				}
				s.ask(0, moveOp(all[depth], "x", rootDir, "w"))
				s.wantCodes(what+": back into the root", impl.RpWell)
			}
			if depth == impl.MaxDeep {
				// From within the chain: the same way, whatever lies behind it.
				s.ask(0, moveOp(all[2], "d", all[1], "z"))
				s.wantCodes(what+": up", impl.RpWell)
				s.ask(0, moveOp(rootDir, "x", all[depth], "x"))
				s.wantCodes(what+": the way is shorter now", impl.RpWell)
			}
			s.settled()
		}
	}
}

func parentIn(r impl.Result, h impl.Handle) impl.Handle {
	if n := nodeOf(&r.Shards[h.Shard], h); n != nil {
		return n.Parent
	}
	return zeroH
}

// TestStepsOfAWalk: each step on another shard is asked for and answered, those that lie here are not.
func TestStepsOfAWalk(t *testing.T) {
	s, all := row(t, 3, 5, 1, 0, 0, 2, 1)
	s.call(0, moveOp(rootDir, "x", all[5], "y"))
	s.hear(impl.MsRequest, impl.MsPrepare)
	s.wantOpen("prepared", 1, 1, 2, 1, 0)
	for _, to := range []int{1, 2, 1} {
		s.hearTo(s.c.net[0].Kind, 0)
		s.wantOpen("it asks", 1, 1)
		s.hearTo(impl.MsUp, to)
		s.wantOpen("it is answered", 1, 1)
	}
	s.hear(impl.MsIs)
	s.wantDeeds("decided", 7)
	s.wantOpen("a reply, and one that is told", 2, 0)
	s.beginnings()
}

// TestALostStep: a tick of the shard has the walk ask again, and what is answered twice counts once.
func TestALostStep(t *testing.T) {
	s, all := row(t, 3, 3, 1, 1, 2)
	s.call(0, moveOp(rootDir, "x", all[3], "y"))
	s.hear(impl.MsRequest, impl.MsPrepare, impl.MsVote)
	s.lose(impl.MsUp)
	s.wantOpen("nothing is in the net", 0, 1)
	s.tick(0)
	s.wantMet("a tick of a walk")
	s.wantOpen("it asks again, and nothing is prepared again", 1, 1)
	s.tick(0)
	s.hear(impl.MsUp, impl.MsUp)
	s.wantOpen("two answers", 2, 1)
	s.hear(impl.MsIs)
	s.wantOpen("the next step is asked for", 2, 1)
	s.hear(impl.MsIs)
	s.wantMet("an answer to no step of a walk")
	s.wantOpen("the same answer again means nothing", 1, 1)
	s.hearAll()
	s.wantCodes("moved", impl.RpWell)
	s.beginnings()
}

// TestAWalkPastWhatIsMoved: past a directory that another transaction moves, which has decided and was not heard yet: Busy, here and on another shard.
func TestAWalkPastWhatIsMoved(t *testing.T) {
	for _, shard := range []int{0, 1} {
		s := on(t, 3, 3)
		// On shard 1: m with k in it; on this shard a directory y; w to be moved lies in y.
		s.ask(2, makeOp(rootDir, "m", dirAt(1, 0)), makeOp(dirAt(1, 2), "k", dirAt(2, 0)), makeOp(rootDir, "x", dirAt(2, 0)), makeOp(rootDir, "y", dirAt(shard, 0)))
		y := s.c.calls[3].Reply.H
		s.ask(2, makeOp(y, "w", dirAt(2, 0)))
		s.call(0, moveOp(rootDir, "m", dirAt(2, 3), "m"))
		s.hear(impl.MsRequest)
		s.hear(impl.MsPrepare, impl.MsPrepare, impl.MsVote, impl.MsVote, impl.MsUp, impl.MsIs, impl.MsReply)
		s.wantCodes("the first one", impl.RpWell)
		s.wantOpen("decided, and not told", 2, 0, 0, 1, 1)
		s.call(1, moveOp(y, "w", dirAt(2, 2), "w"))
		s.hear(impl.MsRequest)
		for s.c.calls[len(s.c.calls)-1].To < 0 {
			// Behind the two that are told.
			s.do(impl.Action{Kind: impl.AcDeliver, I: 2})
		}
		s.wantMet("a walk past what is moved")
		s.wantCodes("the second one", impl.RpBusy)
		s.hearAll()
		s.ask(1, moveOp(y, "w", dirAt(2, 2), "w"))
		s.wantCodes("behind the first one", impl.RpWell)
		s.beginnings()
	}
}

// TestAWalkPastWhatIsNoNode: a step that is asked for late is answered, and the answer means nothing any more.
func TestAWalkPastWhatIsNoNode(t *testing.T) {
	s, all := row(t, 2, 1, 1)
	s.call(0, moveOp(rootDir, "x", all[1], "y"))
	s.hear(impl.MsRequest, impl.MsPrepare, impl.MsVote)
	s.double(impl.MsUp)
	s.hear(impl.MsIs, impl.MsReply, impl.MsTell)
	s.wantCodes("moved", impl.RpWell)
	late := len(s.c.net)
	s.call(0, dropOp(all[1], "y"))
	s.hearOthers(impl.MsUp)
	s.call(0, dropOp(rootDir, "d"))
	s.hearOthers(impl.MsUp)
	s.wantCodes("both are gone", impl.RpWell, impl.RpWell, impl.RpWell)
	s.wantOpen("the late one", late, 0)
	s.hear(impl.MsUp)
	s.wantMet("a walk past what is no node")
	s.wantOpen("it is answered", 1, 0)
	s.hear(impl.MsIs)
	s.wantOpen("it means nothing", 0, 0)
	s.wantDeeds("it means nothing", 5)
	s.beginnings()
}

// TestAMoveIntoWhatMoved: what a directory was moved into counts for the next walk.
func TestAMoveIntoWhatMoved(t *testing.T) {
	s := stage(t)
	s.ask(0, moveOp(rootDir, "a", stageD, "a"), moveOp(rootDir, "b", stageC, "b"), moveOp(rootDir, "b", stageA, "b"), moveOp(stageD, "a", rootDir, "a"), moveOp(rootDir, "b", stageC, "b"))
	s.wantCodes("in a ring, and not", impl.RpWell, impl.RpLoop, impl.RpLoop, impl.RpWell, impl.RpWell)
	r := s.run()
	if parentIn(r, stageA) != rootDir || parentIn(r, stageB) != stageC || parentIn(r, stageD) != stageB {
		t.Error("Parents:", parentIn(r, stageA), parentIn(r, stageB), parentIn(r, stageD))
	}
}
