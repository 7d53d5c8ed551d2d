package tests

import (
	"slices"
	"testing"

	"loop.example/g00341/impl"
)

// TestAShardThatFalls: what is open is gone, what is recorded stays; behind a start Boot is one more and transactions are counted from 0.
func TestAShardThatFalls(t *testing.T) {
	s := stage(t)
	s.call(0, makeOp(rootDir, "n", fileAt(1, 0)))
	s.hear(impl.MsRequest)
	was := s.run().Shards[0]
	s.crash(0)
	r := s.run()
	if r.Up[0] || !r.Up[1] || !r.Up[2] || r.Acts != 0 || r.Net != 1 || !sameShard(r.Shards[0], was) {
		t.Error("fallen:", r.Up, r.Acts, r.Net, r.Shards[0])
	}
	s.crash(0)
	s.tick(0)
	s.wantOpen("one that is down falls again, and does not tick", 1, 0)
	s.start(0)
	r = s.run()
	was.Boot = 2
	if !r.Up[0] || r.Acts != 0 || !sameShard(r.Shards[0], was) {
		t.Error("started again:", r.Up, r.Acts, r.Shards[0])
	}
	s.start(0)
	if r = s.run(); r.Shards[0].Boot != 2 {
		t.Error("one that is up is started:", r.Shards[0].Boot)
	}
	s.tick(impl.MaxShards)
	s.hear(impl.MsRequest)
	s.hearTo(impl.MsPrepare, 1)
	s.hearTo(impl.MsPrepare, 1)
	s.wantIntents("counted from 0", 1, intent(txOf(0, 3), makePart(fileAt(1, 0), rootDir), impl.RpWell, fileAt(1, 4)), intent(impl.Tx{Shard: 0, Boot: 2}, makePart(fileAt(1, 0), rootDir), impl.RpWell, fileAt(1, 5)))
	s.hearAll()
	s.wantCodes("done", impl.RpWell)
	if c := s.run().Calls[6]; c.Reply.H != fileAt(1, 5) {
		t.Error("the second one's:", c)
	}
	s.crash(1)
	s.start(1)
	if r = s.run(); r.Shards[0].Boot != 2 || r.Shards[1].Boot != 2 || r.Shards[2].Boot != 1 {
		t.Error("Boots:", r.Shards)
	}
	s.beginnings()
}

// keepings: what may be kept of a frame: all, nothing, all but one, some torn.
func keepings() []impl.Action {
	all := allKept()
	l := []impl.Action{{Torn: -1}, {Keep: all, Torn: -1}, {Keep: all, Torn: 9}, {Keep: all, Torn: 20}, {Keep: slices.Repeat([]bool{true}, 20), Torn: -1}}
	for i := range 3 {
		lacks := slices.Clone(all)
		lacks[i] = false
		l = append(l, impl.Action{Keep: all, Torn: i}, impl.Action{Keep: lacks, Torn: -1}, impl.Action{Keep: all[:i], Torn: -1}, impl.Action{Keep: lacks, Torn: i})
	}
	for i := range l {
		l[i].Kind = impl.AcFuse
	}
	return l
}

// TestFusesAtALocalRecord: the deed is there just if the record is, in one sector or in two; the reply is sent neither way.
func TestFusesAtALocalRecord(t *testing.T) {
	for name, sectors := range map[string]int{"n": 1, "nnnnnn": 2} {
		for _, fuse := range keepings() {
			wantFuse(t, makeOp(rootDir, name, fileAt(0, 0)), sectors, fuse)
		}
	}
}

func wantFuse(t *testing.T, op impl.Op, sectors int, fuse impl.Action) {
	t.Helper()
	made := fileAt(0, 2)
	if got := sectorsOf(impl.Record{Kind: impl.RcLocal, Req: 1, Op: op, Fresh: made, Reply: impl.Reply{H: made}}); got != sectors {
		t.Fatal("the record has another size:", got)
	}
	isThere := len(fuse.Keep) >= sectors && (fuse.Torn < 0 || fuse.Torn >= sectors)
	for i := range sectors {
		isThere = isThere && fuse.Keep[i]
	}
	s := on(t, 1, 2)
	s.do(fuse)
	s.call(0, op)
	s.hear(impl.MsRequest)
	r := s.run()
	if r.Up[0] || r.Net != 0 || r.Calls[0].To != -1 {
		t.Errorf("fuse %v: %+v", fuse, r)
	}
	if (len(r.Deeds) == 1) != isThere || (len(r.Shards[0].Nodes) == 2) != isThere || (len(r.Shards[0].Lasts) == 1) != isThere {
		t.Errorf("fuse %v: the record is there: %t; %+v", fuse, isThere, r)
	}
	s.start(0)
	s.tick(impl.MaxShards)
	s.hearAll()
	r = s.run()
	if len(r.Deeds) != 1 || r.Calls[0].Reply.H != made || len(r.Shards[0].Nodes) != 2 || r.Shards[0].Boot != 2 {
		t.Errorf("fuse %v, asked again: %+v", fuse, r)
	}
	if met := s.c.met["the last request again"]; (met > 0) != isThere {
		t.Errorf("fuse %v: answered from what was kept: %d", fuse, met)
	}
	s.ask(1, makeOp(rootDir, "m", fileAt(0, 0)))
	s.wantCodes("the fuse is gone", impl.RpWell)
	s.beginnings()
}

// TestWhatBurnsNoFuse: looks, Busy without room and what is only sent commit nothing.
func TestWhatBurnsNoFuse(t *testing.T) {
	s := stage(t)
	s.fuse(0, -1)
	s.ask(0, listOp(rootDir), lookOp(rootDir, "a"), readOp(stageF))
	s.wantCodes("looks", impl.RpWell, impl.RpWell, impl.RpWell)
	s.tick(0)
	if !s.run().Up[0] {
		t.Error("a tick of nothing burns the fuse")
	}
	s.call(0, makeOp(rootDir, "n", fileAt(1, 0)))
	s.hear(impl.MsRequest)
	if r := s.run(); !r.Up[0] || r.Acts != 1 {
		t.Error("to open a transaction burns the fuse:", r)
	}
	s.tick(0)
	s.hear(impl.MsPrepare, impl.MsVote)
	if r := s.run(); r.Up[0] || r.Acts != 0 {
		t.Error("a decision burns it not:", r)
	}
	s.beginnings()
}

// TestFusesThatAreNone: of one that is down there is none; a second one takes the place of the first.
func TestFusesThatAreNone(t *testing.T) {
	s := on(t, 1, 1)
	s.crash(0)
	s.fuse(0, -1)
	s.start(0)
	s.ask(0, makeOp(rootDir, "n", fileAt(0, 0)))
	s.wantCodes("a fuse of one that is down", impl.RpWell)
	s.fuse(0, -1)
	s.crash(0)
	s.start(0)
	s.ask(0, makeOp(rootDir, "m", fileAt(0, 0)))
	s.wantCodes("a fuse ahead of a fall", impl.RpWell)
	s.fuse(0, -1)
	s.fuse(0, -1, allKept()...)
	s.call(0, makeOp(rootDir, "o", fileAt(0, 0)))
	s.hear(impl.MsRequest)
	s.wantDeeds("the second fuse keeps all", 3)
	s.start(0)
	s.fuse(0, -1, allKept()...)
	s.fuse(0, -1)
	s.tick(impl.MaxShards)
	s.hearAll()
	s.wantCodes("it was kept", impl.RpWell)
	s.call(0, makeOp(rootDir, "p", fileAt(0, 0)))
	s.hear(impl.MsRequest)
	s.wantDeeds("the second fuse keeps nothing", 3)
	s.beginnings()
}

// TestFusesWhileItGetsReady: at each of the places at which a shard that moves a directory commits something.
func TestFusesWhileItGetsReady(t *testing.T) {
	for _, keep := range [][]bool{nil, allKept()} {
		s := stage(t)
		s.fuse(0, -1, keep...)
		s.call(0, moveOp(rootDir, "b", stageA, "n"))
		s.hear(impl.MsRequest)
		s.wantMet("it falls while it gets ready itself")
		s.wantOpen("nothing else of it happens", 0, 0, min(1, len(keep)), 0, 0)
		s.start(0)
		s.tick(0)
		s.wantOpen("an Intent of its own that is not open goes", 0, 0, 0, 0, 0)
		s.wantDeeds("nothing was done", 6)
		s.settled()

		s = stage(t)
		s.fuse(0, -1, keep...)
		s.call(0, moveOp(rootDir, "a", stageB, "n"))
		s.hear(impl.MsRequest)
		s.wantOpen("what was sent ahead stays", 1, 0, min(1, len(keep)), 0, 0)
		s.hear(impl.MsPrepare)
		s.wantOpen("prepared in vain", 1, 0, min(1, len(keep)), 1, 0)
		s.beginnings()
	}
}

// long: a use of three shards that comes to each kind of record on each of them.
func long(t *testing.T) *scene {
	s := stage(t)
	s.ask(0, makeOp(stageA, "mmmmmm", fileAt(1, 0)), linkOp(stageB, "llllll", stageF), moveOp(rootDir, "a", stageB, "aaaaaa"), writeOp(stageG, 4), dropOp(stageA, "c"), dropOp(rootDir, "f"), moveOp(stageB, "d", rootDir, "dddddd"), listOp(rootDir))
	return s
}

// TestFallsAtEachPlace: at each place of a long use each shard falls, at once or by a fuse with each keeping, and is started some actions later; whatever is lost, one tree answers, and all is quiet in the end.
func TestFallsAtEachPlace(t *testing.T) {
	base := long(t)
	fuses := keepings()
	s := &steps{}
	kinds := map[string]int{}
	for at := range base.script {
		for shard := range 3 {
			falls := []impl.Action{{Kind: impl.AcCrash}, fuses[0], fuses[1], fuses[s.below(len(fuses))]}
			for _, fall := range falls {
				fall.Node = shard
				l := append(slices.Clone(base.script[:at]), fall)
				back := min(at+s.below(12), len(base.script))
				l = append(append(l, base.script[at:back]...), impl.Action{Kind: impl.AcStart, Node: shard}, impl.Action{Kind: impl.AcTick, Node: impl.MaxShards})
				l = append(l, base.script[back:]...)
				for kind, n := range wantFallen(t, base.c.setup, l) {
					kinds[kind] += n
				}
			}
		}
	}
	for kind := impl.RcLocal; kind <= impl.RcTold; kind++ {
		if what := "a fuse at a record of kind " + string(rune('0'+kind)); kinds[what] < 20 {
			t.Errorf("%s: %d", what, kinds[what])
		}
	}
}

// wantFallen: the script as the model plays it, as it is and settled.
func wantFallen(t *testing.T, setup impl.Setup, script []impl.Action) map[string]int {
	t.Helper()
	c := newClusterModel(setup)
	for _, a := range script {
		c.do(a)
	}
	wantModel(t, "with a fall", setup, script, c.result())
	c.settle()
	setup.Settle = true
	if r := wantModel(t, "with a fall, settled", setup, script, c.result()); r.Rounds > 3 {
		t.Errorf("Rounds %d", r.Rounds)
	}
	return c.met
}

// TestAFuseWithoutRoom: on a disk without room nothing is recorded, so that no fuse burns.
func TestAFuseWithoutRoom(t *testing.T) {
	for _, sectors := range []int{1, 2, impl.Reserve} {
		s := onDisks(t, 2, 2, sectors)
		s.fuse(0, -1, allKept()...)
		s.fuse(1, -1)
		s.ask(0, makeOp(rootDir, "n", fileAt(0, 0)), makeOp(rootDir, "n", fileAt(1, 0)), writeOp(fileAt(1, 9), 1))
		s.tick(0)
		s.wantCodes("no room", impl.RpBusy, impl.RpBusy, impl.RpBusy)
		if r := s.run(); !r.Up[0] || !r.Up[1] {
			t.Errorf("%d sectors: Up %v", sectors, r.Up)
		}
		s.beginnings()
	}
}

// TestDecidedAndToldWithoutRoom: what is held back is for what was begun, and for starts.
func TestDecidedAndToldWithoutRoom(t *testing.T) {
	s := onDisks(t, 2, 1, impl.Reserve+20)
	s.ask(0, makeOp(rootDir, "n", fileAt(1, 0)))
	s.call(0, makeOp(rootDir, "m", fileAt(1, 0)))
	s.hear(impl.MsRequest, impl.MsPrepare)
	for range 90 {
		s.crash(1)
		s.start(1)
	}
	s.fuse(0, -1)
	s.hear(impl.MsVote)
	s.wantOpen("it fell at the decision", 0, 0, 0, 1)
	s.start(0)
	s.tick(impl.MaxShards)
	s.hear(impl.MsRequest, impl.MsPrepare)
	s.wantMet("a prepare without room")
	s.hearAll()
	s.wantCodes("a new one finds no room", impl.RpWell, impl.RpBusy)
	s.tick(1)
	s.hear(impl.MsAsk)
	s.fuse(1, -1, allKept()...)
	s.hear(impl.MsTell)
	s.wantMet("a fuse at a record of kind 4")
	s.wantOpen("told, and fallen", 0, 0, 0, 0)
	s.start(1)
	s.ask(0, listOp(rootDir))
	s.wantCodes("a look", impl.RpWell)
	s.settled()
}

// TestDisksOfAFewSectors: a start takes one, and without one a shard stays down.
func TestDisksOfAFewSectors(t *testing.T) {
	for sectors := 1; sectors <= 5; sectors++ {
		s := onDisks(t, 2, 1, sectors)
		for boots := 1; boots <= sectors+1; boots++ {
			r := s.run()
			if r.Up[0] != (boots <= sectors) || r.Shards[0].Boot != min(boots, sectors) {
				t.Errorf("%d sectors, start %d: %v, %v", sectors, boots, r.Up, r.Shards[0])
			}
			s.crash(0)
			s.start(0)
		}
		s.start(0)
		s.call(0, listOp(rootDir))
		s.hear(impl.MsRequest)
		s.wantDeeds("a shard that is down", 0)
		r := s.settled()
		if r.Up[0] || !r.Up[1] || r.Rounds != 60 || r.Calls[0].To != -1 || r.Net != 1 {
			t.Errorf("%d sectors, settled: %+v", sectors, r)
		}
		s.beginnings()
	}
	s := onDisks(t, 1, 1, 1)
	s.crash(0)
	if r := s.settled(); r.Up[0] || r.Rounds != 0 {
		t.Error("no shard can be started, but it is quiet:", r)
	}
}
