package tests

import (
	"testing"

	"loop.example/g00341/impl"
)

// full: the net is full of requests of client 0, which lists the root.
func full(t *testing.T) *scene {
	s := on(t, 2, 2)
	s.call(0, listOp(rootDir))
	for range impl.MaxNet - 1 {
		s.tick(impl.MaxShards)
	}
	return s
}

func TestAsManyMessagesAsMayBe(t *testing.T) {
	s := full(t)
	s.wantOpen("MaxNet messages", impl.MaxNet, 0)
	s.tick(impl.MaxShards)
	s.wantOpen("one more", impl.MaxNet, 0)
	s.call(1, listOp(rootDir))
	s.wantOpen("one of another client", impl.MaxNet, 0)
	for range impl.MaxNet {
		s.do(impl.Action{Kind: impl.AcDrop})
	}
	s.wantOpen("all of them dropped", 0, 0)
	s.tick(impl.MaxShards + 1)
	s.hearAll()
	s.wantCodes("the net is free again", -1, impl.RpWell)
	s.beginnings()
}

// TestAFullNetWhileOneIsHeard: one that goes leaves its room for the answer, one that stays does not.
func TestAFullNetWhileOneIsHeard(t *testing.T) {
	s := full(t)
	s.do(impl.Action{Kind: impl.AcDouble})
	s.wantOpen("the reply is lost", impl.MaxNet, 0)
	s.wantDeeds("it was heard", 1)
	s.do(impl.Action{Kind: impl.AcDeliver})
	s.wantOpen("the reply has room", impl.MaxNet, 0)
	s.wantDeeds("it was heard again", 2)
	// The reply lies behind all requests.
	s.do(impl.Action{Kind: impl.AcDeliver, I: impl.MaxNet - 1})
	s.wantCodes("the reply", impl.RpWell)
	s.wantOpen("the reply was heard", impl.MaxNet-1, 0)
	s.wantMet("a message is lost in a full net")
}

// TestPartsInAFullNet: of several messages at once those that have room go, the first ones.
func TestPartsInAFullNet(t *testing.T) {
	for room := 1; room <= 3; room++ {
		s := on(t, 4, 2)
		s.ask(0, makeOp(rootDir, "a", dirAt(1, 0)), makeOp(rootDir, "b", dirAt(2, 0)))
		s.call(0, moveOp(rootDir, "a", dirAt(2, 2), "c"))
		s.call(1, listOp(dirAt(3, 9)))
		for len(s.c.net) < impl.MaxNet-room+1 {
			s.tick(impl.MaxShards + 1)
		}
		s.do(impl.Action{Kind: impl.AcDeliver})
		// PaEnter and PaParent for other shards, PaGate for its own.
		s.wantOpen("the prepares", impl.MaxNet-room+min(room, 2), 1, 1, 0, 0)
		s.settled()
	}
}

// fourLists: four clients that list four directories, their requests in the net in this order.
func fourLists(t *testing.T) *scene {
	s := on(t, 1, 4)
	s.ask(0, makeOp(rootDir, "a", rootDir), makeOp(rootDir, "b", rootDir), makeOp(rootDir, "c", rootDir))
	for client, d := range []impl.Handle{rootDir, dirAt(0, 2), dirAt(0, 3), dirAt(0, 4)} {
		s.call(client, listOp(d))
	}
	return s
}

// TestPlacesInTheNet: I below, at and above how many messages there are.
func TestPlacesInTheNet(t *testing.T) {
	for _, i := range []int{0, 1, 2, 3, 4, 5, 7, 8, 11, 79, 80, 81, impl.MaxNum - 1, impl.MaxNum} {
		at := i % 4
		s := fourLists(t)
		s.do(impl.Action{Kind: impl.AcDeliver, I: i})
		deeds := s.run().Deeds
		if last := deeds[len(deeds)-1]; last.Client != at || s.run().Net != 4 {
			t.Errorf("AcDeliver of %d: %v was heard", i, last)
		}
		// The reply is behind the other three.
		s.do(impl.Action{Kind: impl.AcDeliver, I: 3})
		if c := s.run().Calls[3+at]; c.To < 0 {
			t.Errorf("AcDeliver of %d: %v did not come back", i, c)
		}

		s = fourLists(t)
		s.do(impl.Action{Kind: impl.AcDouble, I: i})
		deeds = s.run().Deeds
		if last := deeds[len(deeds)-1]; last.Client != at || s.run().Net != 5 {
			t.Errorf("AcDouble of %d: %v was heard", i, last)
		}
		s.do(impl.Action{Kind: impl.AcDouble, I: at}, impl.Action{Kind: impl.AcDeliver, I: at})
		s.wantDeeds("doubled, and delivered", 3+3)
		s.wantOpen("doubled, and delivered", 6, 0)

		s = fourLists(t)
		s.do(impl.Action{Kind: impl.AcDrop, I: i})
		s.wantDeeds("dropped", 3)
		s.hearAll()
		for client := range 4 {
			if c := s.run().Calls[3+client]; (c.To < 0) != (client == at) {
				t.Errorf("AcDrop of %d: %v", i, c)
			}
		}
	}
}

func TestAnEmptyNet(t *testing.T) {
	s := on(t, 2, 1)
	for _, kind := range []int{impl.AcDeliver, impl.AcDouble, impl.AcDrop} {
		for _, i := range []int{0, 1, impl.MaxNet, impl.MaxNum} {
			s.do(impl.Action{Kind: kind, I: i})
		}
	}
	s.wantOpen("nothing is there", 0, 0)
	s.ask(0, makeOp(rootDir, "a", dirAt(1, 0)))
	s.do(impl.Action{Kind: impl.AcDeliver}, impl.Action{Kind: impl.AcDouble}, impl.Action{Kind: impl.AcDrop})
	s.wantCodes("all was heard", impl.RpWell)
	s.wantOpen("all was heard", 0, 0)
}

func TestMessagesToAShardThatIsDown(t *testing.T) {
	s := on(t, 2, 2)
	s.call(0, makeOp(rootDir, "a", dirAt(1, 0)))
	s.crash(0)
	s.double(impl.MsRequest)
	s.wantOpen("it stays, and means nothing", 1, 0)
	s.hear(impl.MsRequest)
	s.wantOpen("it goes, and means nothing", 0, 0)
	s.start(0)
	s.tick(impl.MaxShards)
	s.hear(impl.MsRequest)
	s.crash(1)
	s.hear(impl.MsPrepare)
	s.wantOpen("the prepare goes, too", 0, 1, 0, 0)
	s.call(1, listOp(dirAt(1, 2)))
	s.hear(impl.MsRequest)
	s.wantOpen("a look goes, too", 0, 1, 0, 0)
	s.wantDeeds("nothing was done", 0)
	s.wantMet("a message to a shard that is down")
	s.beginnings()
	r := s.settled()
	if r.Calls[0].Reply.Code != impl.RpWell || r.Calls[1].To < 0 {
		t.Error("settled:", r.Calls)
	}
}

// TestNodesThatThereAreNot: each action but a call of each node that is not there changes nothing.
func TestNodesThatThereAreNot(t *testing.T) {
	prepared := func() *scene {
		s := on(t, 2, 2)
		s.ask(0, makeOp(rootDir, "a", dirAt(1, 0)))
		s.call(0, makeOp(rootDir, "b", dirAt(1, 0)))
		s.hear(impl.MsRequest, impl.MsPrepare)
		return s
	}
	want := prepared().run()
	for node := 2; node < impl.MaxShards+impl.MaxClients; node++ {
		isClient := node == impl.MaxShards || node == impl.MaxShards+1
		for kind := impl.AcTick; kind <= impl.AcStart; kind++ {
			if kind == impl.AcTick && isClient {
				continue
			}
			s := prepared()
			s.do(impl.Action{Kind: kind, Node: node})
			if got := s.run(); otherIn(got, want) != "" {
				t.Errorf("action %d of node %d: %+v; want %+v", kind, node, got, want)
			}
		}
		s := prepared()
		s.call(node, listOp(rootDir))
		if got := s.run(); otherIn(got, want) != "" {
			t.Errorf("a call of client %d: %+v; want %+v", node, got, want)
		}
	}
	s := prepared()
	s.tick(impl.MaxShards + 1)
	if got := s.run(); otherIn(got, want) != "" {
		t.Error("a tick of a client that waits for nothing:", got)
	}
	s.tick(impl.MaxShards)
	s.wantOpen("a tick of one that waits", 2, 1, 0, 1)
}

// TestCallsAreCounted: requests from 1 on, for each client; From and To as they are asked and heard.
func TestCallsAreCounted(t *testing.T) {
	s := on(t, 2, 3)
	s.call(2, makeOp(rootDir, "a", rootDir))
	s.call(0, listOp(dirAt(1, 7)))
	s.hear(impl.MsRequest, impl.MsRequest, impl.MsReply)
	s.call(2, readOp(fileAt(1, 3)))
	s.call(1, lookOp(rootDir, "a"))
	s.hear(impl.MsRequest, impl.MsRequest)
	r := s.run()
	want := []impl.Call{
		{Client: 2, Req: 1, Op: makeOp(rootDir, "a", rootDir), From: 1, To: 5, Reply: impl.Reply{H: dirAt(0, 2)}},
		{Client: 0, Req: 1, Op: listOp(dirAt(1, 7)), From: 2, To: -1},
		{Client: 2, Req: 2, Op: readOp(fileAt(1, 3)), From: 6, To: -1},
		{Client: 1, Req: 1, Op: lookOp(rootDir, "a"), From: 7, To: -1},
	}
	for i, c := range r.Calls {
		if len(r.Calls) != len(want) || !sameCall(c, want[i]) {
			t.Fatalf("Calls %+v; want %+v", r.Calls, want)
		}
	}
	deeds := []impl.Deed{
		{At: 3, Client: 2, Req: 1, Op: want[0].Op, Reply: want[0].Reply},
		{At: 4, Client: 0, Req: 1, Op: want[1].Op, Reply: impl.Reply{Code: impl.RpStale}},
		{At: 8, Client: 2, Req: 2, Op: want[2].Op, Reply: impl.Reply{Code: impl.RpStale}},
		{At: 9, Client: 1, Req: 1, Op: want[3].Op, Reply: impl.Reply{H: dirAt(0, 2)}},
	}
	for i, d := range r.Deeds {
		if len(r.Deeds) != len(deeds) || !sameDeed(d, deeds[i]) {
			t.Fatalf("Deeds %+v; want %+v", r.Deeds, deeds)
		}
	}
	s.hear(impl.MsReply, impl.MsReply, impl.MsReply)
	r = s.run()
	for i, to := range []int{5, 10, 11, 12} {
		if r.Calls[i].To != to {
			t.Errorf("call %d came back at %d; want %d", i, r.Calls[i].To, to)
		}
	}
	s.beginnings()
}

func TestAClientThatWaitsAlready(t *testing.T) {
	s := on(t, 2, 2)
	s.call(0, listOp(rootDir))
	s.call(0, makeOp(rootDir, "a", rootDir))
	s.call(0, listOp(rootDir))
	s.wantOpen("two calls are none", 1, 0)
	s.hear(impl.MsRequest)
	s.call(0, makeOp(rootDir, "a", rootDir))
	s.wantOpen("the reply is not here yet", 1, 0)
	s.hear(impl.MsReply)
	s.call(0, makeOp(rootDir, "a", rootDir))
	s.hearAll()
	r := s.run()
	if len(r.Calls) != 2 || r.Calls[1].Req != 2 || r.Calls[1].From != 7 || r.Calls[1].Reply.H != dirAt(0, 2) {
		t.Error("Calls:", r.Calls)
	}
}

// TestCallsOfShardsThatThereAreNot: they are none, and are not counted.
func TestCallsOfShardsThatThereAreNot(t *testing.T) {
	for shards := 1; shards <= impl.MaxShards; shards++ {
		s := on(t, shards, 1)
		count := 0
		for at := range impl.MaxShards {
			for _, op := range []impl.Op{
				lookOp(dirAt(at, 9), "a"), listOp(dirAt(at, 9)), readOp(fileAt(at, 9)), writeOp(fileAt(at, 9), 1), dropOp(dirAt(at, 9), "a"),
				makeOp(rootDir, "a"+letters(at), dirAt(at, 0)), makeOp(dirAt(at, 9), "a", rootDir), linkOp(rootDir, "l", fileAt(at, 9)), linkOp(dirAt(at, 9), "l", fileAt(0, 9)),
				moveOp(rootDir, "m", dirAt(at, 9), "n"), moveOp(dirAt(at, 9), "m", rootDir, "n"),
			} {
				s.ask(0, op)
				if at < shards {
					count++
				}
			}
		}
		r := s.run()
		if len(r.Calls) != count || r.Calls[count-1].Req != count {
			t.Errorf("%d shards: %d calls; want %d", shards, len(r.Calls), count)
		}
		for _, c := range r.Calls {
			if c.To < 0 || c.Reply.Code == impl.RpBusy {
				t.Errorf("%d shards: %v", shards, c)
			}
		}
	}
}

// TestRepliesThatNobodyWaitsFor: of a request that came back already, and of an earlier one.
func TestRepliesThatNobodyWaitsFor(t *testing.T) {
	s := on(t, 1, 1)
	s.call(0, makeOp(rootDir, "a", rootDir))
	s.double(impl.MsRequest)
	s.hear(impl.MsRequest)
	s.wantOpen("two replies", 2, 0)
	s.hear(impl.MsReply)
	s.double(impl.MsReply)
	s.wantMet("a reply to a client that waits for nothing")
	s.call(0, makeOp(rootDir, "a", rootDir))
	s.hear(impl.MsReply)
	s.wantMet("a reply of another request")
	s.wantCodes("the second is not answered by the first one's reply", impl.RpWell, -1)
	s.hearAll()
	s.wantCodes("it is by its own", impl.RpWell, impl.RpExist)
	if c := s.run().Calls[0]; c.To != 4 || c.Reply.H != dirAt(0, 2) {
		t.Error("the first one came back twice:", c)
	}
	s.beginnings()
}

// TestAClientAsksAgain: it is one call, however often it asks.
func TestAClientAsksAgain(t *testing.T) {
	s := on(t, 2, 2)
	s.call(1, makeOp(rootDir, "a", dirAt(1, 0)))
	s.lose(impl.MsRequest)
	s.wantOpen("the request is lost", 0, 0)
	s.tick(impl.MaxShards + 1)
	s.wantOpen("it asks again", 1, 0)
	s.tick(impl.MaxShards + 1)
	s.wantOpen("and again", 2, 0)
	s.hearAll()
	s.wantCodes("answered", impl.RpWell)
	s.wantDeeds("done once", 1)
	s.tick(impl.MaxShards + 1)
	s.wantOpen("it asks no more", 0, 0)
	if c := s.run().Calls; len(c) != 1 || c[0].From != 1 {
		t.Error("one call asked more than once:", c)
	}
	s.beginnings()
}
