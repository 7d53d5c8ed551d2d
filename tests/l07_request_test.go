package tests

import (
	"fmt"
	"testing"

	"loop.example/g00341/impl"
)

// The nodes of the stage, on three shards: in the root a, b, f and g, in a a directory c, in b a directory d.
var (
	stageA = dirAt(0, 2)
	stageB = dirAt(1, 2)
	stageF = fileAt(0, 3)
	stageG = fileAt(1, 3)
	stageC = dirAt(2, 2)
	stageD = dirAt(0, 4)
)

func stage(t *testing.T) *scene {
	s := on(t, 3, 4)
	s.furnish()
	return s
}

func (s *scene) furnish() {
	s.t.Helper()
	made := []impl.Handle{stageA, stageB, stageF, stageG, stageC, stageD}
	for i, b := range []branch{{rootDir, "a", stageA}, {rootDir, "b", stageB}, {rootDir, "f", stageF}, {rootDir, "g", stageG}, {stageA, "c", stageC}, {stageB, "d", stageD}} {
		s.ask(3, makeOp(b.in, b.name, b.h))
		if c := s.c.calls[i]; c.Reply.H != made[i] {
			s.t.Fatal("the stage is another one:", c)
		}
	}
}

// fill gives a directory entries of files on shard 0, until it has so many.
func (s *scene) fill(d impl.Handle, count int) {
	for i := 0; len(s.c.hosts[d.Shard].node(d).Entries) < count; i++ {
		s.ask(3, makeOp(d, "z"+letters(i), fileAt(0, 0)))
	}
}

// heardCase: what a shard does when it hears a request: how many messages it sends, whether a transaction is open then; and the code of the reply in the end.
type heardCase struct {
	op   impl.Op
	net  int
	acts int
	code int
}

func here(op impl.Op, code int) heardCase { return heardCase{op, 1, 0, code} }

func apart(op impl.Op, prepares, code int) heardCase { return heardCase{op, prepares, 1, code} }

func heardCases() []heardCase {
	return []heardCase{
		here(lookOp(rootDir, "a"), impl.RpWell), here(lookOp(rootDir, "x"), impl.RpNoEnt), here(lookOp(stageF, "x"), impl.RpNoDir), here(lookOp(dirAt(0, 99), "x"), impl.RpStale),
		here(listOp(stageB), impl.RpWell), here(listOp(fileAt(1, 99)), impl.RpNoDir), here(listOp(dirAt(1, 99)), impl.RpStale),
		here(readOp(stageG), impl.RpWell), here(readOp(stageB), impl.RpIsDir), here(readOp(fileAt(1, 99)), impl.RpStale),
		here(writeOp(stageG, 7), impl.RpWell), here(writeOp(stageB, 7), impl.RpIsDir), here(writeOp(fileAt(1, 99), 7), impl.RpStale),

		here(makeOp(rootDir, "n", fileAt(0, 0)), impl.RpWell), here(makeOp(stageB, "n", dirAt(1, 0)), impl.RpWell), here(makeOp(rootDir, "a", fileAt(0, 0)), impl.RpExist),
		// Where Dir is none the shard of what shall be made is not asked.
		here(makeOp(dirAt(0, 99), "n", fileAt(0, 0)), impl.RpStale), here(makeOp(dirAt(0, 99), "n", fileAt(1, 0)), impl.RpStale), here(makeOp(dirAt(1, 99), "n", dirAt(0, 0)), impl.RpStale),
		here(makeOp(stageF, "n", fileAt(0, 0)), impl.RpNoDir), here(makeOp(stageF, "n", dirAt(2, 0)), impl.RpNoDir), here(makeOp(fileAt(0, 99), "n", dirAt(2, 0)), impl.RpNoDir),
		apart(makeOp(rootDir, "n", fileAt(1, 0)), 1, impl.RpWell), apart(makeOp(stageB, "n", dirAt(0, 0)), 1, impl.RpWell), here(makeOp(rootDir, "a", dirAt(2, 0)), impl.RpExist),

		here(linkOp(rootDir, "n", stageF), impl.RpWell), here(linkOp(rootDir, "n", stageB), impl.RpIsDir), here(linkOp(rootDir, "n", stageA), impl.RpIsDir), here(linkOp(rootDir, "a", stageB), impl.RpExist),
		here(linkOp(rootDir, "n", fileAt(0, 99)), impl.RpStale), here(linkOp(dirAt(0, 99), "n", stageG), impl.RpStale), here(linkOp(stageF, "n", stageG), impl.RpNoDir), here(linkOp(rootDir, "a", stageG), impl.RpExist),
		apart(linkOp(rootDir, "n", stageG), 1, impl.RpWell), apart(linkOp(stageA, "n", stageG), 1, impl.RpWell), apart(linkOp(rootDir, "n", fileAt(1, 99)), 1, impl.RpStale),

		here(dropOp(rootDir, "f"), impl.RpWell), here(dropOp(rootDir, "a"), impl.RpNotEmpty), here(dropOp(rootDir, "x"), impl.RpNoEnt), here(dropOp(stageF, "x"), impl.RpNoDir), here(dropOp(dirAt(0, 99), "x"), impl.RpStale),
		apart(dropOp(rootDir, "g"), 1, impl.RpWell), apart(dropOp(rootDir, "b"), 1, impl.RpNotEmpty), apart(dropOp(stageA, "c"), 1, impl.RpWell), apart(dropOp(stageB, "d"), 1, impl.RpWell),

		here(moveOp(rootDir, "b", rootDir, "n"), impl.RpWell), here(moveOp(rootDir, "b", rootDir, "a"), impl.RpExist), here(moveOp(rootDir, "x", stageB, "n"), impl.RpNoEnt), here(moveOp(rootDir, "b", stageG, "n"), impl.RpNoDir),
		here(moveOp(rootDir, "f", stageA, "n"), impl.RpWell), here(moveOp(rootDir, "g", stageA, "n"), impl.RpWell), here(moveOp(rootDir, "g", stageA, "c"), impl.RpExist), here(moveOp(rootDir, "f", dirAt(0, 99), "n"), impl.RpStale),
		here(moveOp(stageF, "x", stageB, "n"), impl.RpNoDir), here(moveOp(dirAt(0, 99), "x", stageB, "n"), impl.RpStale),
		apart(moveOp(rootDir, "f", stageB, "n"), 1, impl.RpWell), apart(moveOp(rootDir, "g", stageB, "d"), 1, impl.RpExist), apart(moveOp(rootDir, "g", dirAt(1, 99), "n"), 1, impl.RpStale),
		apart(moveOp(rootDir, "a", stageB, "n"), 1, impl.RpWell), apart(moveOp(rootDir, "b", stageA, "n"), 1, impl.RpWell), apart(moveOp(rootDir, "b", stageD, "n"), 1, impl.RpLoop), apart(moveOp(rootDir, "b", stageB, "n"), 2, impl.RpLoop),
		apart(moveOp(rootDir, "a", dirAt(1, 99), "n"), 1, impl.RpStale), apart(moveOp(rootDir, "b", stageA, "c"), 1, impl.RpExist), apart(moveOp(stageA, "c", rootDir, "n"), 1, impl.RpWell), apart(moveOp(stageA, "c", stageB, "n"), 2, impl.RpWell),
		apart(moveOp(stageB, "d", rootDir, "n"), 3, impl.RpWell), apart(moveOp(stageB, "d", stageC, "n"), 3, impl.RpWell), apart(moveOp(stageB, "d", stageC, "n"), 3, impl.RpWell),
		// All parts lie here, and only the walk leads to another shard.
		apart(moveOp(rootDir, "a", stageD, "n"), 1, impl.RpWell),
		// All parts refuse here, or the walk ends here: it is decided at once.
		here(moveOp(rootDir, "a", stageA, "n"), impl.RpLoop), here(moveOp(rootDir, "a", dirAt(0, 99), "n"), impl.RpStale),
	}
}

func TestRequestsThatLieHereOrNot(t *testing.T) {
	for _, c := range heardCases() {
		what := fmt.Sprint("operation ", c.op)
		s := stage(t)
		s.call(0, c.op)
		s.hear(impl.MsRequest)
		s.wantOpen(what, c.net, c.acts)
		if n := len(s.run().Deeds); n != 6+1-c.acts {
			t.Errorf("%s: %d deeds behind the request; %d transactions are open", what, n, c.acts)
		}
		s.hearAll()
		s.wantCodes(what, c.code)
		s.wantDeeds(what, 7)
		s.wantOpen(what+" in the end", 0, 0, 0, 0, 0)
		if r := s.run(); c.op.Kind >= impl.OpWrite && !lastIs(r.Shards[c.op.Dir.Shard], 0, 1, impl.Reply{Code: c.code, H: r.Calls[6].Reply.H}) {
			t.Errorf("%s: Lasts %v", what, r.Shards[c.op.Dir.Shard].Lasts)
		}
		s.beginnings()
	}
}

// lastIs: whether the shard keeps this as the last one of the client.
func lastIs(s impl.Shard, client, req int, reply impl.Reply) bool {
	for _, l := range s.Lasts {
		if l.Client == client {
			return l.Req == req && sameReply(l.Reply, reply)
		}
	}
	return false
}

func TestFullDirectories(t *testing.T) {
	for _, op := range []impl.Op{makeOp(rootDir, "n", fileAt(0, 0)), makeOp(rootDir, "n", fileAt(1, 0)), linkOp(rootDir, "n", stageF), linkOp(rootDir, "n", stageG), moveOp(stageA, "c", rootDir, "n"), moveOp(stageB, "d", rootDir, "n")} {
		for count, code := range map[int]int{impl.MaxEntries - 1: impl.RpWell, impl.MaxEntries: impl.RpFull} {
			s := stage(t)
			s.fill(rootDir, count)
			s.ask(0, op)
			s.wantCodes(fmt.Sprint(op, " in a directory of ", count), code)
		}
	}
	// RpExist comes ahead of RpFull.
	s := stage(t)
	s.fill(rootDir, impl.MaxEntries)
	for _, op := range []impl.Op{makeOp(rootDir, "a", fileAt(1, 0)), linkOp(rootDir, "a", stageG), moveOp(stageB, "d", rootDir, "a")} {
		s.ask(0, op)
		s.wantCodes("a full directory that has the name", impl.RpExist)
	}
	// A name of its own leaves its room.
	s.ask(0, moveOp(rootDir, "a", rootDir, "n"))
	s.wantCodes("another name in a full directory", impl.RpWell)
}

// TestRequestsBelowAtAndAboveTheLast: each shard keeps the last one of each client for itself.
func TestRequestsBelowAtAndAboveTheLast(t *testing.T) {
	for _, op := range []impl.Op{makeOp(rootDir, "n", fileAt(0, 0)), makeOp(rootDir, "n", fileAt(1, 0)), makeOp(rootDir, "a", fileAt(0, 0)), dropOp(rootDir, "f"), dropOp(rootDir, "g"), writeOp(stageF, 5), listOp(rootDir)} {
		s := stage(t)
		s.call(0, op)
		s.tick(impl.MaxShards)
		s.tick(impl.MaxShards)
		s.hear(impl.MsRequest)
		s.hearOthers(impl.MsRequest)
		s.wantOpen("two requests are left", 2, 0)
		first := s.run().Calls[6].Reply
		s.hear(impl.MsRequest)
		if op.Kind >= impl.OpWrite {
			s.wantMet("the last request again")
			s.wantDeeds("it is not done again", 7)
		} else {
			s.wantDeeds("what changes nothing is done again", 8)
		}
		s.wantOpen("the last one is answered again", 2, 0)
		s.call(0, makeOp(rootDir, "q", fileAt(0, 0)))
		s.double(impl.MsRequest)
		s.wantOpen("the last one of the client is the first one yet", 4, 0)
		s.wantCodes("it waits", -1)
		s.hearAll()
		s.wantCodes("the next one", impl.RpWell)
		if again := s.run().Calls[6].Reply; !sameReply(again, first) {
			t.Errorf("%v: %v; then %v", op, first, again)
		}
		s.beginnings()
	}
}

func TestARequestAheadOfTheLast(t *testing.T) {
	s := stage(t)
	s.call(0, dropOp(rootDir, "f"))
	s.double(impl.MsRequest)
	s.hear(impl.MsReply)
	s.call(0, makeOp(rootDir, "f", fileAt(0, 0)))
	// The second one is behind the first one in the net.
	s.do(impl.Action{Kind: impl.AcDeliver, I: 1})
	s.hear(impl.MsReply)
	s.wantDeeds("both are done", 8)
	s.hear(impl.MsRequest)
	s.wantOpen("the first one means nothing", 0, 0)
	s.wantDeeds("it is not done again", 8)
	s.wantMet("a request ahead of the last one")
	// On another shard the client has no last one yet.
	s.call(0, writeOp(stageG, 3))
	s.hear(impl.MsRequest)
	s.wantDeeds("a request of another shard", 9)
	if r := s.run(); !lastIs(r.Shards[1], 0, 3, impl.Reply{}) || !lastIs(r.Shards[0], 0, 2, impl.Reply{H: fileAt(0, 5)}) {
		t.Error("Lasts:", r.Shards[0].Lasts, r.Shards[1].Lasts)
	}
	s.beginnings()
}

// TestALookAheadOfTheLast: what changes nothing is late, too.
func TestALookAheadOfTheLast(t *testing.T) {
	s := stage(t)
	s.call(0, listOp(rootDir))
	s.double(impl.MsRequest)
	s.hear(impl.MsReply)
	s.call(0, writeOp(stageF, 1))
	s.do(impl.Action{Kind: impl.AcDeliver, I: 1})
	s.hear(impl.MsReply)
	s.hear(impl.MsRequest)
	s.wantOpen("the look means nothing any more", 0, 0)
	s.wantDeeds("it is not done again", 8)
	s.wantMet("a request ahead of the last one")
}

func TestARequestThatIsOpen(t *testing.T) {
	s := stage(t)
	s.call(0, makeOp(rootDir, "n", fileAt(1, 0)))
	s.double(impl.MsRequest)
	s.wantOpen("opened", 2, 1)
	s.double(impl.MsRequest)
	s.wantOpen("heard again", 2, 1)
	s.hear(impl.MsRequest)
	s.wantOpen("and again", 1, 1)
	s.wantMet("a request that is open")
	// Another client's request with the same number is another one.
	s.call(1, makeOp(stageA, "n", fileAt(1, 0)))
	s.hear(impl.MsRequest)
	s.wantOpen("of another client", 2, 2)
	s.hearAll()
	s.wantCodes("both", impl.RpWell, impl.RpWell)
	s.wantDeeds("both", 8)
	s.beginnings()
}

// TestADirectoryLockedByATransaction: what looks is told Busy and nothing is kept of it; what changes ends with Busy.
func TestADirectoryLockedByATransaction(t *testing.T) {
	s := stage(t)
	s.call(0, makeOp(rootDir, "n", fileAt(1, 0)))
	s.hear(impl.MsRequest)
	for i, op := range []impl.Op{listOp(rootDir), makeOp(rootDir, "m", fileAt(0, 0))} {
		s.call(1+i, op)
		s.hear(impl.MsRequest, impl.MsReply)
		s.wantCodes("the directory is locked", impl.RpBusy)
	}
	s.wantMet("a request on what is locked by an open transaction")
	s.wantDeeds("nothing was done", 6)
	r := s.run()
	if lastIs(r.Shards[0], 1, 1, impl.Reply{Code: impl.RpBusy}) || !lastIs(r.Shards[0], 2, 1, impl.Reply{Code: impl.RpBusy}) {
		t.Error("Lasts:", r.Shards[0].Lasts)
	}
	s.ask(3, listOp(stageA))
	s.wantCodes("another directory", impl.RpWell)
	s.hearAll()
	s.wantCodes("what locked it", impl.RpWell, impl.RpBusy, impl.RpBusy, impl.RpWell)
	s.beginnings()
}

// TestBusyIsKept: a change that was told Busy stays so when it is heard again; a look does not.
func TestBusyIsKept(t *testing.T) {
	s := stage(t)
	s.call(0, makeOp(rootDir, "n", fileAt(1, 0)))
	s.hear(impl.MsRequest)
	s.call(1, makeOp(rootDir, "m", fileAt(0, 0)))
	s.double(impl.MsRequest)
	s.lose(impl.MsReply)
	s.call(2, listOp(rootDir))
	s.hear(impl.MsPrepare, impl.MsVote)
	s.wantDeeds("the directory is locked no more", 7)
	s.hearAll()
	s.wantCodes("heard behind it", impl.RpWell, impl.RpBusy, impl.RpWell)
	s.wantDeeds("the look was done", 8)
	s.wantMet("the last request again")
	s.beginnings()
}

// TestHandlesLockedByAnIntent: of each kind of part the handle that it has as H, of PaMake the new one.
func TestHandlesLockedByAnIntent(t *testing.T) {
	for _, c := range []struct {
		what   string
		op     impl.Op
		locked impl.Handle
		free   impl.Handle
	}{
		{"PaUnlink of a file", dropOp(rootDir, "g"), stageG, fileAt(1, 99)},
		{"PaUnlink of a directory", dropOp(stageA, "c"), stageC, dirAt(2, 99)},
		{"PaRelink", linkOp(stageA, "n", stageG), stageG, stageB},
		{"PaMake of a file", makeOp(rootDir, "n", fileAt(1, 0)), fileAt(1, 4), dirAt(1, 4)},
		{"PaMake of a directory", makeOp(rootDir, "n", dirAt(1, 0)), dirAt(1, 4), fileAt(1, 4)},
		{"PaEnter", moveOp(rootDir, "f", stageB, "n"), stageB, stageG},
		{"PaParent", moveOp(rootDir, "b", stageC, "n"), stageB, stageG},
	} {
		s := stage(t)
		s.call(0, c.op)
		s.hear(impl.MsRequest)
		s.hearTo(impl.MsPrepare, c.locked.Shard)
		for _, h := range []impl.Handle{c.locked, c.free} {
			look, change := listOp(h), makeOp(h, "q", fileAt(h.Shard, 0))
			if !h.Dir {
				look, change = readOp(h), writeOp(h, 5)
			}
			for i, op := range []impl.Op{look, change} {
				s.call(1+i, op)
				s.hear(impl.MsRequest, impl.MsReply)
				calls := s.run().Calls
				if code := calls[len(calls)-1].Reply.Code; (code == impl.RpBusy) != (h == c.locked) {
					t.Errorf("%s: %v is told code %d", c.what, op, code)
				}
			}
		}
		r := s.run()
		if n := len(r.Deeds); n != 6+2 {
			t.Errorf("%s: %d deeds", c.what, n)
		}
		if len(r.Shards[c.locked.Shard].Intents) == 0 {
			t.Errorf("%s: no Intent", c.what)
		}
		s.wantMet("a request on what is locked by an Intent")
		s.hearAll()
		s.settled()
	}
}

// TestOperationsHereOnWhatIsLocked: Busy, where what else they touch on this shard is locked.
func TestOperationsHereOnWhatIsLocked(t *testing.T) {
	inA := fileAt(0, 5)
	for _, c := range []struct {
		what string
		lock impl.Op
		op   impl.Op
		code int
	}{
		{"a drop of a file that is linked", linkOp(stageB, "n", stageF), dropOp(rootDir, "f"), impl.RpBusy},
		{"a drop of another file", linkOp(stageB, "n", inA), dropOp(rootDir, "f"), impl.RpWell},
		{"a drop of a directory that is entered", moveOp(stageB, "d", stageA, "n"), dropOp(rootDir, "a"), impl.RpBusy},
		{"a drop of a directory in which something is made", makeOp(stageA, "n", fileAt(2, 0)), dropOp(rootDir, "a"), impl.RpBusy},
		{"a drop of a directory in which nothing is made", makeOp(stageB, "n", fileAt(2, 0)), dropOp(rootDir, "a"), impl.RpNotEmpty},
		{"a drop of nothing", linkOp(stageB, "n", stageF), dropOp(rootDir, "x"), impl.RpNoEnt},
		{"a link to what is linked", linkOp(stageB, "n", stageF), linkOp(rootDir, "n", stageF), impl.RpBusy},
		{"a link to another file", linkOp(stageB, "n", inA), linkOp(rootDir, "n", stageF), impl.RpWell},
		{"a link to a directory that is locked", makeOp(stageA, "n", fileAt(2, 0)), linkOp(rootDir, "n", stageA), impl.RpBusy},
		{"a link to a directory that is not locked", makeOp(stageB, "n", fileAt(2, 0)), linkOp(rootDir, "n", stageA), impl.RpIsDir},
		{"a move into what is entered", moveOp(stageB, "d", stageA, "n"), moveOp(rootDir, "f", stageA, "m"), impl.RpBusy},
		{"a move into a directory in which something is made", makeOp(stageA, "n", fileAt(2, 0)), moveOp(rootDir, "f", stageA, "m"), impl.RpBusy},
		{"a move into another directory", makeOp(stageB, "n", fileAt(2, 0)), moveOp(rootDir, "f", stageA, "m"), impl.RpWell},
		{"a move to a file that is linked", linkOp(stageB, "n", stageF), moveOp(rootDir, "g", stageF, "m"), impl.RpBusy},
		{"a move to a file that is linked elsewhere", linkOp(stageB, "n", inA), moveOp(rootDir, "g", stageG, "m"), impl.RpNoDir},
		{"a move of a file that is linked", linkOp(stageB, "n", stageF), moveOp(rootDir, "f", stageA, "m"), impl.RpWell},
		{"another name for a file that is linked", linkOp(stageB, "n", stageF), moveOp(rootDir, "f", rootDir, "m"), impl.RpWell},
		{"a make beside what is locked", linkOp(stageB, "n", stageF), makeOp(rootDir, "m", fileAt(0, 0)), impl.RpWell},
	} {
		s := stage(t)
		s.ask(3, makeOp(stageA, "i", inA))
		s.call(0, c.lock)
		s.hear(impl.MsRequest)
		for len(s.c.net) > 0 && s.c.net[0].Kind == impl.MsPrepare && s.c.net[0].To == 0 {
			s.hear(impl.MsPrepare)
		}
		s.call(1, c.op)
		s.hear(impl.MsRequest)
		s.hearTo(impl.MsReply, impl.MaxShards+1)
		s.wantCodes(c.what, c.code)
		if r := s.run(); !lastIs(r.Shards[0], 1, 1, r.Calls[len(r.Calls)-1].Reply) {
			t.Errorf("%s: Lasts %v", c.what, r.Shards[0].Lasts)
		}
		s.settled()
	}
}

// TestRoomForRequests: just as many sectors behind the journal as are held back, and one less.
func TestRoomForRequests(t *testing.T) {
	for sectors, code := range map[int]int{impl.Reserve: impl.RpBusy, impl.Reserve + 1: impl.RpWell, impl.Reserve + 2: impl.RpWell, 1: impl.RpBusy} {
		for _, op := range []impl.Op{makeOp(rootDir, "a", fileAt(0, 0)), makeOp(rootDir, "a", fileAt(1, 0))} {
			s := onDisks(t, 2, 2, sectors)
			s.ask(1, listOp(rootDir))
			s.wantCodes("what looks needs no room", impl.RpWell)
			s.ask(0, op)
			s.wantCodes(fmt.Sprint(sectors, " sectors: ", op), code)
			if r := s.run(); (len(r.Shards[0].Lasts) == 0) != (code == impl.RpBusy) {
				t.Errorf("%d sectors: Lasts %v", sectors, r.Shards[0].Lasts)
			}
			s.beginnings()
		}
	}
	// What was recorded takes the room.
	s := onDisks(t, 1, 1, impl.Reserve+1)
	s.ask(0, makeOp(rootDir, "a", fileAt(0, 0)), makeOp(rootDir, "b", fileAt(0, 0)), writeOp(fileAt(0, 2), 1), dropOp(rootDir, "a"), readOp(fileAt(0, 2)))
	s.wantCodes("one record, and no room for the next", impl.RpWell, impl.RpBusy, impl.RpBusy, impl.RpBusy, impl.RpWell)
	if r := s.run(); len(r.Shards[0].Lasts) != 1 || r.Shards[0].Lasts[0].Req != 1 {
		t.Error("Lasts:", r.Shards[0].Lasts)
	}
	s.wantMet("a request without room")
	s.beginnings()
}

// TestNoRoomComesFirst: ahead of a lock, so that nothing is recorded; but behind what is open or kept.
func TestNoRoomComesFirst(t *testing.T) {
	s := onDisks(t, 2, 3, impl.Reserve+1)
	s.call(0, makeOp(rootDir, "a", fileAt(1, 0)))
	s.hear(impl.MsRequest)
	s.wantOpen("there is room yet", 1, 1)
	s.call(1, makeOp(rootDir, "b", fileAt(0, 0)))
	s.hear(impl.MsRequest)
	s.hear(impl.MsReply)
	s.wantCodes("locked, with room", impl.RpBusy)
	if r := s.run(); len(r.Shards[0].Lasts) != 1 {
		t.Error("Lasts:", r.Shards[0].Lasts)
	}
	s.call(2, makeOp(rootDir, "b", fileAt(0, 0)))
	s.hear(impl.MsRequest)
	s.hear(impl.MsReply)
	s.wantCodes("locked, without room", impl.RpBusy)
	if r := s.run(); len(r.Shards[0].Lasts) != 1 {
		t.Error("Lasts:", r.Shards[0].Lasts)
	}
	s.tick(impl.MaxShards)
	s.hear(impl.MsRequest)
	s.wantOpen("it is open, whatever room there is", 1, 1)
	s.hearAll()
	s.wantCodes("a decision needs no room", impl.RpWell, impl.RpBusy, impl.RpBusy)
	s.beginnings()
}

// crowded: shard 0 with so many nodes, the directories of which have room.
func crowded(t *testing.T, shards, count int) *scene {
	s := on(t, shards, 4)
	dirs := []impl.Handle{rootDir}
	for n := 1; n < count; n++ {
		in := dirs[(n-1)/9]
		h := fileAt(0, 0)
		if n <= 7 {
			h = dirAt(0, 0)
			dirs = append(dirs, dirAt(0, n+1))
		}
		s.ask(3, makeOp(in, letters(n), h))
	}
	if got := len(s.run().Shards[0].Nodes); got != count {
		t.Fatalf("%d nodes; want %d", got, count)
	}
	return s
}

// TestAsManyNodesAsAShardTakes: nodes alone, made here.
func TestAsManyNodesAsAShardTakes(t *testing.T) {
	s := crowded(t, 1, impl.MaxNodes-1)
	d := dirAt(0, 7)
	s.ask(0, makeOp(d, "x", fileAt(0, 0)), makeOp(d, "y", fileAt(0, 0)), makeOp(d, "x", fileAt(0, 0)), makeOp(dirAt(0, 99), "y", fileAt(0, 0)), linkOp(d, "y", fileAt(0, impl.MaxNodes)), dropOp(d, "x"), makeOp(d, "z", fileAt(0, 0)))
	s.wantCodes("with MaxNodes - 1 nodes, then with MaxNodes", impl.RpWell, impl.RpBusy, impl.RpBusy, impl.RpBusy, impl.RpWell, impl.RpWell, impl.RpBusy)
	s.ask(0, dropOp(d, "y"), makeOp(d, "z", fileAt(0, 0)))
	s.wantCodes("with one less again", impl.RpWell, impl.RpWell)
	s.wantMet("a make on a crowded shard")
	if r := s.run(); !lastIs(r.Shards[0], 0, 9, impl.Reply{H: fileAt(0, impl.MaxNodes+1)}) || len(r.Deeds) != impl.MaxNodes-2+9-4 {
		t.Error("Lasts and deeds:", r.Shards[0].Lasts, len(r.Deeds))
	}
}

// TestNodesAndIntentsTogether: an Intent counts as a node does, whatever it is of; of both kinds of making.
func TestNodesAndIntentsTogether(t *testing.T) {
	for count, code := range map[int]int{impl.MaxNodes - 2: impl.RpWell, impl.MaxNodes - 1: impl.RpBusy} {
		for _, elsewhere := range []bool{false, true} {
			s := crowded(t, 2, count-1)
			s.ask(3, makeOp(rootDir, "y", dirAt(1, 0)), makeOp(rootDir, "z", dirAt(1, 0)), makeOp(dirAt(1, 2), "l", fileAt(0, 0)))
			s.call(0, linkOp(dirAt(1, 2), "m", s.c.calls[len(s.c.calls)-1].Reply.H))
			s.hear(impl.MsRequest, impl.MsPrepare)
			s.wantOpen("one Intent", 1, 1, 1, 0)
			if elsewhere {
				s.call(1, makeOp(dirAt(1, 3), "n", fileAt(0, 0)))
				s.hear(impl.MsRequest, impl.MsPrepare)
			} else {
				s.call(1, makeOp(dirAt(0, 7), "n", fileAt(0, 0)))
				s.hear(impl.MsRequest)
			}
			s.hearAll()
			calls := s.run().Calls
			if got := calls[len(calls)-1].Reply.Code; got != code {
				t.Errorf("%d nodes and an Intent, elsewhere: %t: code %d; want %d", count, elsewhere, got, code)
			}
			s.settled()
		}
	}
}

func TestThreeOpenTransactions(t *testing.T) {
	s := on(t, 2, 4)
	s.ask(3, makeOp(rootDir, "a", dirAt(0, 0)), makeOp(rootDir, "b", dirAt(0, 0)), makeOp(rootDir, "c", dirAt(0, 0)), makeOp(dirAt(0, 4), "n", fileAt(0, 0)))
	for client, d := range []impl.Handle{rootDir, dirAt(0, 2), dirAt(0, 3)} {
		s.call(client, makeOp(d, "n", fileAt(1, 0)))
		s.hear(impl.MsRequest)
		s.wantOpen("opened", client+1, client+1)
	}
	s.call(3, makeOp(dirAt(0, 4), "n", fileAt(1, 0)))
	s.hear(impl.MsRequest)
	s.do(impl.Action{Kind: impl.AcDeliver, I: 3})
	s.wantCodes("the name is there, ahead of all", impl.RpExist)
	s.call(3, makeOp(dirAt(0, 4), "m", fileAt(1, 0)))
	s.hear(impl.MsRequest)
	s.do(impl.Action{Kind: impl.AcDeliver, I: 3})
	s.wantCodes("a fourth one", impl.RpBusy)
	s.wantOpen("a fourth one", 3, 3)
	if !lastIs(s.run().Shards[0], 3, 6, impl.Reply{Code: impl.RpBusy}) {
		t.Error("Lasts:", s.run().Shards[0].Lasts)
	}
	s.call(3, makeOp(dirAt(0, 4), "m", fileAt(0, 0)))
	s.hear(impl.MsRequest)
	s.do(impl.Action{Kind: impl.AcDeliver, I: 3})
	s.wantCodes("what lies here", impl.RpWell)
	s.hear(impl.MsPrepare, impl.MsVote)
	s.wantOpen("one is decided", 4, 2)
	s.call(3, makeOp(dirAt(0, 4), "o", fileAt(1, 0)))
	s.hear(impl.MsRequest)
	s.wantOpen("a third one again", 5, 3)
	s.hearAll()
	s.wantCodes("all of them", impl.RpWell, impl.RpWell, impl.RpWell, impl.RpExist, impl.RpBusy, impl.RpWell, impl.RpWell)
	s.wantMet("a fourth transaction")
	for i, v := range s.run().Shards[0].Decided {
		if want := (impl.Verdict{Tx: impl.Tx{Shard: 0, Boot: 1, N: i}, Ok: true}); v != want {
			t.Errorf("verdict %d: %v; want %v", i, v, want)
		}
	}
	s.beginnings()
}
