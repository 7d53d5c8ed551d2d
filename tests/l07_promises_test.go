package tests

import (
	"fmt"
	"slices"
	"testing"

	"loop.example/g00341/impl"
)

// wantBeginning: of a script's beginning, whose last action is number now, Deeds and Calls are the beginning of the whole's, but for what calls were answered later.
func wantBeginning(t *testing.T, what string, now int, first, whole impl.Result) {
	t.Helper()
	if len(first.Deeds) > len(whole.Deeds) || !slices.EqualFunc(first.Deeds, whole.Deeds[:len(first.Deeds)], sameDeed) {
		t.Fatalf("%s: Deeds %v; of the whole %v", what, first.Deeds, whole.Deeds)
	}
	if len(first.Calls) > len(whole.Calls) {
		t.Fatalf("%s: Calls %v; of the whole %v", what, first.Calls, whole.Calls)
	}
	for i, c := range first.Calls {
		then := whole.Calls[i]
		if c.To < 0 && then.To > now {
			then.To, then.Reply = -1, impl.Reply{}
		}
		if !sameCall(c, then) {
			t.Fatalf("%s: call %d is %v; of the whole %v", what, i, c, whole.Calls[i])
		}
	}
	if n := len(first.Deeds); n < len(whole.Deeds) && whole.Deeds[n].At <= now || n > 0 && first.Deeds[n-1].At > now {
		t.Fatalf("%s: Deeds %v do not end at %d; of the whole %v", what, first.Deeds, now, whole.Deeds)
	}
	if n := len(first.Calls); n < len(whole.Calls) && whole.Calls[n].From <= now || n > 0 && first.Calls[n-1].From > now {
		t.Fatalf("%s: Calls %v do not end at %d; of the whole %v", what, first.Calls, now, whole.Calls)
	}
}

// TestBeginningsOfScripts: promise 9.
func TestBeginningsOfScripts(t *testing.T) {
	for seed := range 25 {
		m := moodOf(seed + 50000)
		script, _ := mixed(m, seed)
		whole := impl.Run(m.setup, script)
		settle := m.setup
		settle.Settle = true
		settled := impl.Run(settle, script)
		for n := range len(script) + 1 {
			what := fmt.Sprintf("seed %d, the first %d of %d actions", seed, n, len(script))
			first := impl.Run(m.setup, script[:n])
			wantBeginning(t, what, n, first, whole)
			wantBeginning(t, what+", the whole settled", n, first, settled)
		}
	}
}

// guest: one client alone, on so many shards. Its operations name nodes by their place among those that were made; on each number of shards these have other handles.
type guest struct {
	s    *scene
	tree impl.Tree
	made []impl.Handle
	next []int
}

func newGuest(t *testing.T, shards int) *guest {
	return &guest{s: on(t, shards, 1), tree: impl.Root(), made: []impl.Handle{rootDir}, next: []int{2, 2, 2, 2}}
}

// wish: an operation as a guest names it; at a place of -1 there is nothing.
type wish struct {
	kind     int
	dir, to  int
	name, as string
	shard    int
	isDir    bool
	val      int
}

func (g *guest) handle(at int, isDir bool) impl.Handle {
	if at < 0 {
		return impl.Handle{Shard: 0, Ino: 5000 - at, Dir: isDir}
	}
	return g.made[at]
}

func (g *guest) op(w wish) impl.Op {
	d := g.handle(w.dir, w.isDir)
	switch w.kind {
	case impl.OpLook:
		return lookOp(d, w.name)
	case impl.OpList:
		return listOp(d)
	case impl.OpRead:
		return readOp(d)
	case impl.OpWrite:
		return writeOp(d, w.val)
	case impl.OpMake:
		return makeOp(d, w.name, impl.Handle{Shard: w.shard % g.s.c.setup.Shards, Dir: w.isDir})
	case impl.OpDrop:
		return dropOp(d, w.name)
	case impl.OpLink:
		return linkOp(d, w.name, g.handle(w.to, w.isDir))
	}
	return moveOp(d, w.name, g.handle(w.to, !w.isDir), w.as)
}

// ask: what the tree answers, and the tree behind it.
func (g *guest) ask(w wish) impl.Reply {
	op := g.op(w)
	fresh := impl.Handle{Shard: op.To.Shard, Ino: g.next[op.To.Shard], Dir: op.To.Dir}
	tree, r := impl.Do(g.tree, op, fresh)
	g.tree = tree
	if op.Kind == impl.OpMake && r.Code == impl.RpWell {
		g.next[fresh.Shard]++
		g.made = append(g.made, fresh)
	}
	g.s.ask(0, op)
	return r
}

// place: where a handle stands among those that were made.
func (g *guest) place(h impl.Handle) int { return slices.Index(g.made, h) }

func (g *guest) mixed(x *steps) wish {
	at := func() int {
		if x.below(12) == 0 {
			return -1 - x.below(3)
		}
		return x.below(len(g.made))
	}
	dir := func() int {
		for range 3 {
			if n := at(); n >= 0 && g.made[n].Dir {
				return n
			}
		}
		return at()
	}
	name := func() string { return string(rune('a' + x.below(5))) }
	w := wish{kind: x.below(impl.OpMove + 1), dir: dir(), to: dir(), name: name(), as: name(), shard: x.below(12), isDir: x.below(3) > 0, val: x.below(900)}
	switch {
	case w.kind == impl.OpRead || w.kind == impl.OpWrite:
		w.dir = at()
	case w.kind == impl.OpLink:
		w.to = at()
	case len(g.made) < 10 || x.below(4) == 0:
		w.kind = impl.OpMake
	}
	return w
}

// TestOneClientAlone: promise 11.
func TestOneClientAlone(t *testing.T) {
	met := map[[2]int]int{}
	for seed := range 60 {
		x := &steps{state: uint32(seed)}
		var guests []*guest
		for shards := 1; shards <= impl.MaxShards; shards++ {
			guests = append(guests, newGuest(t, shards))
		}
		var want [impl.MaxShards][]impl.Reply
		// The last guest's scripts are the longest ones.
		for len(guests[impl.MaxShards-1].s.script) < impl.MaxScript-60 {
			w := guests[0].mixed(x)
			if len(guests[0].made) >= impl.MaxNodes-2 && w.kind == impl.OpMake {
				w.kind = impl.OpDrop
			}
			for i, g := range guests {
				want[i] = append(want[i], g.ask(w))
			}
		}
		for i, g := range guests {
			r := g.s.run()
			for k, c := range r.Calls {
				if c.To < 0 || c.Reply.Code == impl.RpBusy || !sameReply(c.Reply, want[i][k]) {
					t.Fatalf("seed %d, %d shards, call %d: %v; want %v", seed, i+1, k, c, want[i][k])
				}
				first := want[0][k]
				if c.Reply.Code != first.Code || c.Reply.Val != first.Val || g.place(c.Reply.H) != guests[0].place(first.H) || len(c.Reply.List) != len(first.List) {
					t.Fatalf("seed %d, %d shards, call %d: %v; on one shard %v", seed, i+1, k, c, first)
				}
				for n, e := range c.Reply.List {
					if string(e.Name) != string(first.List[n].Name) || g.place(e.H) != guests[0].place(first.List[n].H) {
						t.Fatalf("seed %d, %d shards, call %d: %v; on one shard %v", seed, i+1, k, c, first)
					}
				}
				met[[2]int{c.Op.Kind, c.Reply.Code}]++
			}
			if len(r.Calls) != len(want[i]) || !sameTree(nodesOfAll(r), g.tree) {
				t.Fatalf("seed %d, %d shards: the nodes are %v; want %v", seed, i+1, nodesOfAll(r), g.tree)
			}
		}
	}
	for kind, codes := range [][]int{
		impl.OpLook:  {impl.RpWell, impl.RpNoDir, impl.RpStale, impl.RpNoEnt},
		impl.OpList:  {impl.RpWell, impl.RpNoDir, impl.RpStale},
		impl.OpRead:  {impl.RpWell, impl.RpIsDir, impl.RpStale},
		impl.OpWrite: {impl.RpWell, impl.RpIsDir, impl.RpStale},
		impl.OpMake:  {impl.RpWell, impl.RpNoDir, impl.RpStale, impl.RpExist},
		impl.OpDrop:  {impl.RpWell, impl.RpNoDir, impl.RpStale, impl.RpNoEnt, impl.RpNotEmpty},
		impl.OpLink:  {impl.RpWell, impl.RpNoDir, impl.RpStale, impl.RpExist, impl.RpIsDir},
		impl.OpMove:  {impl.RpWell, impl.RpNoDir, impl.RpStale, impl.RpNoEnt, impl.RpExist, impl.RpLoop},
	} {
		for _, code := range codes {
			if met[[2]int{kind, code}] == 0 {
				t.Errorf("no call of kind %d came to code %d", kind, code)
			}
		}
	}
}

// TestDoneOnceAtMost: promise 12: each message is heard many times, in whatever order, and each shard falls in between.
func TestDoneOnceAtMost(t *testing.T) {
	ops := []impl.Op{makeOp(rootDir, "n", fileAt(0, 0)), makeOp(rootDir, "n", dirAt(1, 0)), linkOp(rootDir, "n", stageF), linkOp(rootDir, "n", stageG), dropOp(rootDir, "f"), dropOp(rootDir, "g"), dropOp(stageA, "c"),
		moveOp(rootDir, "f", stageA, "n"), moveOp(rootDir, "g", stageB, "n"), moveOp(rootDir, "a", stageD, "n"), moveOp(rootDir, "b", stageC, "n"), moveOp(stageB, "d", rootDir, "n"), writeOp(stageF, 3)}
	for _, op := range ops {
		for seed := range 12 {
			x := &steps{state: uint32(seed)}
			s := stage(t)
			s.call(0, op)
			for len(s.script) < 200 {
				switch n := x.below(20); {
				case n < 9:
					s.do(impl.Action{Kind: impl.AcDouble, I: x.below(80)})
				case n < 15:
					s.do(impl.Action{Kind: impl.AcDeliver, I: x.below(80)})
				case n < 17:
					s.tick(impl.MaxShards)
				case n < 18:
					s.tick(x.below(3))
				case seed < 6:
				default:
					s.do(impl.Action{Kind: impl.AcCrash, Node: x.below(3)}, impl.Action{Kind: impl.AcStart, Node: x.below(3)}, impl.Action{Kind: impl.AcStart, Node: x.below(3)})
				}
			}
			r := s.settled()
			if n := len(r.Deeds); n > 7 {
				t.Errorf("%v, seed %d: %d deeds %v", op, seed, n-6, r.Deeds[6:])
			}
			if c := r.Calls[6]; len(r.Deeds) == 6 && c.Reply.Code != impl.RpBusy {
				t.Errorf("%v, seed %d: no deed, but %v", op, seed, c)
			}
		}
	}
}

// TestAHandleNamedAheadOfItsMaking: by the words of chapter 7 what was told RpStale of a handle that there is not yet is decided with RpStale, though the handle is made meanwhile: no Intent keeps a number from being given out. So the deeds do not follow one another here, against promise 7; the words of the chapter are kept to.
func TestAHandleNamedAheadOfItsMaking(t *testing.T) {
	s := on(t, 2, 2)
	s.ask(0, makeOp(rootDir, "b", dirAt(0, 0)))
	s.call(0, linkOp(rootDir, "l", fileAt(1, 2)))
	s.hear(impl.MsRequest, impl.MsPrepare)
	s.wantIntents("prepared", 1, intent(txOf(0, 0), relinkPart(fileAt(1, 2)), impl.RpStale, zeroH))
	s.call(1, makeOp(dirAt(0, 2), "n", fileAt(1, 0)))
	s.hear(impl.MsRequest, impl.MsPrepare)
	s.do(impl.Action{Kind: impl.AcDeliver, I: 1})
	s.wantDeeds("made", 2)
	s.hear(impl.MsVote)
	r := impl.Run(s.c.setup, s.script)
	if other := otherIn(r, s.c.result()); other != "" || len(r.Deeds) != 3 {
		t.Fatal(other, r)
	}
	if made, linked := r.Deeds[1].Reply, r.Deeds[2].Reply; made.H != fileAt(1, 2) || linked.Code != impl.RpStale {
		t.Error("Deeds:", r.Deeds)
	}
	if _, number := impl.Follow(r.Deeds); number != 2 {
		t.Error("Follow tells", number)
	}
	if !impl.Answered(r.Calls, r.Deeds) {
		t.Error("not answered:", unanswered(r.Calls, r.Deeds))
	}
}
