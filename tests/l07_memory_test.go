package tests

import (
	"bytes"
	"fmt"
	"slices"
	"testing"

	"loop.example/g00341/impl"
)

func sameAction(a, b impl.Action) bool {
	return a.Kind == b.Kind && a.Node == b.Node && a.I == b.I && sameOp(a.Op, b.Op) && slices.Equal(a.Keep, b.Keep) && a.Torn == b.Torn
}

// roomyScript: the script with spare room behind each of its lists.
func roomyScript(script []impl.Action) []impl.Action {
	out := make([]impl.Action, len(script), len(script)+3)
	for i, a := range script {
		a.Op.Name, _ = roomy(a.Op.Name)
		a.Op.As, _ = roomy(a.Op.As)
		a.Keep = append(make([]bool, 0, len(a.Keep)+5), a.Keep...)
		out[i] = a
	}
	for i := len(script); i < cap(out); i++ {
		out[:cap(out)][i] = impl.Action{Kind: impl.AcCall, Op: makeOp(rootDir, "spare", rootDir)}
	}
	return out
}

// wholeScript: a copy with what lies behind each list as well.
func wholeScript(script []impl.Action) []impl.Action {
	out := slices.Clone(script[:cap(script)])
	for i, a := range out {
		out[i].Op.Name, out[i].Op.As = bytes.Clone(a.Op.Name[:cap(a.Op.Name)]), bytes.Clone(a.Op.As[:cap(a.Op.As)])
		out[i].Keep = slices.Clone(a.Keep[:cap(a.Keep)])
	}
	return out
}

func spoilScript(script []impl.Action) {
	script = script[:cap(script)]
	for i, a := range script {
		spoil(a.Op.Name)
		spoil(a.Op.As)
		for k := range a.Keep[:cap(a.Keep)] {
			a.Keep[:cap(a.Keep)][k] = !a.Keep[:cap(a.Keep)][k]
		}
		script[i] = impl.Action{Kind: -7}
	}
}

func copyOp(op impl.Op) impl.Op {
	op.Name, op.As = bytes.Clone(op.Name), bytes.Clone(op.As)
	return op
}

func copyResult(r impl.Result) impl.Result {
	r.Deeds, r.Calls, r.Shards, r.Up = slices.Clone(r.Deeds), slices.Clone(r.Calls), slices.Clone(r.Shards), slices.Clone(r.Up)
	for i, d := range r.Deeds {
		r.Deeds[i].Op, r.Deeds[i].Reply.List = copyOp(d.Op), copyEntries(d.Reply.List)
	}
	for i, c := range r.Calls {
		r.Calls[i].Op, r.Calls[i].Reply.List = copyOp(c.Op), copyEntries(c.Reply.List)
	}
	for i, s := range r.Shards {
		r.Shards[i] = copyShard(s)
	}
	return r
}

// resultLists: each list of entries of a result, and each text.
func resultLists(r impl.Result) (lists [][]impl.Entry, texts [][]byte) {
	for _, d := range r.Deeds {
		lists, texts = append(lists, d.Reply.List), append(texts, d.Op.Name, d.Op.As)
	}
	for _, c := range r.Calls {
		lists, texts = append(lists, c.Reply.List), append(texts, c.Op.Name, c.Op.As)
	}
	for _, l := range lists {
		for _, e := range l {
			texts = append(texts, e.Name)
		}
	}
	for _, s := range r.Shards {
		l, t := shardLists(s)
		lists, texts = append(lists, l...), append(texts, t...)
	}
	return lists, texts
}

// wantOwnResultLists: no two lists of a result share memory: what is written into one stays, whatever goes into the others.
func wantOwnResultLists(t *testing.T, what string, r impl.Result) {
	t.Helper()
	lists, texts := resultLists(r)
	for i, text := range texts {
		for k := range text[:cap(text)] {
			text[:cap(text)][k] = byte(i*31 + i/256)
		}
	}
	for i, text := range texts {
		for _, c := range text[:cap(text)] {
			if c != byte(i*31+i/256) {
				t.Fatalf("%s: two texts of the result share memory", what)
			}
		}
	}
	for i, l := range lists {
		for k := range l[:cap(l)] {
			l[:cap(l)][k].H = dirAt(i, k)
		}
	}
	for i, l := range lists {
		for k, e := range l[:cap(l)] {
			if e.H != dirAt(i, k) {
				t.Fatalf("%s: two lists of entries of the result share memory", what)
			}
		}
	}
	wantOwnTxs(t, what, r)
}

// wantOwnTxs: as above, of the lists of transactions of all shards.
func wantOwnTxs(t *testing.T, what string, r impl.Result) {
	t.Helper()
	mark := func(i, k int) impl.Tx { return impl.Tx{Shard: i, Boot: k, N: -7} }
	for i, s := range r.Shards {
		for k := range s.Done[:cap(s.Done)] {
			s.Done[:cap(s.Done)][k] = mark(i, k)
		}
		for k := range s.Decided[:cap(s.Decided)] {
			s.Decided[:cap(s.Decided)][k].Tx = mark(i, k)
		}
		for k := range s.Intents[:cap(s.Intents)] {
			s.Intents[:cap(s.Intents)][k].Tx = mark(i, k)
		}
	}
	for i, s := range r.Shards {
		for k, x := range s.Done[:cap(s.Done)] {
			if x != mark(i, k) {
				t.Fatalf("%s: two lists Done share memory", what)
			}
		}
		for k, v := range s.Decided[:cap(s.Decided)] {
			if v.Tx != mark(i, k) {
				t.Fatalf("%s: two lists Decided share memory", what)
			}
		}
		for k, in := range s.Intents[:cap(s.Intents)] {
			if in.Tx != mark(i, k) {
				t.Fatalf("%s: two lists Intents share memory", what)
			}
		}
	}
}

func spoilResult(r impl.Result) {
	lists, texts := resultLists(r)
	for _, text := range texts {
		spoil(text)
	}
	for _, l := range lists {
		spoilEntries(l)
	}
	for _, s := range r.Shards {
		spoilShard(s)
	}
	for i := range r.Deeds[:cap(r.Deeds)] {
		r.Deeds[:cap(r.Deeds)][i] = impl.Deed{At: -7}
	}
	for i := range r.Calls[:cap(r.Calls)] {
		r.Calls[:cap(r.Calls)][i] = impl.Call{From: -7}
	}
	for i := range r.Shards[:cap(r.Shards)] {
		r.Shards[:cap(r.Shards)][i] = impl.Shard{Id: -7}
	}
	for i := range r.Up[:cap(r.Up)] {
		r.Up[:cap(r.Up)][i] = !r.Up[:cap(r.Up)][i]
	}
}

// wantRunApart: Run changes no memory of the script, nor does writing into the result; writing into the script changes no result; the same arguments give the same again.
func wantRunApart(t *testing.T, what string, setup impl.Setup, plain []impl.Action) {
	t.Helper()
	want := copyResult(impl.Run(setup, plain))
	script := roomyScript(plain)
	whole := wholeScript(script)
	same := func(when string) {
		t.Helper()
		if !slices.EqualFunc(wholeScript(script), whole, sameAction) {
			t.Fatalf("%s: an action is changed %s", what, when)
		}
	}
	first := impl.Run(setup, script)
	same("by the call")
	if other := otherIn(first, want); other != "" {
		t.Fatalf("%s: with spare room behind the lists %s is another one", what, other)
	}
	second, third := impl.Run(setup, script), impl.Run(setup, script)
	wantOwnResultLists(t, what, third)
	same("through lists of the result")
	spoilResult(first)
	same("through the result")
	if other := otherIn(second, want); other != "" {
		t.Fatalf("%s: two results share memory: %s", what, other)
	}
	for _, a := range script {
		impl.ActionOk(a)
	}
	same("by ActionOk")
	spoilScript(script)
	if other := otherIn(second, want); other != "" {
		t.Fatalf("%s: the result shares memory with the script: %s", what, other)
	}
}

func TestResultsTakeNewMemory(t *testing.T) {
	setup := impl.Setup{Shards: 3, Clients: 4, Sectors: impl.MaxSectors}
	wantRunApart(t, "no actions", setup, nil)
	wantRunApart(t, "a wrong setup", impl.Setup{}, long(t).script)
	wantRunApart(t, "a wrong action", setup, append(long(t).script, impl.Action{Kind: -1, Keep: allKept()}))
	deeds, lists := 0, 0
	for seed := range 120 {
		m := moodOf(seed + 90000)
		m.setup.Settle = seed%2 == 0
		script, _ := mixed(m, seed)
		wantRunApart(t, fmt.Sprintf("seed %d", seed), m.setup, script)
		r := impl.Run(m.setup, script)
		deeds += len(r.Deeds)
		for _, c := range r.Calls {
			lists += len(c.Reply.List)
		}
	}
	if deeds < 1000 || lists < 30 {
		t.Error("too little lies in the results whose memory is looked at:", deeds, lists)
	}
	// Calls, deeds, Intents, nodes that all have the same names.
	s := stage(t)
	s.ask(0, listOp(rootDir), listOp(rootDir), lookOp(rootDir, "a"))
	s.call(1, moveOp(rootDir, "b", stageC, "b"))
	s.call(2, moveOp(stageA, "c", rootDir, "a"))
	s.hear(impl.MsRequest, impl.MsRequest, impl.MsPrepare, impl.MsPrepare)
	wantRunApart(t, "one name at many places", s.c.setup, s.script)
	s.crash(0)
	s.crash(2)
	wantRunApart(t, "shards that are down", s.c.setup, s.script)
}

// TestActionsThatShareMemory: one operation, one Keep in all actions.
func TestActionsThatShareMemory(t *testing.T) {
	text, keep := []byte("shared"), slices.Repeat([]bool{true}, 20)
	s := on(t, 2, 2)
	op := impl.Op{Kind: impl.OpMove, Dir: rootDir, Name: text, To: rootDir, As: text[:3]}
	other := impl.Op{Kind: impl.OpMake, Dir: rootDir, Name: text[:3], To: impl.Handle{Shard: 1}}
	for range 6 {
		s.call(0, other)
		s.do(impl.Action{Kind: impl.AcFuse, Node: 1, Keep: keep, Torn: -1}, impl.Action{Kind: impl.AcFuse, Node: 0, Keep: keep[:2], Torn: 1})
		s.hearAll()
		s.call(1, op)
		s.start(0)
		s.start(1)
		s.tick(impl.MaxShards)
		s.hearAll()
	}
	s.beginnings()
	r := impl.Run(s.c.setup, s.script)
	wantOwnResultLists(t, "shared texts", r)
	if string(text) != "shared" || slices.Contains(keep, false) {
		t.Error("the shared memory is changed:", text, keep)
	}
}

// TestWildScriptsAreAnswered: whatever actions there may be, of whatever nodes and handles, also such as nobody was told of.
func TestWildScriptsAreAnswered(t *testing.T) {
	for seed := range 400 {
		x := &steps{state: uint32(seed)}
		setup := impl.Setup{Shards: 1 + x.below(4), Clients: 1 + x.below(4), Sectors: 1 + x.below(impl.MaxSectors), Settle: x.below(2) == 0}
		ops := allOps()
		var script []impl.Action
		for range x.below(impl.MaxScript + 1) {
			a := impl.Action{Kind: x.below(impl.AcStart + 1), Node: x.below(8), I: x.below(200), Torn: x.below(22) - 1}
			for range x.below(21) {
				a.Keep = append(a.Keep, x.below(3) > 0)
			}
			if a.Kind == impl.AcCall || x.below(6) == 0 {
				a.Kind, a.Op = impl.AcCall, ops[x.below(len(ops))]
				a.Op.Dir = impl.Handle{Shard: x.below(4), Ino: 1 + x.below(3), Dir: x.below(3) > 0}
				if a.Op.Kind == impl.OpMove || a.Op.Kind == impl.OpLink {
					a.Op.To = impl.Handle{Shard: x.below(4), Ino: 1 + x.below(3), Dir: x.below(2) == 0}
				}
			}
			script = append(script, a)
		}
		c := newClusterModel(setup)
		for _, a := range script {
			c.do(a)
		}
		if setup.Settle {
			c.settle()
		}
		r := impl.Run(setup, script)
		if other := otherIn(r, c.result()); other != "" {
			t.Fatalf("seed %d: %s is other than the model's", seed, other)
		}
		if why := unanswered(r.Calls, r.Deeds); why != "" {
			t.Fatalf("seed %d: %s", seed, why)
		}
	}
}
