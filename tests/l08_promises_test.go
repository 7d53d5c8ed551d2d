package tests

import (
	"fmt"
	"slices"
	"testing"

	"loop.example/g00341/impl"
)

// wantFollowed: promise 7; it tells the tree of the deeds.
func wantFollowed(t *testing.T, what string, r impl.Result) impl.Tree {
	t.Helper()
	tree, at := impl.Follow(r.Deeds)
	if at != -1 {
		t.Fatalf("%s: deed %d does not follow: %v", what, at, r.Deeds[at])
	}
	if !impl.Answered(r.Calls, r.Deeds) {
		t.Fatalf("%s: the calls are not answered by the deeds: %s", what, unanswered(r.Calls, r.Deeds))
	}
	return tree
}

// wantQuiet: promise 8, of a result that is settled, with all shards up.
func wantQuiet(t *testing.T, what string, r impl.Result, tree impl.Tree) {
	t.Helper()
	if r.Rounds < 0 || r.Rounds >= 40 || r.Net != 0 || r.Acts != 0 {
		t.Fatalf("%s: Rounds %d, Net %d, Acts %d", what, r.Rounds, r.Net, r.Acts)
	}
	for _, c := range r.Calls {
		if c.To < 0 {
			t.Fatalf("%s: it did not come back: %v", what, c)
		}
	}
	for _, s := range r.Shards {
		if len(s.Intents) > 0 {
			t.Fatalf("%s: Intents are left: %v", what, s.Intents)
		}
	}
	wantWhole(t, what, r, tree)
}

// wantWhole: all shards together are the tree of the deeds.
func wantWhole(t *testing.T, what string, r impl.Result, tree impl.Tree) {
	t.Helper()
	all, ok := impl.Union(r.Shards)
	if !ok || !sameTree(all, tree) {
		t.Fatalf("%s: Union = %v, %t; the deeds tell %v", what, all, ok, tree)
	}
}

// TestDeedsOfAClusterFollow: promises 7 and 8.
func TestDeedsOfAClusterFollow(t *testing.T) {
	met, down := map[string]int{}, 0
	for seed := range 4000 {
		m := moodOf(seed + 200000)
		script, c := mixed(m, seed+200000)
		what := fmt.Sprintf("seed %d", seed)
		wantFollowed(t, what, impl.Run(m.setup, script))
		m.setup.Settle = true
		r := impl.Run(m.setup, script)
		tree := wantFollowed(t, what+", settled", r)
		if slices.Contains(r.Up, false) {
			down++
			continue
		}
		wantQuiet(t, what+", settled", r, tree)
		for _, a := range script {
			met[fmt.Sprint("action ", a.Kind)]++
		}
		for w, n := range c.met {
			met[w] += n
		}
		for _, d := range r.Deeds {
			met[fmt.Sprintf("deed %d: %d", d.Op.Kind, d.Reply.Code)]++
		}
		if r.Rounds > 0 && len(tree.Nodes) > 10 {
			met["a great tree, that was not quiet"]++
		}
	}
	if down == 0 || down > 800 {
		t.Error("how often a shard stays down:", down)
	}
	for _, w := range []string{"action 2", "action 3", "action 5", "action 6", "a fuse at a record of kind 1", "a fuse at a record of kind 2", "a fuse at a record of kind 3", "a fuse at a record of kind 4",
		"a message to a shard that is down", "a request ahead of the last one", "a vote twice", "a prepare of what is done", "an ask of what was decided: done", "a great tree, that was not quiet",
		"deed 0: 0", "deed 1: 0", "deed 2: 0", "deed 3: 0", "deed 4: 0", "deed 5: 0", "deed 6: 0", "deed 7: 0", "deed 7: 8", "deed 5: 7", "deed 6: 1", "deed 4: 4"} {
		if met[w] == 0 {
			t.Errorf("the scripts never came to: %s", w)
		}
	}
}

// TestScriptsThatComeToTheLimits: promises 7 and 8, of scenes that the mixed scripts hardly come to.
func TestScriptsThatComeToTheLimits(t *testing.T) {
	fullRoot := on(t, 3, 4)
	fullRoot.fill(rootDir, impl.MaxEntries)
	fullRoot.ask(0, makeOp(rootDir, "m", fileAt(1, 0)), makeOp(rootDir, "m", fileAt(0, 0)), linkOp(rootDir, "m", fileAt(0, 2)))
	deep, way := row(t, 3, impl.MaxDeep+1, 0, 1, 2)
	deep.ask(0, moveOp(rootDir, "x", way[impl.MaxDeep], "y"), moveOp(rootDir, "x", way[impl.MaxDeep-1], "y"), moveOp(rootDir, "x", way[impl.MaxDeep-2], "y"))
	fullNet := full(t)
	fullNet.call(1, makeOp(rootDir, "m", fileAt(1, 0)))
	fullNet.do(impl.Action{Kind: impl.AcDouble})
	fullNet.wantMet("a message is lost in a full net")
	for what, s := range map[string]*scene{"as many nodes as may be": crowded(t, 2, impl.MaxNodes), "a full root": fullRoot, "a way that is long": deep, "a full net": fullNet, "a long use": long(t)} {
		wantFollowed(t, what, impl.Run(s.c.setup, s.script))
		setup := s.c.setup
		setup.Settle = true
		r := impl.Run(setup, s.script)
		wantQuiet(t, what+", settled", r, wantFollowed(t, what+", settled", r))
	}
}

// allFall: the beginning of a script, and behind it a fall of all shards.
func allFall(shards int, script []impl.Action) []impl.Action {
	out := slices.Clone(script)
	for node := range shards {
		out = append(out, impl.Action{Kind: impl.AcCrash, Node: node})
	}
	return out
}

// TestAllShardsFall: promise 10.
func TestAllShardsFall(t *testing.T) {
	open, down, lost := 0, 0, 0
	for seed := range 30 {
		m := moodOf(seed + 300000)
		m.setup.Sectors, m.setup.Settle = impl.MaxSectors, true
		m.length = min(m.length, impl.MaxScript-m.setup.Shards)
		script, _ := mixed(m, seed+300000)
		for n := range len(script) + 1 {
			what := fmt.Sprintf("seed %d, the first %d of %d actions", seed, n, len(script))
			plain := m.setup
			plain.Settle = false
			ahead := impl.Run(plain, script[:n])
			open += ahead.Acts
			if slices.Contains(ahead.Up, false) {
				down++
			}
			r := impl.Run(m.setup, allFall(m.setup.Shards, script[:n]))
			if slices.Contains(r.Up, false) {
				t.Fatalf("%s: a shard stays down: %v", what, r.Up)
			}
			tree := wantFollowed(t, what, r)
			wantWhole(t, what, r, tree)
			wantQuiet(t, what, r, tree)
			if len(r.Deeds) < len(ahead.Deeds) || !slices.EqualFunc(ahead.Deeds, r.Deeds[:len(ahead.Deeds)], sameDeed) {
				lost++
			}
		}
	}
	if lost > 0 {
		t.Error("deeds that were done are gone:", lost)
	}
	if open < 500 || down < 100 {
		t.Error("the scripts hardly had anything open, or anyone down:", open, down)
	}
}

// TestAllShardsFallInALongUse: promise 10, behind each part of a use that comes to all kinds of records, in whatever order they fall.
func TestAllShardsFallInALongUse(t *testing.T) {
	s := long(t)
	setup := s.c.setup
	setup.Settle = true
	for n := range len(s.script) + 1 {
		script := allFall(setup.Shards, s.script[:n])
		r := impl.Run(setup, script)
		what := fmt.Sprintf("the first %d actions", n)
		wantQuiet(t, what, r, wantFollowed(t, what, r))
		slices.Reverse(script[n:])
		r = impl.Run(setup, script)
		wantQuiet(t, what+", in another order", r, wantFollowed(t, what, r))
		// They fall again, as soon as they are up.
		for node := range setup.Shards {
			script = append(script, impl.Action{Kind: impl.AcStart, Node: node})
		}
		r = impl.Run(setup, allFall(setup.Shards, script))
		wantQuiet(t, what+", twice", r, wantFollowed(t, what, r))
	}
}

// TestDeedsThatAreNotTheClusters: what a cluster did not do is told.
func TestDeedsThatAreNotTheClusters(t *testing.T) {
	strays := 0
	for seed := range 200 {
		m := moodOf(seed + 400000)
		m.setup.Sectors, m.setup.Settle = impl.MaxSectors, true
		script, _ := mixed(m, seed+400000)
		r := impl.Run(m.setup, script)
		tree := wantFollowed(t, fmt.Sprint("seed ", seed), r)
		for i, d := range r.Deeds {
			less := slices.Delete(slices.Clone(r.Deeds), i, i+1)
			left, at := impl.Follow(less)
			if at >= 0 {
				strays++
			}
			if did := d.Op.Kind >= impl.OpWrite && d.Reply.Code == impl.RpWell; !did && (at >= 0 || !sameTree(left, tree)) {
				t.Fatalf("seed %d: without deed %d, %v, which changes nothing, Follow tells %d", seed, i, d, at)
			}
			if d.Op.Kind >= impl.OpWrite && impl.Answered(r.Calls, less) {
				t.Fatalf("seed %d: answered without deed %d, %v", seed, i, d)
			}
			if d.Op.Kind >= impl.OpWrite && impl.Answered(r.Calls, append(slices.Clone(r.Deeds), d)) {
				t.Fatalf("seed %d: answered with deed %d twice, %v", seed, i, d)
			}
			other := slices.Clone(r.Deeds)
			other[i].Reply.Val++
			if _, at := impl.Follow(other); at != i {
				t.Fatalf("seed %d: with another Val in deed %d Follow tells %d", seed, i, at)
			}
		}
	}
	if strays < 100 {
		t.Error("how often a deed that lacks is missed:", strays)
	}
}
