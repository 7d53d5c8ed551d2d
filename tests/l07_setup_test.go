package tests

import (
	"math"
	"slices"
	"testing"

	"loop.example/g00341/impl"
)

func TestLimitsOfTheCluster(t *testing.T) {
	if impl.MaxScript != 400 || impl.MaxNet != 80 || impl.Reserve != 600 {
		t.Error("MaxScript, MaxNet, Reserve =", impl.MaxScript, impl.MaxNet, impl.Reserve)
	}
	if impl.AcCall != 0 || impl.AcDeliver != 1 || impl.AcDouble != 2 || impl.AcDrop != 3 || impl.AcTick != 4 || impl.AcCrash != 5 || impl.AcFuse != 6 || impl.AcStart != 7 {
		t.Error("the codes of actions are others")
	}
}

// limits: numbers around a span, each with whether it is in it.
func limits(first, last int) map[int]bool {
	return map[int]bool{math.MinInt: false, first - 1: false, first: true, last: true, last + 1: false, math.MaxInt: false}
}

func wantSetup(t *testing.T, s impl.Setup, ok bool) {
	t.Helper()
	for _, s.Settle = range []bool{false, true} {
		if impl.SetupOk(s) != ok {
			t.Errorf("SetupOk(%+v) = %t; want %t", s, !ok, ok)
		}
		r := impl.Run(s, nil)
		if other := otherIn(r, impl.Result{}); !ok && other != "" {
			t.Errorf("Run(%+v) = %+v; want the zero value", s, r)
		}
		if r.Ok != ok || ok && (len(r.Shards) != s.Shards || len(r.Up) != s.Shards) {
			t.Errorf("Run(%+v) = %+v", s, r)
		}
	}
}

func TestSetupOk(t *testing.T) {
	for shards, ok := range limits(1, impl.MaxShards) {
		wantSetup(t, impl.Setup{Shards: shards, Clients: 2, Sectors: 5}, ok)
	}
	for clients, ok := range limits(1, impl.MaxClients) {
		wantSetup(t, impl.Setup{Shards: 2, Clients: clients, Sectors: 5}, ok)
	}
	for sectors, ok := range limits(1, impl.MaxSectors) {
		wantSetup(t, impl.Setup{Shards: 2, Clients: 2, Sectors: sectors}, ok)
	}
	wantSetup(t, impl.Setup{}, false)
	wantSetup(t, impl.Setup{Shards: impl.MaxShards, Clients: impl.MaxClients, Sectors: impl.MaxSectors}, true)
}

// wantAction: as ActionOk tells it, and as Run tells it of a script that has the action as the first, in the middle, as the last.
func wantAction(t *testing.T, a impl.Action, ok bool) {
	t.Helper()
	if impl.ActionOk(a) != ok {
		t.Errorf("ActionOk(%+v) = %t; want %t", a, !ok, ok)
	}
	other := impl.Action{Kind: impl.AcTick}
	setup := impl.Setup{Shards: 2, Clients: 2, Sectors: 5}
	for _, script := range [][]impl.Action{{a}, {a, other, other}, {other, a, other}, {other, other, a}} {
		r := impl.Run(setup, script)
		if r.Ok != ok || !ok && otherIn(r, impl.Result{}) != "" {
			t.Errorf("Run of %+v = %+v; the action is ok: %t", script, r, ok)
		}
	}
}

// actionOfEach: one of each kind, as it may be.
func actionOfEach() []impl.Action {
	all := []impl.Action{{Kind: impl.AcCall, Op: listOp(rootDir)}}
	for kind := impl.AcDeliver; kind <= impl.AcStart; kind++ {
		all = append(all, impl.Action{Kind: kind})
	}
	return all
}

func TestKindsOfActions(t *testing.T) {
	for _, a := range actionOfEach() {
		wantAction(t, a, true)
	}
	for kind, ok := range limits(impl.AcCall, impl.AcStart) {
		wantAction(t, impl.Action{Kind: kind}, ok && kind != impl.AcCall)
		wantAction(t, impl.Action{Kind: kind, Op: listOp(rootDir)}, kind == impl.AcCall)
	}
}

func TestNumbersOfActions(t *testing.T) {
	for _, a := range actionOfEach() {
		for node, ok := range limits(0, impl.MaxShards+impl.MaxClients-1) {
			b := a
			b.Node = node
			wantAction(t, b, ok)
		}
		for i, ok := range limits(0, impl.MaxNum) {
			b := a
			b.I = i
			wantAction(t, b, ok)
		}
		for torn, ok := range limits(-1, 20) {
			b := a
			b.Torn = torn
			wantAction(t, b, ok)
		}
		for _, count := range []int{0, 1, 19, 20, 21, 22, 400} {
			b := a
			b.Keep = make([]bool, count)
			wantAction(t, b, count <= 20)
			b.Keep = slices.Repeat([]bool{true}, count)
			wantAction(t, b, count <= 20)
		}
	}
}

func TestOperationsOfActions(t *testing.T) {
	wrong := []impl.Op{{}, {Kind: -1, Dir: rootDir}, {Kind: impl.OpMove + 1, Dir: rootDir}, {Kind: impl.OpList, Dir: rootDir, Val: 1},
		lookOp(rootDir, ""), lookOp(rootDir, "sevenab"), lookOp(zeroH, "a"), writeOp(fileF, -1), linkOp(rootDir, "a", zeroH), moveOp(rootDir, "a", dirA, "A")}
	for _, op := range allOps() {
		wantAction(t, impl.Action{Kind: impl.AcCall, Op: op}, true)
	}
	for _, op := range wrong {
		wantAction(t, impl.Action{Kind: impl.AcCall, Op: op}, false)
	}
	somethings := []impl.Op{{Kind: 1}, {Dir: rootDir}, {Dir: impl.Handle{Dir: true}}, {Name: []byte("a")}, {To: dirA}, {As: []byte{0}}, {Val: 1}, {Val: -1}}
	for kind := impl.AcDeliver; kind <= impl.AcStart; kind++ {
		for _, op := range slices.Concat(allOps(), wrong[1:], somethings) {
			wantAction(t, impl.Action{Kind: kind, Op: op}, false)
		}
		wantAction(t, impl.Action{Kind: kind, Op: impl.Op{Name: []byte{}, As: []byte{}}, Keep: []bool{}}, true)
	}
}

func TestNoActionsAtAll(t *testing.T) {
	for shards := 1; shards <= impl.MaxShards; shards++ {
		for _, settle := range []bool{false, true} {
			s := impl.Setup{Shards: shards, Clients: 1, Sectors: 1, Settle: settle}
			want := impl.Result{Ok: true}
			for id := range shards {
				sh, _ := impl.Replay(id, []impl.Record{{Kind: impl.RcBoot}})
				want.Shards, want.Up = append(want.Shards, sh), append(want.Up, true)
			}
			for _, script := range [][]impl.Action{nil, {}} {
				if r := impl.Run(s, script); otherIn(r, want) != "" {
					t.Errorf("Run(%+v) = %+v; want %+v", s, r, want)
				}
			}
		}
	}
}

// TestAsManyActionsAsMayBe: one that is too many is refused, whatever it is.
func TestAsManyActionsAsMayBe(t *testing.T) {
	s := impl.Setup{Shards: 1, Clients: 1, Sectors: impl.MaxSectors}
	script := []impl.Action{{Kind: impl.AcCall, Op: makeOp(rootDir, "a", rootDir)}}
	for len(script) < impl.MaxScript-1 {
		script = append(script, impl.Action{Kind: impl.AcTick, Node: 3})
	}
	script = append(script, impl.Action{Kind: impl.AcDeliver})
	r := impl.Run(s, script)
	if !r.Ok || len(r.Deeds) != 1 || r.Deeds[0].At != impl.MaxScript || r.Net != 1 {
		t.Errorf("Run of MaxScript actions = %+v", r)
	}
	for _, more := range [][]impl.Action{{{Kind: impl.AcDeliver}}, {{Kind: -1}}, script} {
		for _, s.Settle = range []bool{false, true} {
			if r := impl.Run(s, append(slices.Clone(script), more...)); otherIn(r, impl.Result{}) != "" {
				t.Errorf("Run of %d actions = %+v; want the zero value", len(script)+len(more), r)
			}
		}
	}
}

func TestOneWrongActionAmongMany(t *testing.T) {
	s := impl.Setup{Shards: 2, Clients: 2, Sectors: impl.MaxSectors, Settle: true}
	script := []impl.Action{{Kind: impl.AcCall, Op: makeOp(rootDir, "a", dirAt(1, 0))}}
	for len(script) < impl.MaxScript {
		script = append(script, impl.Action{Kind: impl.AcDeliver})
	}
	for _, at := range []int{0, 1, impl.MaxScript / 2, impl.MaxScript - 1} {
		l := slices.Clone(script)
		l[at].I = -1
		if r := impl.Run(s, l); otherIn(r, impl.Result{}) != "" {
			t.Errorf("with a wrong action at %d Run = %+v; want the zero value", at, r)
		}
	}
	if r := impl.Run(s, script); !r.Ok || len(r.Deeds) != 1 {
		t.Errorf("without it Run = %+v", r)
	}
}
