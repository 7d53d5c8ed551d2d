package tests

import (
	"fmt"
	"math"
	"slices"
	"testing"

	"loop.example/g00341/impl"
)

func wantAnswered(t *testing.T, what string, calls []impl.Call, deeds []impl.Deed, want bool) {
	t.Helper()
	if got := impl.Answered(calls, deeds); got != want {
		t.Errorf("%s: Answered(%v, %v) = %t", what, calls, deeds, got)
	}
}

// callOf: it was made at 10, and came back at 20.
func callOf(op impl.Op, r impl.Reply) impl.Call {
	return impl.Call{Client: 1, Req: 3, Op: op, From: 10, To: 20, Reply: r}
}

// deedFor: one in between, as the call has it.
func deedFor(c impl.Call) impl.Deed {
	return impl.Deed{At: 15, Client: c.Client, Req: c.Req, Op: c.Op, Reply: c.Reply}
}

func doneAt(d impl.Deed, now int) impl.Deed {
	d.At = now
	return d
}

// notBack: it did not come back.
func notBack(c impl.Call) impl.Call {
	c.To, c.Reply = -1, impl.Reply{}
	return c
}

func busy(c impl.Call) impl.Call {
	c.Reply = impl.Reply{Code: impl.RpBusy}
	return c
}

// callsOfEach: a call of each kind, that went well and that was refused.
func callsOfEach() []impl.Call {
	list := []impl.Entry{entry("a", dirA), entry("b", fileF)}
	well := []impl.Reply{{H: dirC}, {List: list}, {Val: 11}, {}, {H: fresh}, {}, {}, {}}
	var l []impl.Call
	for kind, op := range oneOfEach() {
		l = append(l, callOf(op, well[kind]), callOf(op, impl.Reply{Code: impl.RpStale}))
	}
	return l
}

func changes(c impl.Call) bool {
	return slices.Contains([]int{impl.OpWrite, impl.OpMake, impl.OpDrop, impl.OpLink, impl.OpMove}, c.Op.Kind)
}

func TestAnsweredOfNothing(t *testing.T) {
	wantAnswered(t, "nil", nil, nil, true)
	wantAnswered(t, "empty lists", []impl.Call{}, []impl.Deed{}, true)
}

func TestADeedOfACall(t *testing.T) {
	for _, c := range callsOfEach() {
		wantAnswered(t, "as it should be", []impl.Call{c}, []impl.Deed{deedFor(c)}, true)
		wantAnswered(t, "not back", []impl.Call{notBack(c)}, []impl.Deed{deedFor(c)}, true)
	}
}

func TestADeedWithoutACall(t *testing.T) {
	for _, c := range callsOfEach() {
		d := deedFor(c)
		wantAnswered(t, "no calls", nil, []impl.Deed{d}, false)
		for _, change := range []func(d *impl.Deed){
			func(d *impl.Deed) { d.Client = 0 },
			func(d *impl.Deed) { d.Client = -1 },
			func(d *impl.Deed) { d.Req = 2 },
			func(d *impl.Deed) { d.Req = 4 },
			func(d *impl.Deed) { d.Client, d.Req = d.Req, d.Client },
			func(d *impl.Deed) { d.Client, d.Req = math.MaxInt, math.MinInt },
		} {
			other := d
			change(&other)
			for _, deeds := range [][]impl.Deed{{other}, {d, other}, {other, d}, {other, other}} {
				wantAnswered(t, "another one's deed", []impl.Call{c}, deeds, false)
				wantAnswered(t, "another one's deed, not back", []impl.Call{notBack(c)}, deeds, false)
			}
			own := c
			own.Client, own.Req = other.Client, other.Req
			wantAnswered(t, "each its own", []impl.Call{c, own}, []impl.Deed{other, d}, true)
			wantAnswered(t, "both the first one's", []impl.Call{c, own}, []impl.Deed{d, d}, false)
		}
	}
}

func TestACallWithoutADeed(t *testing.T) {
	for _, c := range callsOfEach() {
		wantAnswered(t, "it came back", []impl.Call{c}, nil, false)
		wantAnswered(t, "it did not", []impl.Call{notBack(c)}, nil, true)
		wantAnswered(t, "it is Busy", []impl.Call{busy(c)}, nil, true)
		for to, back := range map[int]bool{math.MinInt: false, -2: false, -1: false, 0: true, 1: true, math.MaxInt: true} {
			for _, from := range []int{-5, 0, 10} {
				c.From, c.To = from, to
				wantAnswered(t, fmt.Sprint("From, To: ", from, to), []impl.Call{c}, nil, !back)
				wantAnswered(t, fmt.Sprint("Busy; From, To: ", from, to), []impl.Call{busy(c)}, nil, true)
			}
		}
	}
	for code := impl.RpWell; code <= impl.RpBad; code++ {
		for _, op := range oneOfEach() {
			wantAnswered(t, fmt.Sprint("it came back with ", code), []impl.Call{callOf(op, impl.Reply{Code: code})}, nil, code == impl.RpBusy)
		}
	}
}

// otherOps: operations that differ from this one in one part alone.
func otherOps(op impl.Op) []impl.Op {
	var l []impl.Op
	for _, change := range []func(o *impl.Op){
		func(o *impl.Op) { o.Kind++ },
		func(o *impl.Op) { o.Kind-- },
		func(o *impl.Op) { o.Dir.Shard++ },
		func(o *impl.Op) { o.Dir.Ino++ },
		func(o *impl.Op) { o.Dir.Dir = !o.Dir.Dir },
		func(o *impl.Op) { o.Name = append(slices.Clone(o.Name), 'x') },
		func(o *impl.Op) { o.Name = []byte("other") },
		func(o *impl.Op) { o.To.Shard++ },
		func(o *impl.Op) { o.To.Ino++ },
		func(o *impl.Op) { o.To.Dir = !o.To.Dir },
		func(o *impl.Op) { o.As = append(slices.Clone(o.As), 'x') },
		func(o *impl.Op) { o.As = []byte("other") },
		func(o *impl.Op) { o.Val++ },
		func(o *impl.Op) { o.Val = -o.Val - 1 },
	} {
		other := op
		change(&other)
		l = append(l, other)
	}
	return l
}

func TestADeedWithAnotherOp(t *testing.T) {
	for _, c := range callsOfEach() {
		for _, op := range otherOps(c.Op) {
			d := deedFor(c)
			d.Op = op
			for _, call := range []impl.Call{c, notBack(c), busy(c)} {
				wantAnswered(t, "another Op", []impl.Call{call}, []impl.Deed{d}, false)
				wantAnswered(t, "another Op behind its own", []impl.Call{call}, []impl.Deed{deedFor(c), d}, false)
				wantAnswered(t, "another Op ahead of its own", []impl.Call{call}, []impl.Deed{d, deedFor(c)}, false)
			}
		}
		empty := deedFor(c)
		if len(empty.Op.Name) == 0 {
			empty.Op.Name, empty.Op.As = []byte{}, []byte{}
		}
		wantAnswered(t, "an empty name", []impl.Call{c}, []impl.Deed{empty}, true)
	}
}

func TestWhenADeedIsDone(t *testing.T) {
	for _, c := range callsOfEach() {
		for now, ok := range map[int]bool{math.MinInt: false, -1: false, 0: false, 9: false, 10: true, 11: true, 19: true, 20: true, 21: false, math.MaxInt: false} {
			d := doneAt(deedFor(c), now)
			wantAnswered(t, fmt.Sprint("it came back; At ", now), []impl.Call{c}, []impl.Deed{d}, ok)
			wantAnswered(t, fmt.Sprint("it did not; At ", now), []impl.Call{notBack(c)}, []impl.Deed{d}, now >= 10)
			wantAnswered(t, fmt.Sprint("it is Busy; At ", now), []impl.Call{busy(c)}, []impl.Deed{d}, now >= 10 && !changes(c))
		}
		// All at one time.
		c.From, c.To = 7, 7
		for now, ok := range map[int]bool{6: false, 7: true, 8: false} {
			wantAnswered(t, fmt.Sprint("From and To 7; At ", now), []impl.Call{c}, []impl.Deed{doneAt(deedFor(c), now)}, ok)
		}
		c.From, c.To = 0, 0
		wantAnswered(t, "all at 0", []impl.Call{c}, []impl.Deed{doneAt(deedFor(c), 0)}, true)
		c.From, c.To = -9, -1
		wantAnswered(t, "From below 0", []impl.Call{c}, []impl.Deed{doneAt(deedFor(c), -9)}, true)
		wantAnswered(t, "From below 0, ahead of it", []impl.Call{c}, []impl.Deed{doneAt(deedFor(c), -10)}, false)
		c.From, c.To = 9, 8
		wantAnswered(t, "From behind To", []impl.Call{c}, []impl.Deed{doneAt(deedFor(c), 9)}, false)
	}
}

func TestAReplyThatDiffers(t *testing.T) {
	for _, c := range callsOfEach() {
		for part, replies := range otherReplies(c.Reply) {
			for _, r := range replies {
				d := deedFor(c)
				d.Reply = r
				what := fmt.Sprintf("another %s: %v", part, r)
				wantAnswered(t, what, []impl.Call{c}, []impl.Deed{d}, false)
				wantAnswered(t, what+"; not back", []impl.Call{notBack(c)}, []impl.Deed{d}, true)
				wantAnswered(t, what+"; two deeds", []impl.Call{c}, []impl.Deed{d, deedFor(c)}, !changes(c))
				wantAnswered(t, what+"; two deeds, the right one first", []impl.Call{c}, []impl.Deed{deedFor(c), d}, !changes(c))
			}
		}
		d := deedFor(c)
		if len(d.Reply.List) == 0 {
			d.Reply.List = []impl.Entry{}
		}
		wantAnswered(t, "an empty list", []impl.Call{c}, []impl.Deed{d}, true)
	}
}

func TestSeveralDeedsOfACall(t *testing.T) {
	for _, c := range callsOfEach() {
		d, other := deedFor(c), deedFor(c)
		other.Reply = impl.Reply{Code: impl.RpNoEnt}
		for _, deeds := range [][]impl.Deed{{d, d}, {d, doneAt(d, 10)}, {d, d, d}, {d, other}, {other, d}, {doneAt(d, 20), doneAt(d, 10)}, {d, doneAt(d, 21)}, {doneAt(other, 99), doneAt(d, 20), other}} {
			wantAnswered(t, "several, one of them right", []impl.Call{c}, deeds, !changes(c))
			wantAnswered(t, "several, it did not come back", []impl.Call{notBack(c)}, deeds, !changes(c))
			wantAnswered(t, "several, it is Busy", []impl.Call{busy(c)}, deeds, !changes(c))
		}
		// One has the Reply, another one is in time: that is none of both.
		for _, deeds := range [][]impl.Deed{{other, doneAt(d, 21)}, {doneAt(d, 21), other}, {other, other}, {doneAt(d, 21), doneAt(d, 22)}} {
			wantAnswered(t, "several, none right", []impl.Call{c}, deeds, false)
			wantAnswered(t, "several, none right, it did not come back", []impl.Call{notBack(c)}, deeds, !changes(c))
		}
		wantAnswered(t, "several, one too early", []impl.Call{c}, []impl.Deed{d, doneAt(d, 9)}, false)
	}
}

func TestBusyWithADeed(t *testing.T) {
	for _, c := range callsOfEach() {
		for code := impl.RpWell; code <= impl.RpBad; code++ {
			d := deedFor(c)
			d.Reply = impl.Reply{Code: code}
			wantAnswered(t, "Busy, with a deed", []impl.Call{busy(c)}, []impl.Deed{d}, !changes(c))
			open := busy(c)
			open.To = -1
			wantAnswered(t, "Busy, but not back", []impl.Call{open}, []impl.Deed{d}, true)
			wantAnswered(t, "Busy, but not back, two deeds", []impl.Call{open}, []impl.Deed{d, d}, !changes(c))
		}
		// By its Code alone a Reply is RpBusy.
		b := busy(c)
		b.Reply.H, b.Reply.Val, b.Reply.List = dirA, 3, []impl.Entry{entry("a", dirA)}
		wantAnswered(t, "Busy with other parts", []impl.Call{b}, nil, true)
		wantAnswered(t, "Busy with other parts, with a deed", []impl.Call{b}, []impl.Deed{deedFor(b)}, !changes(c))
	}
}

// TestKindsThatChangeNothing: one that there is not is none of those that change something.
func TestKindsThatChangeNothing(t *testing.T) {
	for kind := impl.OpLook - 3; kind <= impl.OpMove+3; kind++ {
		c := callOf(impl.Op{Kind: kind}, impl.Reply{Val: 1})
		is := kind >= impl.OpWrite && kind <= impl.OpMove
		wantAnswered(t, fmt.Sprint("two deeds of kind ", kind), []impl.Call{c}, []impl.Deed{deedFor(c), deedFor(c)}, !is)
		wantAnswered(t, fmt.Sprint("Busy and a deed of kind ", kind), []impl.Call{busy(c)}, []impl.Deed{deedFor(c)}, !is)
		wantAnswered(t, fmt.Sprint("a deed of kind ", kind), []impl.Call{c}, []impl.Deed{deedFor(c)}, true)
		wantAnswered(t, fmt.Sprint("none of kind ", kind), []impl.Call{c}, nil, false)
	}
}

func TestSeveralCalls(t *testing.T) {
	var calls []impl.Call
	var deeds []impl.Deed
	for i, c := range callsOfEach() {
		c.Client, c.Req, c.From, c.To = i%4, 1+i/4, 10*i, 10*i+9
		calls = append(calls, c)
		deeds = append(deeds, doneAt(deedFor(c), 10*i+4))
	}
	wantAnswered(t, "all of them", calls, deeds, true)
	back, other := slices.Clone(calls), slices.Clone(deeds)
	slices.Reverse(back)
	slices.Reverse(other)
	wantAnswered(t, "in another order", back, deeds, true)
	wantAnswered(t, "both in another order", back, other, true)
	for i, c := range calls {
		wantAnswered(t, fmt.Sprint("a deed lacks: ", i), calls, slices.Delete(slices.Clone(deeds), i, i+1), false)
		wantAnswered(t, fmt.Sprint("a call lacks: ", i), slices.Delete(slices.Clone(calls), i, i+1), deeds, false)
		wantAnswered(t, fmt.Sprint("a deed twice: ", i), calls, append(slices.Clone(deeds), deeds[i]), !changes(c))
		late := slices.Clone(deeds)
		late[i].At += 10
		wantAnswered(t, fmt.Sprint("a deed too late: ", i), calls, late, false)
		early := slices.Clone(deeds)
		early[i].At -= 10
		wantAnswered(t, fmt.Sprint("a deed too early: ", i), calls, early, false)
		open := slices.Clone(calls)
		open[i] = notBack(c)
		wantAnswered(t, fmt.Sprint("one is not back: ", i), open, deeds, true)
		wantAnswered(t, fmt.Sprint("one is not back, nor done: ", i), open, slices.Delete(slices.Clone(deeds), i, i+1), true)
		open[i] = busy(c)
		wantAnswered(t, fmt.Sprint("one is Busy: ", i), open, deeds, !changes(c))
		wantAnswered(t, fmt.Sprint("one is Busy, and not done: ", i), open, slices.Delete(slices.Clone(deeds), i, i+1), true)
	}
}

// TestTwoCallsOfOneReq: the deeds are both calls' then.
func TestTwoCallsOfOneReq(t *testing.T) {
	for _, c := range callsOfEach() {
		d := deedFor(c)
		wantAnswered(t, "one call twice", []impl.Call{c, c}, []impl.Deed{d}, true)
		wantAnswered(t, "one call twice, two deeds", []impl.Call{c, c}, []impl.Deed{d, d}, !changes(c))
		wantAnswered(t, "one came back", []impl.Call{notBack(c), c}, []impl.Deed{d}, true)
		late := c
		late.From = 16
		wantAnswered(t, "one later", []impl.Call{c, late}, []impl.Deed{d}, false)
		wantAnswered(t, "one later, ahead of the other", []impl.Call{late, c}, []impl.Deed{d}, false)
		other := notBack(c)
		other.Op = otherOps(c.Op)[1]
		wantAnswered(t, "another Op", []impl.Call{c, other}, []impl.Deed{d}, false)
		wantAnswered(t, "another Op, no deed", []impl.Call{notBack(c), other}, nil, true)
	}
}

// mixedCalls: calls and deeds that are nearly one another's.
func mixedCalls(x *steps) ([]impl.Call, []impl.Deed) {
	var calls []impl.Call
	var deeds []impl.Deed
	kinds := callsOfEach()
	for i := range x.below(6) {
		c := kinds[x.below(len(kinds))]
		c.Client, c.Req, c.From = x.below(2), i, x.below(5)
		c.To = c.From + x.below(4)
		for n := []int{1, 1, 1, 1, 1, 2, 0}[x.below(7)]; n > 0; n-- {
			d := doneAt(deedFor(c), c.From+x.below(c.To-c.From+1))
			switch x.below(30) {
			case 0:
				d.At += x.below(9) - 4
			case 1:
				d.Reply.Code = x.below(impl.RpBad + 1)
			case 2:
				d.Op = kinds[x.below(len(kinds))].Op
			case 3:
				d.Client = x.below(2)
			}
			deeds = slices.Insert(deeds, x.below(len(deeds)+1), d)
		}
		switch x.below(12) {
		case 0, 1:
			c = notBack(c)
		case 2:
			c = busy(c)
		}
		calls = append(calls, c)
	}
	return calls, deeds
}

func TestMixedCallsAndDeeds(t *testing.T) {
	yes := 0
	for seed := range 4000 {
		calls, deeds := mixedCalls(&steps{state: uint32(seed)})
		want := unanswered(calls, deeds) == ""
		wantAnswered(t, fmt.Sprint("seed ", seed), calls, deeds, want)
		if want {
			yes++
		}
	}
	if yes < 800 || yes > 3200 {
		t.Error("how often it is answered:", yes)
	}
}
