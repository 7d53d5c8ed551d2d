package tests

import (
	"fmt"
	"math"
	"slices"
	"testing"

	"loop.example/g00341/impl"
)

// deedsFor: deeds that bring the plan about, each directory ahead of what lies in it.
func deedsFor(p plan) []impl.Deed {
	var l []impl.Deed
	made := []impl.Handle{rootDir}
	for _, b := range p.branches {
		op, r := linkOp(b.in, b.name, b.h), impl.Reply{}
		if !slices.Contains(made, b.h) {
			op, r = makeOp(b.in, b.name, b.h), impl.Reply{H: b.h}
			made = append(made, b.h)
		}
		l = append(l, impl.Deed{At: len(l), Req: len(l) + 1, Op: op, Reply: r})
	}
	for _, h := range made {
		if val := p.vals[h]; val != 0 {
			l = append(l, impl.Deed{At: len(l), Client: 2, Req: len(l) + 1, Op: writeOp(h, val)})
		}
	}
	return l
}

func deed(op impl.Op, r impl.Reply) impl.Deed { return impl.Deed{Op: op, Reply: r} }

// behind: the list with more behind it, in memory of its own.
func behind(l []impl.Deed, more ...impl.Deed) []impl.Deed { return append(slices.Clone(l), more...) }

func wantFollow(t *testing.T, what string, l []impl.Deed, want impl.Tree, number int) {
	t.Helper()
	got, at := impl.Follow(l)
	if at != number || !sameTree(got, want) {
		t.Errorf("%s: Follow(%v) = %v, %d; want %v, %d", what, l, got, at, want, number)
	}
}

// wantStray: behind these deeds this one does not follow, whatever comes behind it.
func wantStray(t *testing.T, what string, ahead []impl.Deed, d impl.Deed, want impl.Tree) {
	t.Helper()
	for _, more := range [][]impl.Deed{nil, {d}, {deed(listOp(noDir), impl.Reply{Code: impl.RpStale})}, {deed(impl.Op{}, impl.Reply{Code: impl.RpBad}), d}} {
		wantFollow(t, what, behind(behind(ahead, d), more...), want, len(ahead))
	}
}

func TestFollowOfNoDeeds(t *testing.T) {
	wantFollow(t, "nil", nil, impl.Root(), -1)
	wantFollow(t, "an empty list", []impl.Deed{}, impl.Root(), -1)
}

// TestFollowOfEachOperation: each operation on each tree, with what the tree answers: it follows; so does the next one behind it.
func TestFollowOfEachOperation(t *testing.T) {
	met := map[[2]int]int{}
	for _, c := range allCases() {
		ahead := deedsFor(c.on)
		wantFollow(t, c.what+", ahead of it", ahead, c.on.tree(), -1)
		l := behind(ahead, deed(c.op, c.reply))
		wantFollow(t, c.what, l, c.then.tree(), -1)
		next := deed(listOp(rootDir), impl.Reply{List: c.then.entries(rootDir)})
		wantFollow(t, c.what+", and a list", behind(l, next), c.then.tree(), -1)
		next.Reply.Code = impl.RpStale
		wantStray(t, c.what+", and a list that is refused", l, next, c.then.tree())
		met[[2]int{c.op.Kind, c.reply.Code}]++
	}
	for kind := impl.OpLook; kind <= impl.OpMove; kind++ {
		if met[[2]int{kind, impl.RpWell}] == 0 || met[[2]int{kind, impl.RpStale}] == 0 {
			t.Error("no case of kind", kind)
		}
	}
}

// otherLists: lists that differ from this one in one thing.
func otherLists(l []impl.Entry) [][]impl.Entry {
	out := [][]impl.Entry{append(copyEntries(l), entry("zz", fileK)), append([]impl.Entry{entry("a", dirA)}, copyEntries(l)...)}
	for i := range l {
		name, longer, h, kind := copyEntries(l), copyEntries(l), copyEntries(l), copyEntries(l)
		name[i].Name = []byte("q")
		longer[i].Name = append(longer[i].Name, 'a')
		h[i].H.Ino++
		kind[i].H.Dir = !kind[i].H.Dir
		out = append(out, name, longer, h, kind, slices.Delete(copyEntries(l), i, i+1))
	}
	if len(l) > 1 {
		turn := copyEntries(l)
		slices.Reverse(turn)
		out = append(out, turn, l[:len(l)-1], l[1:])
	}
	return out
}

// otherReplies: replies that differ from this one in one part alone, by the part's name.
func otherReplies(r impl.Reply) map[string][]impl.Reply {
	out := map[string][]impl.Reply{}
	for _, code := range []int{-1, impl.RpWell, impl.RpStale, impl.RpNoDir, impl.RpNoEnt, impl.RpExist, impl.RpFull, impl.RpIsDir, impl.RpNotEmpty, impl.RpLoop, impl.RpDeep, impl.RpBusy, impl.RpBad, impl.RpBad + 1, math.MaxInt} {
		if code != r.Code {
			out["Code"] = append(out["Code"], impl.Reply{Code: code, H: r.H, Val: r.Val, List: r.List})
		}
	}
	for _, h := range []impl.Handle{{Shard: r.H.Shard + 1, Ino: r.H.Ino, Dir: r.H.Dir}, {Shard: r.H.Shard, Ino: r.H.Ino + 1, Dir: r.H.Dir}, turned(r.H), {Shard: -r.H.Shard - 1, Ino: -r.H.Ino, Dir: r.H.Dir}} {
		out["H"] = append(out["H"], impl.Reply{Code: r.Code, H: h, Val: r.Val, List: r.List})
	}
	for _, val := range []int{r.Val + 1, r.Val - 1, -r.Val - 1, math.MaxInt} {
		out["Val"] = append(out["Val"], impl.Reply{Code: r.Code, H: r.H, Val: val, List: r.List})
	}
	for _, l := range otherLists(r.List) {
		out["List"] = append(out["List"], impl.Reply{Code: r.Code, H: r.H, Val: r.Val, List: l})
	}
	return out
}

// TestRepliesThatDiffer: in one part alone. Of a make that went well H is what it is done with, so that another one may follow as well.
func TestRepliesThatDiffer(t *testing.T) {
	for _, c := range allCases() {
		ahead := deedsFor(c.on)
		for part, replies := range otherReplies(c.reply) {
			for _, r := range replies {
				if c.op.Kind == impl.OpMake && c.reply.Code == impl.RpWell && part == "H" {
					continue
				}
				wantFollow(t, fmt.Sprintf("%s, with another %s: %v", c.what, part, r), behind(ahead, deed(c.op, r)), c.on.tree(), len(ahead))
			}
		}
	}
}

func TestFollowOfMaking(t *testing.T) {
	p := sample().with(rootDir, "old", fileAt(1, 20))
	ahead := deedsFor(p)
	for _, h := range []impl.Handle{fresh, newby, fileAt(1, 1), fileAt(1, impl.MaxNum), dirAt(3, impl.MaxNum), fileAt(0, 2)} {
		wantFollow(t, fmt.Sprint("made: ", h), behind(ahead, deed(makeOp(dirB, "m", h), impl.Reply{H: h})), p.with(dirB, "m", h).tree(), -1)
	}
	for what, h := range map[string]impl.Handle{
		"no handle":                 {},
		"Ino 0":                     fileAt(1, 0),
		"Ino below 0":               fileAt(1, -1),
		"Ino MaxNum + 1":            fileAt(1, impl.MaxNum+1),
		"another Shard":             fileAt(2, 50),
		"Shard -1":                  fileAt(-1, 50),
		"Shard MaxShards":           fileAt(impl.MaxShards, 50),
		"a directory's":             newby,
		"a node's":                  fileAt(1, 20),
		"a node's, a directory's":   turned(dirA),
		"a directory's, a node has": dirA,
	} {
		for _, op := range []impl.Op{makeOp(dirB, "m", fresh), makeOp(rootDir, "a", fresh), makeOp(noDir, "m", fresh)} {
			wantStray(t, "made: "+what, ahead, deed(op, impl.Reply{H: h}), p.tree())
			wantStray(t, "made, and said to be bad: "+what, ahead, deed(op, impl.Reply{Code: impl.RpBad, H: h}), p.tree())
		}
	}
	// What went may be made again.
	gone := behind(ahead, deed(dropOp(rootDir, "old"), impl.Reply{}), deed(makeOp(dirB, "m", fileAt(1, 20)), impl.Reply{H: fileAt(1, 20)}))
	wantFollow(t, "made again", gone, p.without(rootDir, "old").with(dirB, "m", fileAt(1, 20)).tree(), -1)
}

// TestFollowOfMakesThatAreRefused: they are done with the greatest Ino of the shard that was asked for, so that no other handle plays a part.
func TestFollowOfMakesThatAreRefused(t *testing.T) {
	for _, h := range []impl.Handle{fresh, newby, fileAt(0, 0), dirAt(3, 0)} {
		last := impl.Handle{Shard: h.Shard, Ino: impl.MaxNum, Dir: h.Dir}
		other := impl.Handle{Shard: (h.Shard + 1) % impl.MaxShards, Ino: impl.MaxNum, Dir: h.Dir}
		almost := impl.Handle{Shard: h.Shard, Ino: impl.MaxNum - 1, Dir: h.Dir}
		full := filled(sample(), dirB, impl.MaxEntries)
		for _, c := range []doCase{
			refused("over an entry", full, makeOp(rootDir, "a", h), impl.RpExist),
			refused("no room", full, makeOp(dirB, "m", h), impl.RpFull),
			refused("in a file", full, makeOp(fileF, "m", h), impl.RpNoDir),
			refused("in what there is not", full, makeOp(noDir, "m", h), impl.RpStale),
		} {
			d := deed(c.op, c.reply)
			wantFollow(t, c.what, behind(deedsFor(full), d, d, d), full.tree(), -1)
			free := full.with(dirE, "x", other).with(dirE, "y", almost)
			wantFollow(t, c.what+", handles beside it taken", behind(deedsFor(free), d, d), free.tree(), -1)
			for _, taken := range []impl.Handle{last, turned(last)} {
				p := full.with(dirE, "x", taken)
				wantStray(t, fmt.Sprint(c.what, ", the last handle taken: ", taken), deedsFor(p), d, p.tree())
			}
		}
		// What could be made was not refused.
		for code := impl.RpStale; code <= impl.RpBad; code++ {
			wantStray(t, fmt.Sprint("refused with ", code), deedsFor(full), deed(makeOp(dirA, "m", h), impl.Reply{Code: code}), full.tree())
			wantStray(t, fmt.Sprint("refused with ", code, " and a handle"), deedsFor(full), deed(makeOp(dirA, "m", h), impl.Reply{Code: code, H: last}), full.tree())
		}
	}
}

func TestFollowWithAllNodes(t *testing.T) {
	most, fewer := crowd(mostNodes), crowd(mostNodes-1)
	ahead := deedsFor(most)
	d, h := most.handles()[mostNodes-1], fileAt(1, 5000)
	for _, dir := range most.handles() {
		if dir.Dir && len(most.entries(dir)) == 0 {
			d = dir
		}
	}
	last := deed(makeOp(d, "m", h), impl.Reply{H: h})
	wantFollow(t, "as many nodes as may be", behind(deedsFor(fewer), last), fewer.with(d, "m", h).tree(), -1)
	wantStray(t, "one too many", ahead, last, most.tree())
	for _, r := range []impl.Deed{deed(makeOp(rootDir, letters(1), h), impl.Reply{Code: impl.RpExist}), deed(makeOp(h, "m", h), impl.Reply{Code: impl.RpNoDir}), deed(makeOp(noDir, "m", h), impl.Reply{Code: impl.RpStale})} {
		wantFollow(t, "one node fewer", behind(deedsFor(fewer), r), fewer.tree(), -1)
		wantStray(t, "all nodes", ahead, r, most.tree())
	}
	file, _ := most.find(rootDir, letters(2))
	wantFollow(t, "a link with all nodes", behind(ahead, deed(linkOp(d, "m", file), impl.Reply{})), most.with(d, "m", file).tree(), -1)
}

// badDeeds: what no tree has as a deed.
func badDeeds() []impl.Deed {
	var l []impl.Deed
	wrong := []impl.Op{{}, {Kind: -1, Dir: rootDir}, {Kind: impl.OpMove + 1, Dir: rootDir}, {Kind: impl.OpList, Dir: rootDir, Val: 1}, {Kind: impl.OpMake, Dir: rootDir},
		lookOp(rootDir, ""), lookOp(rootDir, "sevenab"), lookOp(zeroH, "a"), listOp(dirAt(impl.MaxShards, 1)), readOp(fileAt(0, impl.MaxNum+1)), writeOp(fileF, -1), writeOp(fileF, impl.MaxNum+1),
		linkOp(rootDir, "a", zeroH), moveOp(rootDir, "a", dirA, "A"), {Kind: impl.OpMake, Dir: rootDir, Name: []byte("m"), To: fileAt(1, 1)}}
	for _, op := range wrong {
		for _, r := range []impl.Reply{{}, {Code: impl.RpBad}, {Code: impl.RpStale}, {H: fileAt(1, 1)}, {Code: impl.RpBusy}} {
			l = append(l, deed(op, r))
		}
	}
	return l
}

// TestBadDeeds: as the first, in the middle, as the last.
func TestBadDeeds(t *testing.T) {
	whole := deedsFor(sample())
	for _, d := range badDeeds() {
		wantStray(t, "the first", nil, d, impl.Root())
		for _, at := range []int{0, 1, len(whole) / 2, len(whole) - 1, len(whole)} {
			ahead, _ := impl.Follow(whole[:at])
			wantFollow(t, fmt.Sprint("at ", at), slices.Insert(slices.Clone(whole), at, d), ahead, at)
		}
	}
	// A handle that is taken already, told as RpWell and as RpBad.
	for _, r := range []impl.Reply{{H: fileF}, {Code: impl.RpBad, H: fileF}, {Code: impl.RpBad}} {
		wantStray(t, "a handle twice", whole, deed(makeOp(dirB, "m", fileF), r), sample().tree())
	}
}

// TestTheFirstThatDoesNotFollow: of several the first one counts.
func TestTheFirstThatDoesNotFollow(t *testing.T) {
	whole := deedsFor(sample())
	for first := range whole {
		for second := range whole {
			l := slices.Clone(whole)
			l[first].Reply.Val = 9
			l[second].Reply.Code = impl.RpBusy
			at := min(first, second)
			ahead, all := impl.Follow(whole[:at])
			if all != -1 {
				t.Fatal(whole[:at], all)
			}
			wantFollow(t, fmt.Sprint(first, second), l, ahead, at)
		}
	}
	// Deeds in another order are others' deeds.
	l := slices.Clone(whole)
	l[0], l[4] = l[4], l[0]
	wantFollow(t, "in another order", l, impl.Root(), 0)
	wantFollow(t, "one lacks", behind(whole[:0], whole[1:]...), planOf(branch{rootDir, "b", dirB}, branch{rootDir, "f", fileF}, branch{rootDir, "k", fileK}).tree(), 3)
}

// TestWhatElseADeedBears: At, Client and Req play no part.
func TestWhatElseADeedBears(t *testing.T) {
	l := deedsFor(sample())
	for _, n := range []int{0, -1, 7, math.MinInt, math.MaxInt} {
		for i := range l {
			l[i].At, l[i].Client, l[i].Req = n, n, n
		}
		wantFollow(t, fmt.Sprint("all of them ", n), l, sample().tree(), -1)
	}
	// A list that is empty, and a name of none.
	l = behind(l, deed(listOp(dirB), impl.Reply{List: []impl.Entry{}}), impl.Deed{Op: impl.Op{Kind: impl.OpRead, Dir: fileF, Name: []byte{}, As: []byte{}}, Reply: impl.Reply{Val: 11, List: []impl.Entry{}}})
	wantFollow(t, "empty lists", l, sample().tree(), -1)
}

// planBehind: as Follow, by branches.
func planBehind(l []impl.Deed) (plan, int) {
	p := planOf()
	for i, d := range l {
		h := d.Reply.H
		if d.Reply.Code != impl.RpWell {
			h = impl.Handle{Shard: d.Op.To.Shard, Ino: impl.MaxNum, Dir: d.Op.To.Dir}
		}
		next, r := p, impl.Reply{Code: impl.RpBad}
		if impl.OpOk(d.Op) {
			next, r = p.do(d.Op, h)
		}
		if r.Code == impl.RpBad || !sameReply(r, d.Reply) {
			return p, i
		}
		p = next
	}
	return p, -1
}

// mixedDeeds: so many that follow, but for one in count, on average.
func mixedDeeds(x *steps, length, count int) []impl.Deed {
	var l []impl.Deed
	p := planOf()
	names := 3 + x.below(10)
	for range length {
		op, h := mixedOp(x, p, names)
		next, r := p.do(op, h)
		if op.Kind == impl.OpMake && r.Code != impl.RpWell {
			_, r = p.do(op, impl.Handle{Shard: op.To.Shard, Ino: impl.MaxNum, Dir: op.To.Dir})
			// With the last handle it may be made, where h could not.
			next, _ = p.do(op, r.H)
		}
		d := impl.Deed{At: x.below(50), Client: x.below(4), Req: x.below(9), Op: op, Reply: r}
		if x.below(count) == 0 {
			parts := otherReplies(r)
			some := parts[[]string{"Code", "H", "Val", "List"}[x.below(4)]]
			d.Reply = some[x.below(len(some))]
		}
		l = append(l, d)
		p = next
	}
	return l
}

func TestLongMixedUseOfFollow(t *testing.T) {
	all, met := 0, map[[2]int]int{}
	for seed := range 200 {
		x := &steps{state: uint32(seed)}
		l := mixedDeeds(x, 20+x.below(280), []int{20, 60, 200, 2000}[seed%4])
		p, at := planBehind(l)
		wantFollow(t, fmt.Sprint("seed ", seed), l, p.tree(), at)
		if at < 0 {
			all++
			at = len(l)
		}
		for _, d := range l[:at] {
			met[[2]int{d.Op.Kind, d.Reply.Code}]++
		}
	}
	if all < 20 || all > 180 {
		t.Error("how often all follow:", all)
	}
	for kind, codes := range [][]int{
		impl.OpLook:  {impl.RpWell, impl.RpNoDir, impl.RpStale, impl.RpNoEnt},
		impl.OpList:  {impl.RpWell, impl.RpNoDir, impl.RpStale},
		impl.OpRead:  {impl.RpWell, impl.RpIsDir, impl.RpStale},
		impl.OpWrite: {impl.RpWell, impl.RpIsDir, impl.RpStale},
		impl.OpMake:  {impl.RpWell, impl.RpNoDir, impl.RpStale, impl.RpExist, impl.RpFull},
		impl.OpDrop:  {impl.RpWell, impl.RpNoDir, impl.RpStale, impl.RpNoEnt, impl.RpNotEmpty},
		impl.OpLink:  {impl.RpWell, impl.RpNoDir, impl.RpStale, impl.RpExist, impl.RpIsDir},
		impl.OpMove:  {impl.RpWell, impl.RpNoDir, impl.RpStale, impl.RpNoEnt, impl.RpExist, impl.RpLoop},
	} {
		for _, code := range codes {
			if met[[2]int{kind, code}] == 0 {
				t.Errorf("no deed of kind %d followed with code %d", kind, code)
			}
		}
	}
}
