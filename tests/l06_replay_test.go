package tests

import (
	"fmt"
	"math"
	"slices"
	"sort"
	"testing"

	"loop.example/g00341/impl"
)

func sameIntent(a, b impl.Intent) bool {
	return a.Tx == b.Tx && samePart(a.Part, b.Part) && a.Code == b.Code && a.Fresh == b.Fresh
}

func sameLast(a, b impl.Last) bool {
	return a.Client == b.Client && a.Req == b.Req && sameReply(a.Reply, b.Reply)
}

func sameShard(a, b impl.Shard) bool {
	return a.Id == b.Id && a.Boot == b.Boot && a.Next == b.Next && slices.EqualFunc(a.Nodes, b.Nodes, sameNode) && slices.EqualFunc(a.Intents, b.Intents, sameIntent) &&
		slices.Equal(a.Decided, b.Decided) && slices.Equal(a.Done, b.Done) && slices.EqualFunc(a.Lasts, b.Lasts, sameLast)
}

// ownNumbers: promise 6.
func ownNumbers(s impl.Shard) bool {
	for _, n := range s.Nodes {
		if n.H.Shard != s.Id || n.H.Ino >= s.Next {
			return false
		}
	}
	return s.Next >= 2 && s.Next <= impl.MaxNum
}

// replayed: what Replay gives, asked twice, and that the nodes have the shard's own numbers.
func replayed(t *testing.T, what string, id int, l []impl.Record) impl.Shard {
	t.Helper()
	s, ok := impl.Replay(id, l)
	again, okAgain := impl.Replay(id, l)
	if !ok || !okAgain || s.Id != id {
		t.Fatalf("%s: Replay(%d, %v) = %v, %t", what, id, l, s, ok)
	}
	if !sameShard(s, again) {
		t.Fatalf("%s: Replay(%d, %v) = %v, and %v at another time", what, id, l, s, again)
	}
	if !ownNumbers(s) {
		t.Fatalf("%s: Replay(%d, %v) = %v: a node has another number than its own below Next", what, id, l, s)
	}
	return s
}

func wantShard(t *testing.T, what string, id int, l []impl.Record, want impl.Shard) {
	t.Helper()
	if got := replayed(t, what, id, l); !sameShard(got, want) {
		t.Errorf("%s: shard %d is\n%v; want\n%v", what, id, got, want)
	}
}

func wantNoReplay(t *testing.T, what string, id int, l []impl.Record) {
	t.Helper()
	if s, ok := impl.Replay(id, l); ok || !sameShard(s, impl.Shard{}) {
		t.Errorf("%s: Replay(%d, %v) = %v, %t; want the zero value and false", what, id, l, s, ok)
	}
}

func localOf(op impl.Op, h impl.Handle) impl.Record {
	return impl.Record{Kind: impl.RcLocal, Client: 2, Req: 5, Op: op, Fresh: h}
}

func intentOf(x impl.Tx, p impl.Part, code int, h impl.Handle) impl.Record {
	return impl.Record{Kind: impl.RcIntent, Tx: x, Part: p, Code: code, Fresh: h}
}

func toldOf(x impl.Tx, code int) impl.Record {
	return impl.Record{Kind: impl.RcTold, Tx: x, Code: code}
}

func decideOf(x impl.Tx, code int, op impl.Op, h impl.Handle) impl.Record {
	return impl.Record{Kind: impl.RcDecide, Tx: x, Code: code, Client: 2, Req: 5, Op: op, Reply: impl.Reply{H: h}}
}

func txAt(n int) impl.Tx { return impl.Tx{Shard: 3, Boot: 1, N: n} }

// homes: the handles of the sample shard. d has the entries; w is full; gone and goneDir are no nodes.
type homes struct {
	id, far       int
	d, e, w       impl.Handle
	f, g          impl.Handle
	gone, goneDir impl.Handle
	farF, farD    impl.Handle
}

func homesOf(id int) homes {
	far := (id + 1) % impl.MaxShards
	return homes{
		id: id, far: far, d: dirAt(id, 10), e: dirAt(id, 11), f: fileAt(id, 12), g: fileAt(id, 13), w: dirAt(id, 14),
		gone: fileAt(id, 9), goneDir: dirAt(id, 8), farF: fileAt(far, 21), farD: dirAt(far, 20),
	}
}

// inD: the entries of d, ascending.
func (h homes) inD() []impl.Entry {
	return []impl.Entry{entry("e", h.e), entry("f", h.f), entry("fd", h.farD), entry("ff", h.farF), entry("g", h.g), entry("nd", h.goneDir), entry("no", h.gone)}
}

// inW: as many entries as may be.
func (h homes) inW() []impl.Entry {
	var out []impl.Entry
	for i := range impl.MaxEntries {
		out = append(out, entry("w"+letters(i), h.farF))
	}
	return out
}

// records: those that the sample shard comes from: parts of one transaction.
func (h homes) records() []impl.Record {
	var out []impl.Record
	put := func(p impl.Part, fresh impl.Handle) { out = append(out, intentOf(txAt(0), p, impl.RpWell, fresh)) }
	for _, n := range []impl.Handle{h.d, h.e, h.f, h.g, h.w} {
		put(makePart(n, h.d), n)
	}
	for _, l := range []struct {
		in impl.Handle
		of []impl.Entry
	}{{h.d, h.inD()}, {h.w, h.inW()}} {
		for i := range l.of {
			// Not in the order of the names, which they come to be in.
			e := l.of[(i*5+3)%len(l.of)]
			put(enterPart(l.in, string(e.Name), e.H), zeroH)
		}
	}
	return append(out, toldOf(txAt(0), 1))
}

func (h homes) shard() impl.Shard {
	s := impl.Shard{Id: h.id, Next: 15, Done: []impl.Tx{txAt(0)}}
	if h.id == 0 {
		s.Nodes = append(s.Nodes, impl.Node{H: rootDir, Parent: rootDir, Links: 1})
	}
	s.Nodes = append(s.Nodes,
		impl.Node{H: h.d, Parent: h.d, Links: 1, Entries: h.inD()}, impl.Node{H: h.e, Parent: h.d, Links: 1},
		impl.Node{H: h.f, Links: 1}, impl.Node{H: h.g, Links: 1}, impl.Node{H: h.w, Parent: h.d, Links: 1, Entries: h.inW()})
	return s
}

func nodeOf(s *impl.Shard, h impl.Handle) *impl.Node {
	for i := range s.Nodes {
		if s.Nodes[i].H == h {
			return &s.Nodes[i]
		}
	}
	return nil
}

func addNode(s *impl.Shard, n impl.Node) {
	s.Nodes = append(s.Nodes, n)
	sort.SliceStable(s.Nodes, func(i, k int) bool { return s.Nodes[i].H.Ino < s.Nodes[k].H.Ino })
}

func removeNode(s *impl.Shard, h impl.Handle) {
	s.Nodes = slices.DeleteFunc(s.Nodes, func(n impl.Node) bool { return n.H == h })
}

func addEntry(s *impl.Shard, d impl.Handle, name string, h impl.Handle) {
	n := nodeOf(s, d)
	n.Entries = append(n.Entries, entry(name, h))
	sort.Slice(n.Entries, func(i, k int) bool { return string(n.Entries[i].Name) < string(n.Entries[k].Name) })
}

func removeEntry(s *impl.Shard, d impl.Handle, name string) {
	n := nodeOf(s, d)
	n.Entries = slices.DeleteFunc(n.Entries, func(e impl.Entry) bool { return string(e.Name) == name })
}

// wantMore: the sample shard with more records is changed just so.
func (h homes) wantMore(t *testing.T, what string, more []impl.Record, change func(s *impl.Shard)) {
	t.Helper()
	want := h.shard()
	change(&want)
	wantShard(t, what, h.id, append(h.records(), more...), want)
}

// onEachShard asks of the sample on each shard.
func onEachShard(ask func(h homes)) {
	for id := range impl.MaxShards {
		ask(homesOf(id))
	}
}

func TestTheSampleShard(t *testing.T) {
	onEachShard(func(h homes) {
		h.wantMore(t, "the sample", nil, func(*impl.Shard) {})
	})
}

func TestReplayOfNothing(t *testing.T) {
	for id, ok := range around(impl.MaxShards - 1) {
		if !ok {
			wantNoReplay(t, "no records", id, nil)
			wantNoReplay(t, "records", id, allRecords())
			wantNoReplay(t, "a wrong record", id, []impl.Record{{Kind: -1}})
			continue
		}
		want := impl.Shard{Id: id, Next: 2}
		if id == 0 {
			want.Nodes = impl.Root().Nodes
		}
		wantShard(t, "no records", id, nil, want)
		wantShard(t, "an empty list", id, []impl.Record{}, want)
	}
}

func wrongRecords() []impl.Record {
	var out []impl.Record
	for kind, r := range recordOfEach() {
		for field, changes := range recordChanges() {
			if !slices.Contains(recordFields[kind], field) {
				other := r
				changes[len(changes)-1](&other)
				out = append(out, other)
			}
		}
	}
	local, intent, decide, told := recordOfEach()[1], recordOfEach()[2], recordOfEach()[3], recordOfEach()[4]
	local.Reply.List = []impl.Entry{entry("a", dirA)}
	intent.Part.As = nil
	decide.Code = 2
	told.Tx.Shard = impl.MaxShards
	return append(out, local, intent, decide, told, impl.Record{Kind: -1}, impl.Record{Kind: impl.RcTold + 1}, impl.Record{Kind: math.MaxInt})
}

func TestReplayOfAWrongRecord(t *testing.T) {
	onEachShard(func(h homes) {
		good := append(h.records(), allRecords()...)
		for i, r := range wrongRecords() {
			for _, at := range []int{0, 1, len(good) / 2, len(good) - 1, len(good)} {
				wantNoReplay(t, fmt.Sprintf("wrong record %d at %d", i, at), h.id, slices.Insert(slices.Clone(good), at, r))
			}
			wantNoReplay(t, fmt.Sprintf("wrong record %d alone", i), h.id, []impl.Record{r})
		}
	})
}

func TestBootsAreCounted(t *testing.T) {
	onEachShard(func(h homes) {
		for count := range 5 {
			h.wantMore(t, "boots behind others", make([]impl.Record, count), func(s *impl.Shard) { s.Boot = count })
		}
		between := append([]impl.Record{{}}, h.records()...)
		between = append(between, impl.Record{}, toldOf(txAt(0), 0), impl.Record{})
		want := h.shard()
		want.Boot = 3
		wantShard(t, "boots between others", h.id, between, want)
		if s := replayed(t, "many boots", h.id, make([]impl.Record, 3000)); s.Boot != 3000 {
			t.Error(s.Boot)
		}
	})
}

// Whatever is done, and whether or not it is: what a client was answered last is kept.
func TestLastsOfClients(t *testing.T) {
	lastOf := func(kind, client, req int, r impl.Reply) impl.Record {
		return impl.Record{Kind: kind, Client: client, Req: req, Op: listOp(dirAt(2, 77)), Reply: r}
	}
	full := impl.Reply{Code: impl.RpFull, H: fileK, Val: impl.MaxNum}
	busy := impl.Reply{Code: impl.RpBusy}
	onEachShard(func(h homes) {
		for _, kind := range []int{impl.RcLocal, impl.RcDecide} {
			decided := func(s *impl.Shard, count int) {
				for range count {
					if kind == impl.RcDecide {
						s.Decided = append(s.Decided, impl.Verdict{})
						s.Done = []impl.Tx{txAt(0), {}}
					}
				}
			}
			for client := range impl.MaxClients {
				for _, req := range []int{0, 1, impl.MaxNum} {
					for code := impl.RpWell; code <= impl.RpBad; code++ {
						r := impl.Reply{Code: code, H: dirC, Val: req}
						h.wantMore(t, "one", []impl.Record{lastOf(kind, client, req, r)}, func(s *impl.Shard) {
							s.Lasts = []impl.Last{{Client: client, Req: req, Reply: r}}
							decided(s, 1)
						})
					}
				}
			}
			several := []impl.Record{lastOf(kind, 2, 9, full), lastOf(kind, 0, 1, busy), lastOf(kind, 3, 4, impl.Reply{}), lastOf(kind, 2, 10, busy), lastOf(kind, 1, 1, full), lastOf(kind, 0, 1, full)}
			h.wantMore(t, "several", several, func(s *impl.Shard) {
				s.Lasts = []impl.Last{{Client: 2, Req: 10, Reply: busy}, {Client: 0, Req: 1, Reply: full}, {Client: 3, Req: 4}, {Client: 1, Req: 1, Reply: full}}
				decided(s, 6)
			})
			h.wantMore(t, "a lower Req behind", []impl.Record{lastOf(kind, 1, 9, full), lastOf(kind, 1, 3, busy)}, func(s *impl.Shard) {
				s.Lasts = []impl.Last{{Client: 1, Req: 3, Reply: busy}}
				decided(s, 2)
			})
		}
		mixed := []impl.Record{lastOf(impl.RcDecide, 3, 7, busy), lastOf(impl.RcLocal, 1, 7, full), lastOf(impl.RcLocal, 3, 8, full), lastOf(impl.RcDecide, 1, 8, busy)}
		h.wantMore(t, "of both kinds", mixed, func(s *impl.Shard) {
			s.Lasts = []impl.Last{{Client: 3, Req: 8, Reply: full}, {Client: 1, Req: 8, Reply: busy}}
			s.Decided = []impl.Verdict{{}, {}}
			s.Done = []impl.Tx{txAt(0), {}}
		})
	})
}

// Intents, verdicts and boots leave the lasts of clients alone.
func TestNoLastsOfTheOthers(t *testing.T) {
	onEachShard(func(h homes) {
		more := []impl.Record{{}, intentOf(txAt(1), unlinkPart(h.f), impl.RpBusy, zeroH), toldOf(txAt(1), 1)}
		h.wantMore(t, "no lasts", more, func(s *impl.Shard) { s.Boot, s.Done = 1, append(s.Done, txAt(1)) })
	})
}
