package tests

import (
	"bytes"
	"math"
	"slices"
	"testing"

	"loop.example/g00341/impl"
)

func copyRecord(r impl.Record) impl.Record {
	r.Op.Name, r.Op.As, r.Part.As = bytes.Clone(r.Op.Name), bytes.Clone(r.Op.As), bytes.Clone(r.Part.As)
	r.Reply.List = copyEntries(r.Reply.List)
	return r
}

// roomyRecord: r with spare room behind each of its lists, those that are empty too.
func roomyRecord(r impl.Record) impl.Record {
	r.Op.Name, _ = roomy(r.Op.Name)
	r.Op.As, _ = roomy(r.Op.As)
	r.Part.As, _ = roomy(r.Part.As)
	r.Reply.List = roomyEntries(r.Reply.List)
	return r
}

// wholeRecord: a copy of all memory of r, the spare room too.
func wholeRecord(r impl.Record) impl.Record {
	r.Op.Name = bytes.Clone(r.Op.Name[:cap(r.Op.Name)])
	r.Op.As = bytes.Clone(r.Op.As[:cap(r.Op.As)])
	r.Part.As = bytes.Clone(r.Part.As[:cap(r.Part.As)])
	r.Reply.List = wholeEntries(r.Reply.List)
	return r
}

func spoilRecord(r impl.Record) {
	spoil(r.Op.Name)
	spoil(r.Op.As)
	spoil(r.Part.As)
	spoilEntries(r.Reply.List)
}

// roomyRecords: l with spare room, which holds records that could be there.
func roomyRecords(l []impl.Record) []impl.Record {
	var out []impl.Record
	for _, r := range l {
		out = append(out, roomyRecord(copyRecord(r)))
	}
	return append(out, impl.Record{}, impl.Record{Kind: -1}, toldOf(someTx, 1))[:len(l)]
}

func wholeRecords(l []impl.Record) []impl.Record {
	var out []impl.Record
	for _, r := range l[:cap(l)] {
		out = append(out, wholeRecord(r))
	}
	return out
}

func spoilRecords(l []impl.Record) {
	l = l[:cap(l)]
	for i, r := range l {
		spoilRecord(r)
		l[i] = impl.Record{Kind: -7}
	}
}

func copyShard(s impl.Shard) impl.Shard {
	s.Nodes = copyTree(impl.Tree{Nodes: s.Nodes}).Nodes
	s.Intents, s.Lasts = slices.Clone(s.Intents), slices.Clone(s.Lasts)
	for i, in := range s.Intents {
		s.Intents[i].Part.As = bytes.Clone(in.Part.As)
	}
	for i, l := range s.Lasts {
		s.Lasts[i].Reply.List = copyEntries(l.Reply.List)
	}
	s.Decided, s.Done = slices.Clone(s.Decided), slices.Clone(s.Done)
	return s
}

// shardLists: each list of entries of a shard, and each text.
func shardLists(s impl.Shard) (lists [][]impl.Entry, texts [][]byte) {
	for _, n := range s.Nodes {
		lists = append(lists, n.Entries)
	}
	for _, l := range s.Lasts {
		lists = append(lists, l.Reply.List)
	}
	for _, l := range lists {
		for _, e := range l {
			texts = append(texts, e.Name)
		}
	}
	for _, in := range s.Intents {
		texts = append(texts, in.Part.As)
	}
	return lists, texts
}

// spoilShard writes into all that a shard hands out, the spare room too.
func spoilShard(s impl.Shard) {
	lists, texts := shardLists(s)
	for _, text := range texts {
		spoil(text)
	}
	for _, l := range lists {
		spoilEntries(l)
	}
	for i := range s.Nodes[:cap(s.Nodes)] {
		s.Nodes[:cap(s.Nodes)][i] = impl.Node{Links: -7}
	}
	for i := range s.Intents[:cap(s.Intents)] {
		s.Intents[:cap(s.Intents)][i] = impl.Intent{Code: -7}
	}
	for i := range s.Decided[:cap(s.Decided)] {
		s.Decided[:cap(s.Decided)][i] = impl.Verdict{Tx: impl.Tx{N: -7}}
	}
	for i := range s.Done[:cap(s.Done)] {
		s.Done[:cap(s.Done)][i] = impl.Tx{N: -7}
	}
	for i := range s.Lasts[:cap(s.Lasts)] {
		s.Lasts[:cap(s.Lasts)][i] = impl.Last{Req: -7}
	}
}

// wantOwnShardLists: no two lists of a shard share memory: what is written into one stays, whatever goes into the others.
func wantOwnShardLists(t *testing.T, what string, s impl.Shard) {
	t.Helper()
	lists, texts := shardLists(s)
	for i, text := range texts {
		for k := range text[:cap(text)] {
			text[:cap(text)][k] = byte(i)
		}
	}
	for i, text := range texts {
		for _, c := range text[:cap(text)] {
			if c != byte(i) {
				t.Fatalf("%s: two texts of the shard share memory", what)
			}
		}
	}
	for i, l := range lists {
		for k := range l[:cap(l)] {
			l[:cap(l)][k].H = dirAt(i, k)
		}
	}
	for i, l := range lists {
		for k, e := range l[:cap(l)] {
			if e.H != dirAt(i, k) {
				t.Fatalf("%s: two lists of entries of the shard share memory", what)
			}
		}
	}
}

// wantReplayApart: Replay changes no memory of its records, nor does writing into the shard; writing into them changes no shard.
func wantReplayApart(t *testing.T, what string, id int, plain []impl.Record) {
	t.Helper()
	want, ok := impl.Replay(id, plain)
	want = copyShard(want)
	l := roomyRecords(plain)
	whole := wholeRecords(l)
	same := func(when string) {
		t.Helper()
		if !slices.EqualFunc(wholeRecords(l), whole, sameRecord) {
			t.Fatalf("%s: a record is changed %s", what, when)
		}
	}
	first, okRoomy := impl.Replay(id, l)
	same("by the call")
	if ok != okRoomy || !sameShard(first, want) {
		t.Fatalf("%s: with spare room behind the lists %v, %t; else %v, %t", what, first, okRoomy, want, ok)
	}
	second, _ := impl.Replay(id, l)
	third, _ := impl.Replay(id, l)
	wantOwnShardLists(t, what, third)
	same("through lists of the shard")
	spoilShard(first)
	same("through the shard")
	if !sameShard(second, want) {
		t.Fatalf("%s: two answers share memory", what)
	}
	spoilRecords(l)
	if !sameShard(second, want) {
		t.Fatalf("%s: the shard shares memory with a record", what)
	}
}

// openRecords: the sample shard with Intents that wait, lasts and verdicts.
func (h homes) openRecords() []impl.Record {
	l := append(h.records(), impl.Record{}, localOf(makeOp(h.d, "m", h.f), fileAt(h.id, 20)), localOf(moveOp(h.d, "ff", h.e, "x"), zeroH), localOf(linkOp(h.e, "l", h.f), zeroH))
	for client := range impl.MaxClients {
		r := decideOf(txAt(20+client), 1, linkOp(h.d, "l"+letters(client), h.farF), h.g)
		r.Client, r.Reply.Val = client, client
		l = append(l, r)
	}
	for i, p := range append(allParts(), enterPart(h.e, "y", h.f), enterPart(h.d, "y", h.f)) {
		l = append(l, intentOf(txAt(30+i%4), p, impl.RpWell, zeroH))
	}
	return append(l, toldOf(txAt(31), 1))
}

func TestShardsTakeNewMemory(t *testing.T) {
	onEachShard(func(h homes) {
		wantReplayApart(t, "no records", h.id, nil)
		wantReplayApart(t, "the sample", h.id, h.records())
		wantReplayApart(t, "the sample with more", h.id, h.openRecords())
		wantReplayApart(t, "all records", h.id, allRecords())
		for _, r := range allRecords() {
			wantReplayApart(t, "one record", h.id, []impl.Record{r})
		}
		for _, r := range wrongRecords() {
			wantReplayApart(t, "a wrong record", h.id, append(h.records(), r))
		}
		for round := range 20 {
			s := &steps{state: uint32(round)}
			var l []impl.Record
			for range 60 {
				l = append(l, wildRecord(s))
			}
			wantReplayApart(t, "mixed records", h.id, l)
		}
	})
	wantReplayApart(t, "no such shard", impl.MaxShards, allRecords())
	if s, _ := impl.Replay(1, homesOf(1).openRecords()); len(s.Intents) < 5 || len(s.Lasts) != impl.MaxClients || len(s.Decided) < 4 || len(s.Nodes) < 6 {
		t.Error("too little lies in the shard whose memory is looked at:", s)
	}
}

func TestBytesOfRecordsTakeNewMemory(t *testing.T) {
	for _, plain := range append(allRecords(), wrongRecords()...) {
		r := roomyRecord(copyRecord(plain))
		whole := wholeRecord(r)
		same := func(when string) {
			t.Helper()
			if !sameRecord(wholeRecord(r), whole) {
				t.Fatalf("%v is changed %s", plain, when)
			}
		}
		is := impl.RecordOk(r)
		first, ok := impl.RecordBytes(r)
		same("by the call")
		second, _ := impl.RecordBytes(r)
		want, plainOk := impl.RecordBytes(plain)
		if is != plainOk || ok != plainOk || !bytes.Equal(first, want) {
			t.Fatalf("%v: with spare room behind its lists %t, %t, %v; else %t, %v", plain, is, ok, first, plainOk, want)
		}
		spoil(first)
		same("through the answer")
		if !bytes.Equal(second, want) {
			t.Fatalf("%v: two answers share memory", plain)
		}
		spoilRecord(r)
		if !bytes.Equal(second, want) {
			t.Fatalf("%v: the answer shares memory with the record", plain)
		}
	}
}

func TestRecordsThatAreReadTakeNewMemory(t *testing.T) {
	for _, r := range allRecords() {
		b, all := roomy(recordForm(r))
		whole := bytes.Clone(all)
		same := func(when string) {
			t.Helper()
			if !bytes.Equal(all, whole) {
				t.Fatalf("the bytes of %v are changed %s", r, when)
			}
		}
		first, ok := impl.RecordRead(b)
		same("by the call")
		if !ok || !sameRecord(first, r) {
			t.Fatalf("RecordRead of the bytes of %v = %v, %t", r, first, ok)
		}
		second, _ := impl.RecordRead(b)
		third, _ := impl.RecordRead(b)
		wantOwnTexts(t, impl.Msg{Op: third.Op, Part: third.Part, Reply: third.Reply})
		spoilRecord(first)
		same("through the answer")
		if !sameRecord(second, r) {
			t.Fatalf("two answers share memory: %v; want %v", second, r)
		}
		spoil(all)
		if !sameRecord(second, r) {
			t.Fatalf("the answer shares memory with the bytes: %v; want %v", second, r)
		}
		form := recordForm(r)
		for end := range form {
			b, all := roomy(form[:end])
			whole := bytes.Clone(all)
			wantRecordNotRead(t, "cut off", b)
			if !bytes.Equal(all, whole) {
				t.Fatalf("reading %v changes it", b)
			}
		}
	}
}

// Records whose lists share memory are the same values as those whose lists don't.
func TestRecordsThatShareMemory(t *testing.T) {
	text := []byte("abc")
	onEachShard(func(h homes) {
		op := moveOp(h.d, "", h.d, "")
		op.Name, op.As = text[:1], text[1:]
		more := []impl.Record{
			intentOf(txAt(1), impl.Part{Kind: impl.PaEnter, H: h.d, As: text[:1], To: h.f}, impl.RpWell, zeroH),
			intentOf(txAt(1), impl.Part{Kind: impl.PaEnter, H: h.e, As: text[:1], To: h.g}, impl.RpWell, zeroH),
			toldOf(txAt(1), 1),
			localOf(op, zeroH),
			intentOf(txAt(2), impl.Part{Kind: impl.PaEnter, H: h.d, As: text, To: h.g}, impl.RpWell, zeroH),
			intentOf(txAt(3), impl.Part{Kind: impl.PaEnter, H: h.d, As: text, To: h.g}, impl.RpBusy, zeroH),
		}
		h.wantMore(t, "shared memory", more, func(s *impl.Shard) {
			addEntry(s, h.d, "bc", h.f)
			addEntry(s, h.e, "a", h.g)
			s.Lasts, s.Done = []impl.Last{{Client: 2, Req: 5}}, append(s.Done, txAt(1))
			s.Intents = []impl.Intent{intent(txAt(2), enterPart(h.d, "abc", h.g), impl.RpWell, zeroH), intent(txAt(3), enterPart(h.d, "abc", h.g), impl.RpBusy, zeroH)}
		})
		s, _ := impl.Replay(h.id, append(h.records(), more...))
		wantOwnShardLists(t, "records that share memory", s)
	})
	if string(text) != "abc" {
		t.Error(text)
	}
}

// Lists of no length are none, wherever they stand; the shard is the same.
func TestEmptyListsOfRecords(t *testing.T) {
	onEachShard(func(h homes) {
		var l []impl.Record
		for _, r := range h.openRecords() {
			for _, list := range []*[]byte{&r.Op.Name, &r.Op.As, &r.Part.As} {
				if len(*list) == 0 {
					*list = []byte{}
				}
			}
			r.Reply.List = []impl.Entry{}
			l = append(l, r)
		}
		wantShard(t, "empty lists", h.id, l, replayed(t, "nil", h.id, h.openRecords()))
	})
}

// Whatever a record is made of, an answer comes.
func TestWildRecordsAreAnswered(t *testing.T) {
	s := &steps{state: 41}
	num := func() int {
		return []int{0, 0, 1, 2, 3, 4, -1, 5, impl.MaxNum, impl.MaxNum + 1, math.MinInt, math.MaxInt}[s.below(12)]
	}
	text := func() []byte {
		return [][]byte{nil, {}, []byte("a"), []byte("toolong"), bytes.Repeat([]byte{255}, 300)}[s.below(5)]
	}
	handle := func() impl.Handle { return impl.Handle{Shard: num(), Ino: num(), Dir: s.below(2) == 0} }
	for range 20000 {
		r := impl.Record{
			Kind: num(), Client: num(), Req: num(), Fresh: handle(), Tx: impl.Tx{Shard: num(), Boot: num(), N: num()}, Code: num(),
			Op:    impl.Op{Kind: num(), Dir: handle(), Name: text(), To: handle(), As: text(), Val: num()},
			Reply: impl.Reply{Code: num(), H: handle(), Val: num(), List: slices.Repeat([]impl.Entry{{Name: text(), H: handle()}}, s.below(3)*s.below(8))},
			Part:  impl.Part{Kind: num(), H: handle(), As: text(), To: handle()},
		}
		if s.below(2) == 0 {
			for field, empty := range recordEmptied {
				if r.Kind >= 0 && r.Kind < len(recordFields) && !slices.Contains(recordFields[r.Kind], field) {
					empty(&r)
				}
			}
		}
		wantRecordOk(t, "a wild record", r, impl.RecordOk(r))
		id := num()
		if _, ok := impl.Replay(id, []impl.Record{r}); ok != (impl.RecordOk(r) && id >= 0 && id < impl.MaxShards) {
			t.Fatalf("Replay(%d, %v) = %t", id, r, ok)
		}
	}
}

// recordEmptied: for each field of a record, what makes it zero.
var recordEmptied = map[string]func(r *impl.Record){
	"Client": func(r *impl.Record) { r.Client = 0 },
	"Req":    func(r *impl.Record) { r.Req = 0 },
	"Op":     func(r *impl.Record) { r.Op = impl.Op{} },
	"Fresh":  func(r *impl.Record) { r.Fresh = zeroH },
	"Reply":  func(r *impl.Record) { r.Reply = impl.Reply{} },
	"Tx":     func(r *impl.Record) { r.Tx = impl.Tx{} },
	"Part":   func(r *impl.Record) { r.Part = impl.Part{} },
	"Code":   func(r *impl.Record) { r.Code = 0 },
}
