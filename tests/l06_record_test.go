package tests

import (
	"bytes"
	"fmt"
	"slices"
	"strings"
	"testing"

	"loop.example/g00341/impl"
)

// recordFields: what a record of each kind has behind Kind, in the order of its bytes.
var recordFields = [][]string{
	impl.RcBoot:   {},
	impl.RcLocal:  {"Client", "Req", "Op", "Fresh", "Reply"},
	impl.RcIntent: {"Tx", "Part", "Code", "Fresh"},
	impl.RcDecide: {"Tx", "Code", "Client", "Req", "Op", "Reply"},
	impl.RcTold:   {"Tx", "Code"},
}

// recordOfEach: a record of each kind that is RecordOk, by its kind.
func recordOfEach() []impl.Record {
	return []impl.Record{
		{Kind: impl.RcBoot},
		{Kind: impl.RcLocal, Client: 3, Req: 300, Op: moveOp(dirA, "g", dirB, "hi"), Fresh: newby, Reply: impl.Reply{Code: impl.RpFull, H: fileK, Val: 7}},
		{Kind: impl.RcIntent, Tx: someTx, Part: enterPart(dirC, "xyz", fileG), Code: impl.RpBusy, Fresh: fileK},
		{Kind: impl.RcDecide, Tx: someTx, Code: 1, Client: 2, Req: 128, Op: makeOp(dirA, "m", newby), Reply: impl.Reply{H: newby}},
		{Kind: impl.RcTold, Tx: someTx, Code: 1},
	}
}

// longRecords: records of each kind with the greatest of all that they may have.
func longRecords() []impl.Record {
	long := strings.Repeat("z", impl.MaxName)
	x := impl.Tx{Shard: impl.MaxShards - 1, Boot: impl.MaxNum, N: impl.MaxNum}
	reply := impl.Reply{Code: impl.RpBad, H: lastDir, Val: impl.MaxNum}
	var out []impl.Record
	for _, op := range append(allOps(), moveOp(lastDir, long, lastDir, long), writeOp(lastDir, impl.MaxNum)) {
		out = append(out,
			impl.Record{Kind: impl.RcLocal, Client: impl.MaxClients - 1, Req: impl.MaxNum, Op: op, Fresh: lastDir, Reply: reply},
			impl.Record{Kind: impl.RcDecide, Tx: x, Code: 1, Client: impl.MaxClients - 1, Req: impl.MaxNum, Op: op, Reply: reply})
	}
	for _, p := range append(allParts(), enterPart(lastDir, long, lastDir)) {
		out = append(out, impl.Record{Kind: impl.RcIntent, Tx: x, Part: p, Code: impl.RpBad, Fresh: lastDir})
	}
	return append(out, impl.Record{Kind: impl.RcTold, Tx: x, Code: 1}, impl.Record{Kind: impl.RcBoot})
}

// allRecords: records of each kind, with each operation, part and code, and with numbers of each length.
func allRecords() []impl.Record {
	out := append(recordOfEach(), longRecords()...)
	freshes := []impl.Handle{zeroH, newby, fresh, lastFile, fileAt(0, 1)}
	for i, op := range allOps() {
		x := impl.Tx{Shard: i % impl.MaxShards, Boot: 1 << i, N: impl.MaxNum >> i}
		r := impl.Reply{Code: i % (impl.RpBad + 1), H: freshes[i%len(freshes)], Val: 1 << i}
		out = append(out,
			impl.Record{Kind: impl.RcLocal, Client: i % impl.MaxClients, Req: 1 << i, Op: op, Fresh: freshes[(i+1)%len(freshes)], Reply: r},
			impl.Record{Kind: impl.RcDecide, Tx: x, Code: i % 2, Client: (i + 1) % impl.MaxClients, Req: impl.MaxNum >> i, Op: op, Reply: r})
	}
	for i, p := range allParts() {
		x := impl.Tx{Shard: i % impl.MaxShards, Boot: 1 << i, N: impl.MaxNum >> i}
		for code := impl.RpWell; code <= impl.RpBad; code++ {
			out = append(out, impl.Record{Kind: impl.RcIntent, Tx: x, Part: p, Code: code, Fresh: freshes[(i+code)%len(freshes)]})
		}
		out = append(out, impl.Record{Kind: impl.RcTold, Tx: x, Code: i % 2})
	}
	for code := impl.RpWell; code <= impl.RpBad; code++ {
		out = append(out, impl.Record{Kind: impl.RcLocal, Op: listOp(rootDir), Reply: impl.Reply{Code: code}}, impl.Record{Kind: impl.RcDecide, Op: listOp(rootDir), Reply: impl.Reply{Code: code}})
	}
	return out
}

func sameRecord(a, b impl.Record) bool {
	return a.Kind == b.Kind && a.Client == b.Client && a.Req == b.Req && sameOp(a.Op, b.Op) && a.Fresh == b.Fresh && sameReply(a.Reply, b.Reply) && a.Tx == b.Tx && samePart(a.Part, b.Part) && a.Code == b.Code
}

// laidRecord: the pieces of a record of a kind that there is, whatever else is wrong with it.
func laidRecord(r impl.Record) [][]byte {
	fields := map[string]any{"Client": r.Client, "Req": r.Req, "Op": r.Op, "Fresh": r.Fresh, "Reply": r.Reply, "Tx": r.Tx, "Part": r.Part, "Code": r.Code}
	out := laid(r.Kind)
	for _, name := range recordFields[r.Kind] {
		out = append(out, laid(fields[name])...)
	}
	return out
}

func recordForm(r impl.Record) []byte { return bytes.Join(laidRecord(r), nil) }

// wantRecord: r is RecordOk, just these are its bytes, not too many of them, and it comes back from them.
func wantRecord(t *testing.T, what string, r impl.Record, form []byte) {
	t.Helper()
	if !impl.RecordOk(r) {
		t.Errorf("%s: %v is not RecordOk", what, r)
	}
	b, ok := impl.RecordBytes(r)
	if !ok || !bytes.Equal(b, form) {
		t.Errorf("%s: RecordBytes(%v) = %v, %t; want %v", what, r, b, ok, form)
	}
	if len(b) > impl.MaxRecord {
		t.Errorf("%s: %v has %d bytes", what, r, len(b))
	}
	if back, ok := impl.RecordRead(form); !ok || !sameRecord(back, r) {
		t.Errorf("%s: RecordRead(%v) = %v, %t; want %v", what, form, back, ok, r)
	}
	if s, ok := impl.Replay(1, []impl.Record{r}); !ok || s.Id != 1 {
		t.Errorf("%s: Replay of %v = %v, %t", what, r, s, ok)
	}
}

// wantNoRecord: r is not RecordOk, has no bytes and is not replayed; where it could be written, it is not read.
func wantNoRecord(t *testing.T, what string, r impl.Record) {
	t.Helper()
	if impl.RecordOk(r) {
		t.Errorf("%s: %v is RecordOk", what, r)
	}
	if b, ok := impl.RecordBytes(r); ok || len(b) != 0 {
		t.Errorf("%s: RecordBytes(%v) = %v, %t; want nothing and false", what, r, b, ok)
	}
	wantNoReplay(t, what, 0, []impl.Record{r})
	if r.Kind >= impl.RcBoot && r.Kind <= impl.RcTold {
		wantRecordRightlyRead(t, what, recordForm(r))
	}
}

func wantRecordOk(t *testing.T, what string, r impl.Record, ok bool) {
	t.Helper()
	if ok {
		wantRecord(t, what, r, recordForm(r))
		return
	}
	wantNoRecord(t, what, r)
}

func TestBytesOfRecords(t *testing.T) {
	wantRecord(t, "a boot", impl.Record{}, []byte{0})
	wantRecord(t, "a make here", impl.Record{Kind: impl.RcLocal, Client: 3, Req: 300, Op: makeOp(dirAt(1, 9), "m", dirAt(1, 0)), Fresh: dirAt(1, 128), Reply: impl.Reply{H: dirAt(1, 128)}},
		[]byte{1, 3, 172, 2, 4, 1, 9, 1, 1, 'm', 1, 0, 1, 0, 0, 1, 128, 1, 1, 0, 1, 128, 1, 1, 0, 0})
	wantRecord(t, "a write here", impl.Record{Kind: impl.RcLocal, Req: 1, Op: writeOp(fileAt(2, 9), 130), Reply: impl.Reply{Code: impl.RpStale}},
		[]byte{1, 0, 1, 3, 2, 9, 0, 0, 0, 0, 0, 0, 130, 1, 0, 0, 0, 1, 0, 0, 0, 0, 0})
	wantRecord(t, "an intent to enter", impl.Record{Kind: impl.RcIntent, Tx: impl.Tx{Shard: 2, Boot: 3, N: 200}, Part: enterPart(dirAt(3, 2), "xyz", fileAt(2, 5)), Code: impl.RpBusy},
		[]byte{2, 2, 3, 200, 1, 3, 3, 2, 1, 3, 'x', 'y', 'z', 2, 5, 0, 10, 0, 0, 0})
	wantRecord(t, "an intent to make", impl.Record{Kind: impl.RcIntent, Tx: impl.Tx{Shard: 1, Boot: 128, N: 3}, Part: makePart(dirAt(2, 1), dirAt(1, 7)), Fresh: dirAt(2, 6)},
		[]byte{2, 1, 128, 1, 3, 2, 2, 0, 1, 0, 1, 7, 1, 0, 2, 6, 1})
	wantRecord(t, "a decision", impl.Record{Kind: impl.RcDecide, Tx: impl.Tx{Shard: 1, Boot: 4, N: 5}, Code: 1, Client: 2, Req: 6, Op: moveOp(dirAt(1, 5), "g", dirAt(2, 7), "hi"), Reply: impl.Reply{Code: impl.RpDeep, H: fileAt(3, 8), Val: 200}},
		[]byte{3, 1, 4, 5, 1, 2, 6, 7, 1, 5, 1, 1, 'g', 2, 7, 1, 2, 'h', 'i', 0, 9, 3, 8, 0, 200, 1, 0})
	wantRecord(t, "a verdict", impl.Record{Kind: impl.RcTold, Tx: impl.Tx{Shard: 3, Boot: 1, N: impl.MaxNum}, Code: 1}, []byte{4, 3, 1, 255, 255, 255, 255, 7, 1})
	wantRecord(t, "a verdict of nothing", impl.Record{Kind: impl.RcTold}, []byte{4, 0, 0, 0, 0})
}

func TestRecordsComeBack(t *testing.T) {
	met := map[string]bool{}
	for i, r := range allRecords() {
		wantRecord(t, fmt.Sprintf("record %d", i), r, recordForm(r))
		met[fmt.Sprint("kind ", r.Kind)] = true
		switch r.Kind {
		case impl.RcLocal, impl.RcDecide:
			met[fmt.Sprint(r.Kind, " op ", r.Op.Kind)] = true
			met[fmt.Sprint(r.Kind, " reply ", r.Reply.Code)] = true
		case impl.RcIntent:
			met[fmt.Sprint("part ", r.Part.Kind)] = true
			met[fmt.Sprint("code ", r.Code)] = true
		}
	}
	if len(met) != 5+2*8+2*12+6+12 {
		t.Error("something is not among the records:", met)
	}
}

// The greatest of each kind, all told, and that there is one of just so many bytes.
func TestRecordsAreShort(t *testing.T) {
	longest := map[int]int{}
	for _, r := range longRecords() {
		b, ok := impl.RecordBytes(r)
		if !ok || len(b) > impl.MaxRecord {
			t.Fatalf("%v has %d bytes, %t", r, len(b), ok)
		}
		longest[r.Kind] = max(longest[r.Kind], len(b))
	}
	if longest[impl.RcBoot] != 1 || longest[impl.RcLocal] != 58 || longest[impl.RcIntent] != 42 || longest[impl.RcDecide] != 63 || longest[impl.RcTold] != 13 {
		t.Error(longest)
	}
	if impl.MaxRecord != 200 {
		t.Error(impl.MaxRecord)
	}
}

func TestKindsOfRecords(t *testing.T) {
	for kind, ok := range around(impl.RcTold) {
		if !ok {
			wantNoRecord(t, "a kind alone", impl.Record{Kind: kind})
			for _, r := range allRecords() {
				r.Kind = kind
				wantNoRecord(t, "a wrong kind", r)
			}
		}
	}
	for kind := range recordOfEach() {
		// With nothing but zeros these two are records; the others want a handle or a name.
		wantRecordOk(t, "a kind alone", impl.Record{Kind: kind}, kind == impl.RcBoot || kind == impl.RcTold)
	}
}

func TestClientsOfRecords(t *testing.T) {
	for kind, r := range recordOfEach() {
		for client, ok := range around(impl.MaxClients - 1) {
			r.Client = client
			if !slices.Contains(recordFields[kind], "Client") {
				ok = client == 0
			}
			wantRecordOk(t, fmt.Sprintf("kind %d, Client %d", kind, client), r, ok)
		}
	}
}

func TestReqOfRecords(t *testing.T) {
	for kind, r := range recordOfEach() {
		for req, ok := range aroundNumber() {
			r.Req = req
			if !slices.Contains(recordFields[kind], "Req") {
				ok = req == 0
			}
			wantRecordOk(t, fmt.Sprintf("kind %d, Req %d", kind, req), r, ok)
		}
	}
}

func TestCodesOfRecords(t *testing.T) {
	last := map[int]int{impl.RcIntent: impl.RpBad, impl.RcDecide: 1, impl.RcTold: 1}
	for kind, r := range recordOfEach() {
		for code := range around(impl.RpBad) {
			r.Code = code
			wantRecordOk(t, fmt.Sprintf("kind %d, Code %d", kind, code), r, 0 <= code && code <= last[kind])
		}
	}
}

func TestFreshOfRecords(t *testing.T) {
	want := []string{"none", impl.RcLocal: "none or node", impl.RcIntent: "none or node", impl.RcDecide: "none", impl.RcTold: "none"}
	for kind, r := range recordOfEach() {
		for _, h := range aroundHandle() {
			r.Fresh = h
			wantRecordOk(t, fmt.Sprintf("kind %d, Fresh %v", kind, h), r, fits(want[kind], h))
		}
	}
}

func TestTxOfRecords(t *testing.T) {
	for kind, r := range recordOfEach() {
		for shard, shardOk := range around(impl.MaxShards - 1) {
			for boot, bootOk := range aroundNumber() {
				for n, nOk := range aroundNumber() {
					r.Tx = impl.Tx{Shard: shard, Boot: boot, N: n}
					ok := shardOk && bootOk && nOk
					if !slices.Contains(recordFields[kind], "Tx") {
						ok = r.Tx == impl.Tx{}
					}
					wantRecordOk(t, fmt.Sprintf("kind %d, %v", kind, r.Tx), r, ok)
				}
			}
		}
	}
}

// Parts, operations and replies are asked about by themselves; here it is that a record hangs on the answer.
func TestPartsOfRecords(t *testing.T) {
	intent := recordOfEach()[impl.RcIntent]
	handles := []impl.Handle{zeroH, {Dir: true}, {Shard: 3}, dirA, fileK, lastDir, fileAt(0, impl.MaxNum+1), dirAt(impl.MaxShards, 1)}
	met := map[bool]int{}
	for kind := impl.PaUnlink - 1; kind <= impl.PaGate+1; kind++ {
		for _, h := range handles {
			for _, to := range handles {
				for _, as := range []string{"", "a", "zzzzzz", "zzzzzzz", "A"} {
					intent.Part = impl.Part{Kind: kind, H: h, As: []byte(as), To: to}
					ok := impl.PartOk(intent.Part)
					met[ok]++
					wantRecordOk(t, "a part", intent, ok)
				}
			}
		}
	}
	if met[true] < 20 || met[false] < 500 {
		t.Error(met)
	}
	intent.Part = impl.Part{}
	wantNoRecord(t, "no part", intent)
}

func TestOperationsOfRecords(t *testing.T) {
	for _, kind := range []int{impl.RcLocal, impl.RcDecide} {
		r := recordOfEach()[kind]
		with := func(change func(op *impl.Op), op impl.Op) impl.Record {
			other := r
			other.Op = op
			change(&other.Op)
			return other
		}
		want := func(what string, other impl.Record) {
			t.Helper()
			wantRecordOk(t, what, other, impl.OpOk(other.Op))
		}
		for _, op := range allOps() {
			for of := impl.OpLook - 1; of <= impl.OpMove+1; of++ {
				want("another kind", with(func(o *impl.Op) { o.Kind = of }, op))
			}
			for name := range namesOk {
				want("another Name", with(func(o *impl.Op) { o.Name = []byte(name) }, op))
				want("another As", with(func(o *impl.Op) { o.As = []byte(name) }, op))
			}
			for _, h := range aroundHandle() {
				want("another Dir", with(func(o *impl.Op) { o.Dir = h }, op))
				want("another To", with(func(o *impl.Op) { o.To = h }, op))
			}
			for val := range aroundNumber() {
				want("another Val", with(func(o *impl.Op) { o.Val = val }, op))
			}
		}
		r.Op = impl.Op{}
		wantNoRecord(t, "no operation", r)
	}
}

func TestRepliesOfRecords(t *testing.T) {
	for _, kind := range []int{impl.RcLocal, impl.RcDecide} {
		r := recordOfEach()[kind]
		for code, codeOk := range around(impl.RpBad) {
			for val, valOk := range aroundNumber() {
				for _, h := range aroundHandle() {
					r.Reply = impl.Reply{Code: code, H: h, Val: val}
					wantRecordOk(t, "a reply", r, codeOk && valOk && fits("none or node", h))
				}
			}
		}
		for _, reply := range allReplies() {
			r.Reply = reply
			wantRecordOk(t, "a reply", r, len(reply.List) == 0)
		}
		for count := 1; count <= impl.MaxEntries+1; count++ {
			r.Reply = impl.Reply{List: slices.Repeat([]impl.Entry{entry("ab", dirC)}, count)}
			wantNoRecord(t, "a reply with a list", r)
		}
	}
}

// recordChanges: for each field of a record, changes by each of which it is not zero.
func recordChanges() map[string][]func(r *impl.Record) {
	out := map[string][]func(r *impl.Record){}
	for field, changes := range somethings() {
		for _, change := range changes {
			var m impl.Msg
			change(&m)
			put := func(name string, set func(r *impl.Record)) { out[name] = append(out[name], set) }
			switch field {
			case "Req":
				put("Req", func(r *impl.Record) { r.Req = m.Req })
				put("Client", func(r *impl.Record) { r.Client = m.Req })
			case "Op":
				put("Op", func(r *impl.Record) { r.Op = m.Op })
			case "H":
				put("Fresh", func(r *impl.Record) { r.Fresh = m.H })
			case "Reply":
				put("Reply", func(r *impl.Record) { r.Reply = m.Reply })
			case "Tx":
				put("Tx", func(r *impl.Record) { r.Tx = m.Tx })
			case "Part":
				put("Part", func(r *impl.Record) { r.Part = m.Part })
			case "Code":
				put("Code", func(r *impl.Record) { r.Code = m.Code })
			}
		}
	}
	return out
}

func TestWhatAKindOfRecordHasNotIsZero(t *testing.T) {
	all := recordChanges()
	if len(all) != 8 {
		t.Fatal(len(all))
	}
	for kind, whole := range recordOfEach() {
		for _, r := range []impl.Record{whole, {Kind: kind}} {
			for field, changes := range all {
				if slices.Contains(recordFields[kind], field) {
					continue
				}
				for i, change := range changes {
					other := r
					change(&other)
					wantNoRecord(t, fmt.Sprintf("kind %d with a %s (%d)", kind, field, i), other)
				}
			}
		}
	}
}

func TestAnEmptyListOfARecordIsNone(t *testing.T) {
	for _, r := range allRecords() {
		form := recordForm(r)
		for _, list := range []*[]byte{&r.Op.Name, &r.Op.As, &r.Part.As} {
			if len(*list) == 0 {
				*list = []byte{}
			}
		}
		r.Reply.List = []impl.Entry{}
		wantRecord(t, "with empty lists", r, form)
	}
}
