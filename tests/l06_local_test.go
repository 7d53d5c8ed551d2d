package tests

import (
	"fmt"
	"testing"

	"loop.example/g00341/impl"
)

// The Fresh of these cases, if it is taken, makes Next 21: so it shows whether the operation counts as done, where the nodes stay as they are.
const freshIno = 20

// wantLocal: an operation that is done changes the sample so, beside the last of its client and Next; one that is not leaves Next alone.
func (h homes) wantLocal(t *testing.T, what string, op impl.Op, is bool, change func(s *impl.Shard)) {
	t.Helper()
	for _, fresh := range []impl.Handle{fileAt(h.id, freshIno), zeroH, dirAt(h.id, 14), dirAt(h.far, freshIno)} {
		if op.Kind == impl.OpMake && fresh != fileAt(h.id, freshIno) {
			continue
		}
		h.wantMore(t, fmt.Sprintf("%s, Fresh %v", what, fresh), []impl.Record{localOf(op, fresh)}, func(s *impl.Shard) {
			s.Lasts = []impl.Last{{Client: 2, Req: 5}}
			if is && fresh == fileAt(h.id, freshIno) {
				s.Next = freshIno + 1
			}
			change(s)
		})
	}
	for code := impl.RpStale; code <= impl.RpBad; code++ {
		r := localOf(op, fileAt(h.id, freshIno))
		r.Reply.Code = code
		h.wantMore(t, fmt.Sprintf("%s, code %d", what, code), []impl.Record{r}, func(s *impl.Shard) {
			s.Lasts = []impl.Last{{Client: 2, Req: 5, Reply: impl.Reply{Code: code}}}
		})
	}
}

func (h homes) wantDone(t *testing.T, what string, op impl.Op, change func(s *impl.Shard)) {
	t.Helper()
	h.wantLocal(t, what, op, true, change)
}

// wantRefused: it lies here and is not void, but chapter 4 refuses it: Fresh is taken.
func (h homes) wantRefused(t *testing.T, what string, op impl.Op) {
	t.Helper()
	h.wantLocal(t, what, op, true, func(*impl.Shard) {})
}

// wantLeft: it does not lie here, or is void: nothing is taken.
func (h homes) wantLeft(t *testing.T, what string, op impl.Op) {
	t.Helper()
	h.wantLocal(t, what, op, false, func(*impl.Shard) {})
}

// noDirs: what is no directory here: no node of this shard or of another one, or a file's.
func (h homes) noDirs() []impl.Handle {
	return []impl.Handle{dirAt(h.id, 99), turned(h.f), h.goneDir, h.farD, dirAt(h.far, 10), h.f, h.gone, h.farF, turned(h.d)}
}

func TestLocalLooksAndReads(t *testing.T) {
	onEachShard(func(h homes) {
		for _, at := range append(h.noDirs(), h.d, h.e, h.g) {
			h.wantRefused(t, "look", lookOp(at, "f"))
			h.wantRefused(t, "look for none", lookOp(at, "zz"))
			h.wantRefused(t, "list", listOp(at))
			h.wantRefused(t, "read", readOp(at))
		}
	})
}

func TestLocalWrites(t *testing.T) {
	onEachShard(func(h homes) {
		for _, val := range []int{0, 7, impl.MaxNum} {
			h.wantDone(t, "write", writeOp(h.f, val), func(s *impl.Shard) { nodeOf(s, h.f).Val = val })
		}
		for _, at := range []impl.Handle{h.d, h.gone, h.farF, h.farD, turned(h.f), turned(h.d), fileAt(h.far, 12)} {
			h.wantRefused(t, "write to no file here", writeOp(at, 7))
		}
	})
}

func TestLocalMakes(t *testing.T) {
	onEachShard(func(h homes) {
		fresh := fileAt(h.id, freshIno)
		h.wantDone(t, "a file", makeOp(h.d, "m", fresh), func(s *impl.Shard) {
			addNode(s, impl.Node{H: fresh, Links: 1})
			addEntry(s, h.d, "m", fresh)
		})
		h.wantRefused(t, "over an entry", makeOp(h.d, "f", fresh))
		h.wantRefused(t, "no room", makeOp(h.w, "m", fresh))
		h.wantLeft(t, "on another shard", makeOp(h.d, "m", fileAt(h.far, 1)))
		h.wantLeft(t, "over an entry, on another shard", makeOp(h.d, "f", fileAt(h.far, 1)))
		h.wantLeft(t, "of another kind than Fresh", makeOp(h.d, "m", dirAt(h.id, 1)))
		for _, at := range h.noDirs() {
			h.wantRefused(t, "in no directory here", makeOp(at, "m", fresh))
			h.wantRefused(t, "in no directory here, on another shard", makeOp(at, "m", fileAt(h.far, 1)))
			h.wantLeft(t, "in no directory here, of another kind than Fresh", makeOp(at, "m", dirAt(h.id, 1)))
		}
	})
}

// What OpMake makes of each Fresh, its To asking for the kind of Fresh.
func TestLocalMakesWithEachFresh(t *testing.T) {
	onEachShard(func(h homes) {
		want := func(what string, fresh impl.Handle, change func(s *impl.Shard)) {
			t.Helper()
			op := makeOp(h.d, "m", impl.Handle{Shard: h.id, Dir: fresh.Dir})
			h.wantMore(t, what, []impl.Record{localOf(op, fresh)}, func(s *impl.Shard) {
				s.Lasts = []impl.Last{{Client: 2, Req: 5}}
				change(s)
			})
		}
		for _, ino := range []int{15, 16, 1000, impl.MaxNum - 1} {
			for _, fresh := range []impl.Handle{fileAt(h.id, ino), dirAt(h.id, ino)} {
				want("at Next and above it", fresh, func(s *impl.Shard) {
					n := impl.Node{H: fresh, Links: 1}
					if fresh.Dir {
						n.Parent = h.d
					}
					addNode(s, n)
					addEntry(s, h.d, "m", fresh)
					s.Next = ino + 1
				})
			}
		}
		for _, fresh := range []impl.Handle{fileAt(h.id, 14), dirAt(h.id, 14), fileAt(h.id, 5), dirAt(h.id, 2), fileAt(h.id, 1), h.f, h.d, zeroH, fileAt(h.far, 15), dirAt(h.far, 15), fileAt(h.far, 1000), dirAt(h.far, impl.MaxNum)} {
			want("void", fresh, func(*impl.Shard) {})
		}
	})
}

// A shard has room for as many nodes as the whole tree may have.
func TestLocalMakesWithManyNodes(t *testing.T) {
	for id := range impl.MaxShards {
		for _, count := range []int{mostNodes - 2, mostNodes - 1, mostNodes, mostNodes + 1} {
			var l []impl.Record
			first := 2
			if id == 0 {
				count--
			}
			for i := range count {
				h := dirAt(id, first+i)
				l = append(l, intentOf(txAt(0), makePart(h, dirA), impl.RpWell, h))
			}
			l = append(l, toldOf(txAt(0), 1))
			ahead := replayed(t, "many nodes", id, l)
			fresh := fileAt(id, first+count)
			got := replayed(t, "one more", id, append(l, localOf(makeOp(dirAt(id, first), "m", fresh), fresh)))
			made := nodeOf(&got, fresh) != nil
			if made != (len(ahead.Nodes) < mostNodes) || len(got.Nodes) > max(mostNodes, len(ahead.Nodes)) {
				t.Errorf("shard %d with %d nodes makes one more: %t", id, len(ahead.Nodes), made)
			}
			if got.Next != fresh.Ino+1 {
				t.Errorf("shard %d: Next %d; want %d, whether or not it is made", id, got.Next, fresh.Ino+1)
			}
		}
	}
}

func TestLocalLinks(t *testing.T) {
	onEachShard(func(h homes) {
		h.wantDone(t, "to a file here", linkOp(h.d, "l", h.f), func(s *impl.Shard) {
			addEntry(s, h.d, "l", h.f)
			nodeOf(s, h.f).Links = 2
		})
		h.wantDone(t, "from another directory", linkOp(h.e, "f", h.g), func(s *impl.Shard) {
			addEntry(s, h.e, "f", h.g)
			nodeOf(s, h.g).Links = 2
		})
		h.wantRefused(t, "over an entry", linkOp(h.d, "g", h.f))
		h.wantRefused(t, "no room", linkOp(h.w, "l", h.f))
		h.wantRefused(t, "to a file that is gone", linkOp(h.d, "l", h.gone))
		h.wantRefused(t, "to a directory here", linkOp(h.d, "l", h.e))
		h.wantRefused(t, "to a directory elsewhere", linkOp(h.d, "l", h.farD))
		h.wantRefused(t, "to what is a directory here", linkOp(h.d, "l", turned(h.e)))
		h.wantLeft(t, "to a file elsewhere", linkOp(h.d, "l", h.farF))
		h.wantLeft(t, "to a file elsewhere, over an entry", linkOp(h.d, "f", h.farF))
		h.wantLeft(t, "to a file elsewhere, no room", linkOp(h.w, "l", h.farF))
		for _, at := range h.noDirs() {
			h.wantRefused(t, "in no directory here", linkOp(at, "l", h.f))
			h.wantRefused(t, "in no directory here, to a file elsewhere", linkOp(at, "l", h.farF))
		}
	})
}

func TestLocalDrops(t *testing.T) {
	onEachShard(func(h homes) {
		h.wantDone(t, "a file", dropOp(h.d, "f"), func(s *impl.Shard) {
			removeEntry(s, h.d, "f")
			removeNode(s, h.f)
		})
		h.wantDone(t, "an empty directory", dropOp(h.d, "e"), func(s *impl.Shard) {
			removeEntry(s, h.d, "e")
			removeNode(s, h.e)
		})
		h.wantRefused(t, "no entry", dropOp(h.d, "zz"))
		h.wantRefused(t, "no entry in an empty directory", dropOp(h.e, "f"))
		h.wantLeft(t, "a file elsewhere", dropOp(h.d, "ff"))
		h.wantLeft(t, "a directory elsewhere", dropOp(h.d, "fd"))
		h.wantLeft(t, "a file that is gone", dropOp(h.d, "no"))
		h.wantLeft(t, "a directory that is gone", dropOp(h.d, "nd"))
		for _, at := range h.noDirs() {
			h.wantRefused(t, "in no directory here", dropOp(at, "f"))
		}
	})
}

func TestLocalDropsOfLinksAndOfWhatIsNotEmpty(t *testing.T) {
	onEachShard(func(h homes) {
		lasts := []impl.Last{{Client: 2, Req: 5}}
		linked := []impl.Record{localOf(linkOp(h.e, "l", h.f), zeroH)}
		h.wantMore(t, "one of two links", append(linked, localOf(dropOp(h.d, "f"), zeroH)), func(s *impl.Shard) {
			removeEntry(s, h.d, "f")
			addEntry(s, h.e, "l", h.f)
			s.Lasts = lasts
		})
		h.wantMore(t, "both links", append(linked, localOf(dropOp(h.d, "f"), zeroH), localOf(dropOp(h.e, "l"), zeroH)), func(s *impl.Shard) {
			removeEntry(s, h.d, "f")
			removeNode(s, h.f)
			s.Lasts = lasts
		})
		h.wantMore(t, "a directory with entries", append(linked, localOf(dropOp(h.d, "e"), fileAt(h.id, freshIno))), func(s *impl.Shard) {
			addEntry(s, h.e, "l", h.f)
			nodeOf(s, h.f).Links = 2
			s.Lasts, s.Next = lasts, freshIno+1
		})
		again := []impl.Record{localOf(dropOp(h.d, "f"), zeroH), localOf(dropOp(h.d, "f"), fileAt(h.id, freshIno))}
		h.wantMore(t, "twice", again, func(s *impl.Shard) {
			removeEntry(s, h.d, "f")
			removeNode(s, h.f)
			s.Lasts, s.Next = lasts, freshIno+1
		})
	})
}

func TestLocalMovesWithinADirectory(t *testing.T) {
	onEachShard(func(h homes) {
		for _, e := range h.inD() {
			h.wantDone(t, "another name for "+string(e.Name), moveOp(h.d, string(e.Name), h.d, "x"), func(s *impl.Shard) {
				removeEntry(s, h.d, string(e.Name))
				addEntry(s, h.d, "x", e.H)
			})
			h.wantRefused(t, "its own name", moveOp(h.d, string(e.Name), h.d, string(e.Name)))
		}
		h.wantRefused(t, "over an entry", moveOp(h.d, "f", h.d, "g"))
		h.wantRefused(t, "no entry", moveOp(h.d, "zz", h.d, "x"))
		h.wantDone(t, "in a full directory", moveOp(h.w, "waa", h.w, "a"), func(s *impl.Shard) {
			removeEntry(s, h.w, "waa")
			addEntry(s, h.w, "a", h.farF)
		})
		elsewhere := []impl.Record{intentOf(txAt(1), parentPart(h.e, h.farD), impl.RpWell, zeroH), toldOf(txAt(1), 1), localOf(moveOp(h.d, "e", h.d, "x"), zeroH)}
		h.wantMore(t, "a directory with another Parent", elsewhere, func(s *impl.Shard) {
			removeEntry(s, h.d, "e")
			addEntry(s, h.d, "x", h.e)
			s.Lasts, s.Done = []impl.Last{{Client: 2, Req: 5}}, append(s.Done, txAt(1))
		})
	})
}

func TestLocalMovesToAnotherDirectory(t *testing.T) {
	onEachShard(func(h homes) {
		for _, e := range h.inD() {
			name := string(e.Name)
			if e.H.Dir {
				h.wantLeft(t, "a directory", moveOp(h.d, name, h.w, "x"))
				h.wantLeft(t, "a directory into itself", moveOp(h.d, name, h.e, "x"))
				h.wantLeft(t, "a directory into what is gone", moveOp(h.d, name, dirAt(h.id, 99), "x"))
			} else {
				h.wantDone(t, "a file", moveOp(h.d, name, h.e, "x"), func(s *impl.Shard) {
					removeEntry(s, h.d, name)
					addEntry(s, h.e, "x", e.H)
				})
				h.wantRefused(t, "into what is gone", moveOp(h.d, name, dirAt(h.id, 99), "x"))
				h.wantRefused(t, "into what is a file here", moveOp(h.d, name, turned(h.g), "x"))
				h.wantRefused(t, "no room", moveOp(h.d, name, h.w, "x"))
				h.wantRefused(t, "over an entry", moveOp(h.d, name, h.w, "waa"))
			}
			h.wantLeft(t, "to another shard", moveOp(h.d, name, h.farD, "x"))
			h.wantLeft(t, "to this Ino of another shard", moveOp(h.d, name, dirAt(h.far, 10), "x"))
			for _, to := range []impl.Handle{h.f, h.gone, h.farF, turned(h.d)} {
				h.wantRefused(t, "into a file", moveOp(h.d, name, to, "x"))
			}
		}
		for _, to := range []impl.Handle{h.e, h.w, h.farD, h.f, h.farF, dirAt(h.id, 99)} {
			h.wantRefused(t, "no entry", moveOp(h.d, "zz", to, "x"))
			for _, at := range h.noDirs() {
				h.wantRefused(t, "in no directory here", moveOp(at, "f", to, "x"))
			}
		}
	})
}

// Operations that the whole tree refuses are refused here; what they are told does not count.
func TestLocalOperationsOneBehindTheOther(t *testing.T) {
	file := fileAt(0, 3)
	dir := dirAt(0, 2)
	l := []impl.Record{
		localOf(makeOp(rootDir, "a", dir), dir),
		localOf(makeOp(dir, "f", file), file),
		localOf(writeOp(file, 9), zeroH),
		localOf(linkOp(rootDir, "l", file), zeroH),
		localOf(moveOp(dir, "f", rootDir, "g"), zeroH),
		localOf(dropOp(rootDir, "l"), zeroH),
		localOf(dropOp(rootDir, "a"), zeroH),
	}
	node := func(h impl.Handle, links, val int, entries ...impl.Entry) impl.Node {
		n := impl.Node{H: h, Links: links, Val: val, Entries: entries}
		if h.Dir {
			n.Parent = rootDir
		}
		return n
	}
	for i, want := range [][]impl.Node{
		{node(rootDir, 1, 0)},
		{node(rootDir, 1, 0, entry("a", dir)), node(dir, 1, 0)},
		{node(rootDir, 1, 0, entry("a", dir)), node(dir, 1, 0, entry("f", file)), node(file, 1, 0)},
		{node(rootDir, 1, 0, entry("a", dir)), node(dir, 1, 0, entry("f", file)), node(file, 1, 9)},
		{node(rootDir, 1, 0, entry("a", dir), entry("l", file)), node(dir, 1, 0, entry("f", file)), node(file, 2, 9)},
		{node(rootDir, 1, 0, entry("a", dir), entry("g", file), entry("l", file)), node(dir, 1, 0), node(file, 2, 9)},
		{node(rootDir, 1, 0, entry("a", dir), entry("g", file)), node(dir, 1, 0), node(file, 1, 9)},
		{node(rootDir, 1, 0, entry("g", file)), node(file, 1, 9)},
	} {
		s := impl.Shard{Id: 0, Next: min(i, 2) + 2, Nodes: want}
		if i > 0 {
			s.Lasts = []impl.Last{{Client: 2, Req: 5}}
		}
		wantShard(t, fmt.Sprintf("%d records", i), 0, l[:i], s)
		if !impl.TreeOk(impl.Tree{Nodes: want}) {
			t.Errorf("%d records: no tree: %v", i, want)
		}
	}
}
