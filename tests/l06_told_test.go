package tests

import (
	"fmt"
	"testing"

	"loop.example/g00341/impl"
)

func intent(x impl.Tx, p impl.Part, code int, h impl.Handle) impl.Intent {
	return impl.Intent{Tx: x, Part: p, Code: code, Fresh: h}
}

// An Intent is kept as it is, and its Fresh is taken, whatever its part and its code are.
func TestIntentsWait(t *testing.T) {
	onEachShard(func(h homes) {
		for _, p := range append(allParts(), unlinkPart(h.f), relinkPart(h.f), enterPart(h.d, "x", h.f), parentPart(h.e, h.w)) {
			for code := impl.RpWell; code <= impl.RpBad; code++ {
				fresh := impl.Handle{Shard: h.id, Ino: freshIno + code, Dir: code%2 == 0}
				h.wantMore(t, "an intent", []impl.Record{intentOf(someTx, p, code, fresh)}, func(s *impl.Shard) {
					s.Intents = []impl.Intent{intent(someTx, p, code, fresh)}
					s.Next = freshIno + code + 1
				})
			}
		}
		same := intentOf(txAt(1), relinkPart(h.f), impl.RpWell, zeroH)
		h.wantMore(t, "the same one twice", []impl.Record{same, same}, func(s *impl.Shard) {
			s.Intents = []impl.Intent{intent(txAt(1), relinkPart(h.f), impl.RpWell, zeroH), intent(txAt(1), relinkPart(h.f), impl.RpWell, zeroH)}
		})
	})
}

func TestWhatIsTaken(t *testing.T) {
	onEachShard(func(h homes) {
		for _, c := range []struct {
			fresh impl.Handle
			next  int
		}{
			{zeroH, 15}, {fileAt(h.id, 1), 15}, {dirAt(h.id, 2), 15}, {fileAt(h.id, 14), 15},
			{fileAt(h.id, 15), 16}, {dirAt(h.id, 15), 16}, {fileAt(h.id, 16), 17}, {dirAt(h.id, 5000), 5001},
			{fileAt(h.id, impl.MaxNum-2), impl.MaxNum - 1}, {dirAt(h.id, impl.MaxNum-1), impl.MaxNum}, {fileAt(h.id, impl.MaxNum), 15}, {dirAt(h.id, impl.MaxNum), 15},
			{fileAt(h.far, 15), 15}, {dirAt(h.far, 16), 15}, {fileAt(h.far, impl.MaxNum-1), 15}, {fileAt(h.far, 1), 15},
		} {
			h.wantMore(t, fmt.Sprintf("an intent with Fresh %v", c.fresh), []impl.Record{intentOf(txAt(1), impl.Part{Kind: impl.PaGate}, impl.RpWell, c.fresh)}, func(s *impl.Shard) {
				s.Intents = []impl.Intent{intent(txAt(1), impl.Part{Kind: impl.PaGate}, impl.RpWell, c.fresh)}
				s.Next = c.next
			})
			h.wantMore(t, fmt.Sprintf("a list with Fresh %v", c.fresh), []impl.Record{localOf(listOp(h.d), c.fresh)}, func(s *impl.Shard) {
				s.Lasts = []impl.Last{{Client: 2, Req: 5}}
				s.Next = c.next
			})
		}
		all := []impl.Record{localOf(listOp(h.d), fileAt(h.id, impl.MaxNum-1)), localOf(listOp(h.d), fileAt(h.id, impl.MaxNum)), localOf(listOp(h.d), fileAt(h.id, 15)), localOf(makeOp(h.d, "m", h.f), fileAt(h.id, impl.MaxNum-1))}
		h.wantMore(t, "nothing behind the last number", all, func(s *impl.Shard) {
			s.Lasts = []impl.Last{{Client: 2, Req: 5}}
			s.Next = impl.MaxNum
		})
	})
}

// By the chapter's words MaxNum is never taken and yet is no void number: a node may have it, at Next or above it, where all others lie below.
func TestNodesOfTheLastNumber(t *testing.T) {
	onEachShard(func(h homes) {
		last := fileAt(h.id, impl.MaxNum)
		for what, more := range map[string][]impl.Record{
			"a make here":       {localOf(makeOp(h.d, "m", last), last)},
			"a transaction's":   {intentOf(txAt(1), makePart(last, h.d), impl.RpWell, last), toldOf(txAt(1), 1)},
			"behind all":        {localOf(makeOp(h.d, "l", last), fileAt(h.id, impl.MaxNum-1)), localOf(makeOp(h.d, "m", last), last)},
			"and none after it": {localOf(makeOp(h.d, "m", last), last), localOf(makeOp(h.d, "n", dirAt(h.id, 0)), turned(last)), localOf(makeOp(h.d, "n", last), last)},
		} {
			s, ok := impl.Replay(h.id, append(h.records(), more...))
			if n := s.Nodes[len(s.Nodes)-1]; !ok || n.H != last || n.Links != 1 {
				t.Errorf("%s: %v, %t", what, s, ok)
			}
			if want := map[bool]int{false: 15, true: impl.MaxNum}[what == "behind all"]; s.Next != want {
				t.Errorf("%s: Next %d; want %d", what, s.Next, want)
			}
			removeNode(&s, last)
			if !ownNumbers(s) {
				t.Errorf("%s: %v", what, s)
			}
		}
	})
}

// wantToldPart: the part, by a verdict Code 1 of an Intent of RpWell, changes the sample so; by any other it changes nothing.
func (h homes) wantToldPart(t *testing.T, what string, p impl.Part, fresh impl.Handle, change func(s *impl.Shard)) {
	t.Helper()
	next := 15
	if fresh.Shard == h.id && fresh.Ino >= 15 {
		next = fresh.Ino + 1
	}
	for code := impl.RpWell; code <= impl.RpBad; code++ {
		for verdict := range 2 {
			l := []impl.Record{intentOf(txAt(1), p, code, fresh), toldOf(txAt(1), verdict)}
			h.wantMore(t, fmt.Sprintf("%s, code %d, verdict %d", what, code, verdict), l, func(s *impl.Shard) {
				s.Done, s.Next = append(s.Done, txAt(1)), next
				if code == impl.RpWell && verdict == 1 {
					change(s)
				}
			})
			l[1] = decideOf(txAt(1), verdict, listOp(h.d), zeroH)
			h.wantMore(t, fmt.Sprintf("%s, code %d, decided %d", what, code, verdict), l, func(s *impl.Shard) {
				s.Done, s.Next = append(s.Done, txAt(1)), next
				s.Lasts, s.Decided = []impl.Last{{Client: 2, Req: 5}}, []impl.Verdict{{Tx: txAt(1), Ok: verdict == 1}}
				if code == impl.RpWell && verdict == 1 {
					change(s)
				}
			})
		}
	}
}

func nothing(*impl.Shard) {}

func TestPartsThatUnlinkAndRelink(t *testing.T) {
	onEachShard(func(h homes) {
		for _, n := range []impl.Handle{h.f, h.g, h.e, h.d, h.w} {
			h.wantToldPart(t, "unlink", unlinkPart(n), zeroH, func(s *impl.Shard) { removeNode(s, n) })
		}
		for _, n := range []impl.Handle{h.f, h.g} {
			h.wantToldPart(t, "relink", relinkPart(n), zeroH, func(s *impl.Shard) { nodeOf(s, n).Links = 2 })
		}
		for _, n := range []impl.Handle{h.gone, h.goneDir, h.farF, h.farD, turned(h.f), turned(h.d), fileAt(h.far, 12), dirAt(h.far, 10)} {
			h.wantToldPart(t, "unlink what is not here", unlinkPart(n), zeroH, nothing)
			if !n.Dir {
				h.wantToldPart(t, "relink what is not here", relinkPart(n), zeroH, nothing)
			}
		}
		var l []impl.Record
		for links := 1; links <= 5; links++ {
			h.wantMore(t, fmt.Sprintf("%d links, and one less", links), append(l[:len(l):len(l)], intentOf(txAt(8), unlinkPart(h.f), impl.RpWell, zeroH), toldOf(txAt(8), 1)), func(s *impl.Shard) {
				nodeOf(s, h.f).Links = links - 1
				if links == 1 {
					removeNode(s, h.f)
				}
				for i := 1; i < links; i++ {
					s.Done = append(s.Done, txAt(i))
				}
				s.Done = append(s.Done, txAt(8))
			})
			l = append(l, intentOf(txAt(links), relinkPart(h.f), impl.RpWell, zeroH), toldOf(txAt(links), 1))
		}
		down := []impl.Record{intentOf(txAt(1), unlinkPart(h.f), impl.RpWell, zeroH), intentOf(txAt(1), unlinkPart(h.f), impl.RpWell, zeroH), intentOf(txAt(1), relinkPart(h.f), impl.RpWell, zeroH), toldOf(txAt(1), 1)}
		h.wantMore(t, "what is gone stays gone", down, func(s *impl.Shard) {
			removeNode(s, h.f)
			s.Done = append(s.Done, txAt(1))
		})
	})
	down := []impl.Record{intentOf(txAt(1), unlinkPart(rootDir), impl.RpWell, zeroH), toldOf(txAt(1), 1)}
	wantShard(t, "the root, too", 0, down, impl.Shard{Next: 2, Done: []impl.Tx{txAt(1)}})
}

func TestPartsThatEnter(t *testing.T) {
	onEachShard(func(h homes) {
		for _, to := range []impl.Handle{h.f, h.e, h.gone, h.goneDir, h.farF, h.farD, h.d, lastFile, rootDir} {
			for _, as := range []string{"a", "ee", "zzzzzz"} {
				h.wantToldPart(t, "enter", enterPart(h.d, as, to), zeroH, func(s *impl.Shard) { addEntry(s, h.d, as, to) })
			}
			h.wantToldPart(t, "enter the first one", enterPart(h.e, "a", to), zeroH, func(s *impl.Shard) { addEntry(s, h.e, "a", to) })
			h.wantToldPart(t, "enter over an entry", enterPart(h.d, "f", to), zeroH, nothing)
			h.wantToldPart(t, "enter where no room is", enterPart(h.w, "a", to), zeroH, nothing)
			h.wantToldPart(t, "enter over an entry where no room is", enterPart(h.w, "waa", to), zeroH, nothing)
			for _, n := range []impl.Handle{h.goneDir, h.farD, turned(h.f), dirAt(h.far, 10), dirAt(h.id, 99)} {
				h.wantToldPart(t, "enter what is not here", enterPart(n, "a", to), zeroH, nothing)
			}
		}
		var l []impl.Record
		for i := range impl.MaxEntries + 2 {
			l = append(l, intentOf(txAt(1), enterPart(h.e, letters(30-i), h.farF), impl.RpWell, zeroH))
		}
		h.wantMore(t, "as many as may be", append(l, toldOf(txAt(1), 1)), func(s *impl.Shard) {
			for i := range impl.MaxEntries {
				addEntry(s, h.e, letters(30-i), h.farF)
			}
			s.Done = append(s.Done, txAt(1))
		})
	})
}

func TestPartsOfParentsAndGates(t *testing.T) {
	onEachShard(func(h homes) {
		for _, to := range []impl.Handle{h.w, h.farD, h.goneDir, h.e, rootDir, lastDir} {
			h.wantToldPart(t, "parent", parentPart(h.e, to), zeroH, func(s *impl.Shard) { nodeOf(s, h.e).Parent = to })
			h.wantToldPart(t, "parent of one with entries", parentPart(h.d, to), zeroH, func(s *impl.Shard) { nodeOf(s, h.d).Parent = to })
			for _, n := range []impl.Handle{h.goneDir, h.farD, turned(h.f), dirAt(h.far, 11), dirAt(h.id, 99)} {
				h.wantToldPart(t, "parent of what is not here", parentPart(n, to), zeroH, nothing)
			}
		}
		h.wantToldPart(t, "gate", impl.Part{Kind: impl.PaGate}, zeroH, nothing)
		h.wantToldPart(t, "gate with a Fresh", impl.Part{Kind: impl.PaGate}, fileAt(h.id, 20), nothing)
	})
}

func TestPartsThatMake(t *testing.T) {
	onEachShard(func(h homes) {
		for _, to := range []impl.Handle{h.d, lastDir} {
			for _, ino := range []int{2, 7, 15, 16, impl.MaxNum - 1} {
				dir, file := dirAt(h.id, ino), fileAt(h.id, ino)
				for _, asked := range []impl.Handle{dir, file, {Shard: h.far, Dir: true}, {Shard: h.far}} {
					h.wantToldPart(t, "make a directory", makePart(asked, to), dir, func(s *impl.Shard) { addNode(s, impl.Node{H: dir, Parent: to, Links: 1}) })
					h.wantToldPart(t, "make a file", makePart(asked, to), file, func(s *impl.Shard) { addNode(s, impl.Node{H: file, Links: 1}) })
				}
			}
			for _, there := range []impl.Handle{h.d, h.e, h.w, h.f, h.g} {
				h.wantToldPart(t, "make what there is", makePart(there, to), there, nothing)
			}
			for _, far := range []impl.Handle{fileAt(h.far, 15), dirAt(h.far, 15), dirAt(h.far, 10), dirAt((h.id+3)%impl.MaxShards, 40)} {
				h.wantToldPart(t, "make what lies elsewhere", makePart(h.e, to), far, nothing)
			}
		}
		dir := dirAt(h.id, 15)
		twice := []impl.Record{intentOf(txAt(1), makePart(dir, h.d), impl.RpWell, dir), intentOf(txAt(1), makePart(dir, h.w), impl.RpWell, dir), toldOf(txAt(1), 1)}
		h.wantMore(t, "make one twice", twice, func(s *impl.Shard) {
			addNode(s, impl.Node{H: dir, Parent: h.d, Links: 1})
			s.Done, s.Next = append(s.Done, txAt(1)), 16
		})
		again := []impl.Record{intentOf(txAt(1), unlinkPart(h.w), impl.RpWell, zeroH), intentOf(txAt(1), makePart(h.w, h.e), impl.RpWell, h.w), toldOf(txAt(1), 1)}
		h.wantMore(t, "make again what went", again, func(s *impl.Shard) {
			removeNode(s, h.w)
			addNode(s, impl.Node{H: h.w, Parent: h.e, Links: 1})
			s.Done = append(s.Done, txAt(1))
		})
		late := []impl.Record{intentOf(txAt(1), makePart(dir, h.d), impl.RpWell, dir), localOf(makeOp(h.d, "m", h.f), fileAt(h.id, 16)), toldOf(txAt(1), 1)}
		h.wantMore(t, "made behind one with a greater number", late, func(s *impl.Shard) {
			addNode(s, impl.Node{H: dir, Parent: h.d, Links: 1})
			addNode(s, impl.Node{H: fileAt(h.id, 16), Links: 1})
			addEntry(s, h.d, "m", fileAt(h.id, 16))
			s.Lasts, s.Done, s.Next = []impl.Last{{Client: 2, Req: 5}}, append(s.Done, txAt(1)), 17
		})
	})
}

// All Intents of a transaction go, in order; those of others stay, in order.
func TestSeveralIntents(t *testing.T) {
	onEachShard(func(h homes) {
		dir := dirAt(h.id, 15)
		one, two, three := txAt(1), impl.Tx{Shard: 3, Boot: 2, N: 1}, impl.Tx{Shard: 2, Boot: 1, N: 1}
		l := []impl.Record{
			intentOf(one, makePart(dir, h.d), impl.RpWell, dir),
			intentOf(two, relinkPart(h.f), impl.RpWell, zeroH),
			intentOf(one, enterPart(dir, "a", h.farF), impl.RpWell, zeroH),
			intentOf(three, enterPart(h.e, "b", h.farD), impl.RpFull, zeroH),
			intentOf(one, enterPart(dir, "b", h.f), impl.RpBusy, zeroH),
			intentOf(two, parentPart(h.e, h.w), impl.RpWell, zeroH),
			intentOf(one, enterPart(dir, "a", h.g), impl.RpWell, zeroH),
		}
		var all []impl.Intent
		for _, r := range l {
			all = append(all, intent(r.Tx, r.Part, r.Code, r.Fresh))
		}
		h.wantMore(t, "none is told", l, func(s *impl.Shard) { s.Intents, s.Next = all, 16 })
		toldOne := func(s *impl.Shard) {
			addNode(s, impl.Node{H: dir, Parent: h.d, Links: 1})
			addEntry(s, dir, "a", h.farF)
			s.Intents, s.Done, s.Next = []impl.Intent{all[1], all[3], all[5]}, append(s.Done, one), 16
		}
		l = append(l, toldOf(one, 1))
		h.wantMore(t, "the first one", l, toldOne)
		h.wantMore(t, "one that there is not", append(l[:len(l):len(l)], toldOf(txAt(7), 1)), func(s *impl.Shard) {
			toldOne(s)
			s.Done = append(s.Done, txAt(7))
		})
		l = append(l, toldOf(three, 1))
		h.wantMore(t, "the third one", l, func(s *impl.Shard) {
			toldOne(s)
			s.Intents, s.Done = []impl.Intent{all[1], all[5]}, append(s.Done, three)
		})
		h.wantMore(t, "all of them, the second one with 0", append(l[:len(l):len(l)], toldOf(two, 0)), func(s *impl.Shard) {
			toldOne(s)
			s.Intents, s.Done = nil, append(s.Done, three, two)
		})
		h.wantMore(t, "all of them", append(l[:len(l):len(l)], toldOf(two, 1)), func(s *impl.Shard) {
			toldOne(s)
			nodeOf(s, h.f).Links = 2
			nodeOf(s, h.e).Parent = h.w
			s.Intents, s.Done = nil, append(s.Done, three, two)
		})
	})
}

// A part that comes ahead of what it needs is not done later.
func TestPartsAreDoneInOrder(t *testing.T) {
	onEachShard(func(h homes) {
		dir := dirAt(h.id, 15)
		l := []impl.Record{intentOf(txAt(1), enterPart(dir, "a", h.f), impl.RpWell, zeroH), intentOf(txAt(1), parentPart(dir, h.w), impl.RpWell, zeroH), intentOf(txAt(1), makePart(dir, h.d), impl.RpWell, dir), toldOf(txAt(1), 1)}
		h.wantMore(t, "made last", l, func(s *impl.Shard) {
			addNode(s, impl.Node{H: dir, Parent: h.d, Links: 1})
			s.Done, s.Next = append(s.Done, txAt(1)), 16
		})
		enter := []impl.Record{intentOf(txAt(1), enterPart(h.e, "a", h.f), impl.RpWell, zeroH), intentOf(txAt(1), enterPart(h.e, "a", h.g), impl.RpWell, zeroH), toldOf(txAt(1), 1)}
		h.wantMore(t, "the first entry stays", enter, func(s *impl.Shard) {
			addEntry(s, h.e, "a", h.f)
			s.Done = append(s.Done, txAt(1))
		})
	})
}

func TestDoneHasATransactionOnce(t *testing.T) {
	onEachShard(func(h homes) {
		var l []impl.Record
		for _, n := range []int{3, 0, 3, 1, 3, 1, 0, 2} {
			l = append(l, toldOf(txAt(n), n%2), decideOf(txAt(n), 0, listOp(h.d), zeroH))
		}
		h.wantMore(t, "told often", l, func(s *impl.Shard) {
			s.Done = []impl.Tx{txAt(0), txAt(3), txAt(1), txAt(2)}
			s.Lasts = []impl.Last{{Client: 2, Req: 5}}
			for _, n := range []int{3, 0, 3, 1, 3, 1, 0, 2} {
				s.Decided = append(s.Decided, impl.Verdict{Tx: txAt(n)})
			}
		})
		alike := []impl.Record{toldOf(impl.Tx{Shard: 1}, 0), toldOf(impl.Tx{Boot: 1}, 0), toldOf(impl.Tx{N: 1}, 0), toldOf(impl.Tx{}, 0), toldOf(impl.Tx{N: 1}, 1)}
		h.wantMore(t, "those that differ in one number", alike, func(s *impl.Shard) {
			s.Done = append(s.Done, impl.Tx{Shard: 1}, impl.Tx{Boot: 1}, impl.Tx{N: 1}, impl.Tx{})
		})
		behind := []impl.Record{toldOf(txAt(1), 1), intentOf(txAt(1), relinkPart(h.f), impl.RpWell, zeroH), toldOf(txAt(1), 1)}
		h.wantMore(t, "an Intent behind its verdict", behind, func(s *impl.Shard) {
			nodeOf(s, h.f).Links = 2
			s.Done = append(s.Done, txAt(1))
		})
	})
}

// wantDecided: a decision of Code 1 changes the sample so, one of Code 0 changes nothing, beside what each decision does.
func (h homes) wantDecided(t *testing.T, what string, op impl.Op, made impl.Handle, change func(s *impl.Shard)) {
	t.Helper()
	for code := range 2 {
		h.wantMore(t, fmt.Sprintf("%s, decided %d", what, code), []impl.Record{decideOf(txAt(1), code, op, made)}, func(s *impl.Shard) {
			s.Lasts = []impl.Last{{Client: 2, Req: 5, Reply: impl.Reply{H: made}}}
			s.Decided, s.Done = []impl.Verdict{{Tx: txAt(1), Ok: code == 1}}, append(s.Done, txAt(1))
			if code == 1 {
				change(s)
			}
		})
	}
}

func TestDecisionsInADirectory(t *testing.T) {
	onEachShard(func(h homes) {
		for _, to := range []impl.Handle{h.farF, fileAt(h.far, 40), dirAt(h.far, 41), h.f, dirAt(h.id, 99)} {
			h.wantDecided(t, "make", makeOp(h.d, "m", fileAt(h.far, 1)), to, func(s *impl.Shard) { addEntry(s, h.d, "m", to) })
			h.wantDecided(t, "make over an entry", makeOp(h.d, "f", fileAt(h.far, 1)), to, nothing)
			h.wantDecided(t, "make where no room is", makeOp(h.w, "m", fileAt(h.far, 1)), to, nothing)
			h.wantDecided(t, "link", linkOp(h.d, "l", to), zeroH, func(s *impl.Shard) { addEntry(s, h.d, "l", to) })
			h.wantDecided(t, "link, whatever was made", linkOp(h.e, "l", to), h.g, func(s *impl.Shard) { addEntry(s, h.e, "l", to) })
			h.wantDecided(t, "link over an entry", linkOp(h.d, "ff", to), zeroH, nothing)
			h.wantDecided(t, "link where no room is", linkOp(h.w, "l", to), zeroH, nothing)
		}
		for _, e := range h.inD() {
			goes := func(s *impl.Shard) { removeEntry(s, h.d, string(e.Name)) }
			h.wantDecided(t, "drop", dropOp(h.d, string(e.Name)), zeroH, goes)
			for _, to := range []impl.Handle{h.farD, h.e, h.d, h.f} {
				h.wantDecided(t, "move", moveOp(h.d, string(e.Name), to, "x"), zeroH, goes)
			}
		}
		h.wantDecided(t, "drop no entry", dropOp(h.d, "zz"), zeroH, nothing)
		h.wantDecided(t, "move no entry", moveOp(h.d, "zz", h.farD, "x"), zeroH, nothing)
		h.wantDecided(t, "drop out of a full directory", dropOp(h.w, "wac"), zeroH, func(s *impl.Shard) { removeEntry(s, h.w, "wac") })
		for _, op := range []impl.Op{lookOp(h.d, "f"), listOp(h.d), readOp(h.f), writeOp(h.f, 9), readOp(h.d), writeOp(h.gone, 9)} {
			h.wantDecided(t, "another kind", op, h.g, nothing)
		}
		for _, at := range []impl.Handle{h.goneDir, h.farD, dirAt(h.far, 10), turned(h.f), turned(h.d), dirAt(h.id, 99), h.farF} {
			for _, op := range []impl.Op{makeOp(at, "m", fileAt(h.far, 1)), linkOp(at, "l", h.f), dropOp(at, "f"), moveOp(at, "f", h.d, "x"), lookOp(at, "f"), writeOp(at, 3)} {
				h.wantDecided(t, "in no directory here", op, h.g, nothing)
			}
		}
	})
}

func TestDecisionsInOrder(t *testing.T) {
	onEachShard(func(h homes) {
		var l []impl.Record
		var want []impl.Verdict
		for i, n := range []int{4, 2, 4, 0, 2} {
			l = append(l, decideOf(txAt(n), (i+1)%2, listOp(h.d), zeroH), impl.Record{}, toldOf(txAt(9), 1))
			want = append(want, impl.Verdict{Tx: txAt(n), Ok: (i+1)%2 == 1})
		}
		h.wantMore(t, "several decisions", l, func(s *impl.Shard) {
			s.Decided, s.Boot = want, 5
			s.Lasts = []impl.Last{{Client: 2, Req: 5}}
			s.Done = append(s.Done, txAt(4), txAt(9), txAt(2))
		})
	})
}

// The operation's directory comes first, its own parts behind it, wherever the directory lies.
func TestDecisionsAndTheirParts(t *testing.T) {
	onEachShard(func(h homes) {
		lasts := []impl.Last{{Client: 2, Req: 5}}
		behind := []impl.Record{intentOf(txAt(1), enterPart(h.d, "f", h.farF), impl.RpWell, zeroH), decideOf(txAt(1), 1, moveOp(h.d, "f", h.farD, "x"), zeroH)}
		h.wantMore(t, "the name is free by then", behind, func(s *impl.Shard) {
			removeEntry(s, h.d, "f")
			addEntry(s, h.d, "f", h.farF)
			s.Lasts, s.Decided, s.Done = lasts, []impl.Verdict{{Tx: txAt(1), Ok: true}}, append(s.Done, txAt(1))
		})
		room := []impl.Record{intentOf(txAt(1), enterPart(h.w, "a", h.f), impl.RpWell, zeroH), decideOf(txAt(1), 1, dropOp(h.w, "waa"), zeroH)}
		h.wantMore(t, "there is room by then", room, func(s *impl.Shard) {
			removeEntry(s, h.w, "waa")
			addEntry(s, h.w, "a", h.f)
			s.Lasts, s.Decided, s.Done = lasts, []impl.Verdict{{Tx: txAt(1), Ok: true}}, append(s.Done, txAt(1))
		})
		dir := dirAt(h.id, 15)
		made := []impl.Record{
			intentOf(txAt(1), makePart(dir, h.farD), impl.RpWell, dir), intentOf(txAt(2), relinkPart(h.f), impl.RpWell, zeroH),
			decideOf(txAt(1), 1, makeOp(h.farD, "m", dir), dir), decideOf(txAt(2), 0, linkOp(h.d, "l", h.f), zeroH),
		}
		h.wantMore(t, "the directory lies elsewhere; a verdict 0", made, func(s *impl.Shard) {
			addNode(s, impl.Node{H: dir, Parent: h.farD, Links: 1})
			s.Lasts, s.Decided, s.Next = lasts, []impl.Verdict{{Tx: txAt(1), Ok: true}, {Tx: txAt(2)}}, 16
			s.Done = append(s.Done, txAt(1), txAt(2))
		})
		refusing := decideOf(txAt(1), 1, dropOp(h.d, "f"), zeroH)
		refusing.Reply.Code = impl.RpBusy
		h.wantMore(t, "Code counts, not the Reply's", []impl.Record{refusing}, func(s *impl.Shard) {
			removeEntry(s, h.d, "f")
			s.Lasts = []impl.Last{{Client: 2, Req: 5, Reply: impl.Reply{Code: impl.RpBusy}}}
			s.Decided, s.Done = []impl.Verdict{{Tx: txAt(1), Ok: true}}, append(s.Done, txAt(1))
		})
	})
}

// A file is a node here, too: a decision may put entries into it, which no operation finds, and which don't keep it from being dropped.
func TestDecisionsInAFile(t *testing.T) {
	onEachShard(func(h homes) {
		h.wantDecided(t, "link", linkOp(h.f, "l", h.farF), zeroH, func(s *impl.Shard) { addEntry(s, h.f, "l", h.farF) })
		h.wantDecided(t, "make", makeOp(h.f, "m", h.farF), h.farF, func(s *impl.Shard) { addEntry(s, h.f, "m", h.farF) })
		entered := decideOf(txAt(1), 1, linkOp(h.f, "l", h.g), zeroH)
		for _, more := range [][]impl.Record{
			{entered, decideOf(txAt(1), 0, listOp(h.d), zeroH), localOf(dropOp(h.d, "f"), zeroH)},
			{entered, decideOf(txAt(1), 0, listOp(h.d), zeroH), localOf(dropOp(h.f, "l"), zeroH), localOf(dropOp(h.d, "f"), zeroH)},
		} {
			h.wantMore(t, "drop", more, func(s *impl.Shard) {
				removeEntry(s, h.d, "f")
				removeNode(s, h.f)
				s.Lasts, s.Decided, s.Done = []impl.Last{{Client: 2, Req: 5}}, []impl.Verdict{{Tx: txAt(1), Ok: true}, {Tx: txAt(1)}}, append(s.Done, txAt(1))
			})
		}
	})
}
