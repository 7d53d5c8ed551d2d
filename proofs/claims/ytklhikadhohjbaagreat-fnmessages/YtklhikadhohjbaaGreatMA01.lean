/- Joined: Tks Bytes Own Mem Dt RegZ Cursor Hands Ents Wires VarL Ents2 Nodes2 Roots Same Strs3 Cls EqH OpenT Names4 Draws1 WOk Eqs WEq WEq2 SameR Rows0. -/
import Derived.Test.YtklhikadhohjbaaGreatMBase
import Derived.Deep.RegionHeld3
import Derived.Deep.Draws
import Derived.Deep.QuietTactic
import Derived.BigQuiet
import Derived.Laws.CopyOwn
import Derived.WalkSpells
import Derived.Laws.AppendOwnNone
import Derived.Deep.MidRow
import Derived.Laws.CopyRow
import Derived.Laws.BytesArg
import Derived.Lib.Bytes
import Derived.ProofKit
import Derived.OpenShut
import Derived.Lib.SmallJoins
import Derived.Deep.Slices
import Derived.Deep.Strs

namespace Go.Proofs.YtklhikadhohjbaaGreat
open Go.RowKit
set_option linter.unusedVariables false
set_option linter.unusedSimpArgs false
set_option maxRecDepth 100000
section
theorem tkh {P : Program} {md : Region.Mode} {ops : Array Oper} {Q : Exit → Act → World → Prop} {S : World → Prop} {oi : Oper} {fuel : Nat} {listed : Array Bool} {a : Act} {w : World} (i : Nat) (v : Value) (hi : ops[i]? = some oi)
  (hb : (Region.noSelect ops && (Region.free md ops listed i && (Region.ready md ops listed).contains i)) = true) (hw : Region.wanted oi (yielded ops a.tmps) = true) (hS : S w) (hy : ∀ w, S w → (execOp a.eval oi).run P w = .ok (.value v) w)
  (h : wpAnyH P md ops (NoPanic Q) S fuel (listed.setIfInBounds i true) (a.put oi.dst v) w) : wpAnyH P md ops (NoPanic Q) S (fuel + 1) listed a w := by
 simp only [Bool.and_eq_true] at hb
 exact wpAnyH_take hi hb.1 hb.2.1 hb.2.2 (fun _ _ _ h => h) (Or.inl ⟨hw, hy⟩) hS h
theorem doH {P : Program} {md : Region.Mode} {ops : Array Oper} {Q : Exit → Act → World → Prop} {S : World → Prop} {fuel : Nat} {listed : Array Bool} {a : Act} {w : World} {o : Oper} (i : Nat) (hr : Region.ready md ops listed = [i]) (ho : ops[i]? = some o)
  (h : ∀ K' : Act → World → Prop, Shut (∀ a w, S w → (S w → wpAnyH P md ops Q S fuel (listed.setIfInBounds i true) a w) → K' a w) → if Region.wanted o (yielded ops a.tmps) = true then Oper.wp P o a w K' Q else K' (a.put o.dst undef) w) : wpAnyH P md ops Q S (fuel + 1) listed a w :=
 wpAnyH_ready hr (by simp) (AllReadyH.cons ho h AllReadyH.nil)
theorem bpR {P : Program} {fn : Func} {R : Ending → World → Prop} {a : Act} {w : World} {p : Tmp} {ty : TypeId} {g : Nat} {t : TypeId} {cs : Array Value} {fr : Nat × Nat} {d : TypeDesc} (h : fn.results = #[.cell p ty]) (hg : w.heap[g]? = some (.cells cs t fr)) (hu : P.underlying ty = some d)
  (hp : a.tmps.getD p undef = .pointer (some ⟨g, 0, none⟩)) (hd : (match d with | .struct _ | .array _ _ => true | _ => false) = true) (hi : (P.info? ty).map (·.size) = some cs.size) (hf : a.defers = []) (hR : R (.returned (.agg cs)) w) : bodyPost P fn R .ret a w :=
 bodyPost_ret (results_cell_row h _ _ _ _ _ _ _ hp hg hu hd hi) hf hR
end
section
theorem below_drewN2 {B : Nat} {a w : World} (h : Below B a w) (n : Nat) : Below B a (w.drewN n) := ⟨h.os, h.tape, h.output, h.size, h.block⟩
def marks (n : Nat) (k : Nat) : List Int := (List.range n).map (fun i => ((k + i : Nat) : Int) % 256)
def marked (zs : List Int) (k j : Nat) : List Int := marks j k ++ zs.drop j
end
section
theorem Tryz.sizeB : (Tryz.prog.info? 5).map (·.size) = some 1 := by kernel_rfl

theorem full_heap {w : World} {base : Nat} {e : TypeId} {g n : Nat} {xs : List Value} (h : w.ownsRow base e 1 (.slice (some ⟨g, 0, none⟩) n n) n xs) : w.heap[g]? = some (.cells xs.toArray e (0, 0)) := by
 rcases h.2 with ⟨hv, _⟩ | ⟨g', c, cur, hv, hg, hh, hnc, hm, hs, ht⟩
 ·cases hv
 ·simp only [Value.slice.injEq, Option.some.injEq, Addr.mk.injEq, and_true, true_and] at hv
  obtain ⟨rfl, rfl⟩ := hv
  rw [hh, ← ht, List.take_of_length_le (by simp; omega)]

theorem full_owns {w : World} {base g : Nat} {zs : List Int} {n : Nat} (hn : n = zs.length) (hg : base ≤ g) (hl : zs.length ≤ 4194304) (h : w.heap[g]? = some (.cells (bcells zs).toArray 5 (0, 0))) : Owns w base (.slice (some ⟨g, 0, none⟩) n n) zs := by
 subst hn
 exact ⟨by simp, .inr ⟨g, zs.length, _, rfl, hg, h, Nat.le_refl _, by unfold maxLen; omega, by simp, by simp [List.take_of_length_le]⟩⟩

theorem Reads.src {w : World} {a : Option Addr} {xs : List Int} (h : Reads w a xs) : 0 < (bcells xs).length → ∃ ad, a = some ad ∧ ∀ j v, (bcells xs)[j]? = some v → w.cell? (ad.add j) = some v := by
 intro h0
 rcases h.2 with rfl | ⟨b, off, rfl, hb, hc⟩
 ·simp at h0
 ·refine ⟨_, rfl, fun j v hv => ?_⟩
  have hj : j < xs.length := by
   rcases Nat.lt_or_ge j xs.length with h1 | h1
   ·exact h1
   ·rw [List.getElem?_eq_none (by simpa using h1)] at hv; cases hv
  have := hc j hj
  have e : ((⟨b, off, none⟩ : Addr).add j) = ⟨b, off + j, none⟩ := by
   by_cases h0 : j = 0
   ·subst h0; simp [Addr.add]
   ·simp [Addr.add, h0]
  rw [e, this, ← hv]
  simp [bcells, hj]

theorem bcells_one (xs : List Int) : ∀ v ∈ bcells xs, v.oneCell' = true := by
 intro v hv
 simp only [bcells, List.mem_map] at hv
 obtain ⟨x, _, rfl⟩ := hv
 rfl

theorem splice_two {α : Type} (Z X Y : List α) (k : Nat) (hk : X.length = k) (hZ : Z.length = k + Y.length) : splice (splice Z 0 X) k Y = X ++ Y := by
 subst hk
 unfold splice
 simp only [List.take_zero, List.nil_append, Nat.zero_add, List.take_left]
 rw [List.drop_append, List.drop_drop]
 have e1 : List.drop (X.length + Y.length) X = [] := List.drop_eq_nil_of_le (by omega)
 have e2 : List.drop (X.length + (X.length + Y.length - X.length)) Z = [] := List.drop_eq_nil_of_le (by omega)
 rw [e1, e2]; simp

theorem isBytes_append {xs ys : List Int} (h : isBytes xs) (k : isBytes ys) : isBytes (xs ++ ys) := by
 intro j
 rw [List.getElem?_append]
 split
 ·exact h j
 ·exact k _

theorem isBytes_cons {x : Int} {xs : List Int} (h0 : 0 ≤ x) (h1 : x ≤ 255) (h : isBytes xs) : isBytes (x :: xs) := by
 intro j
 cases j with
 | zero => simp; omega
 | succ j => simpa using h j

theorem Owns.base {w : World} {base b' : Nat} {v : Value} {zs : List Int} (h : Owns w base v zs) (hb : b' ≤ base) : Owns w b' v zs := by
 obtain ⟨h1, h2⟩ := h
 refine ⟨h1, ?_⟩
 rcases h2 with h2 | ⟨g, c, cur, hv, hg, r⟩
 ·exact .inl h2
 ·exact .inr ⟨g, c, cur, hv, by omega, r⟩

theorem reads_none (w : World) (a : Option Addr) : Reads w a [] := ⟨isBytes_nil, .inl rfl⟩

theorem Owns.shape {w : World} {base : Nat} {v : Value} {zs : List Int} (h : Owns w base v zs) : ∃ a cap, v = .slice a zs.length cap ∧ zs.length ≤ cap ∧ cap ≤ maxLen := by
 rcases h.2 with ⟨rfl, h0⟩ | ⟨g, c, cur, hv, hg, hh, hnc, hm, r⟩
 ·exact ⟨none, 0, by rw [h0], by omega, Nat.zero_le _⟩
 ·exact ⟨_, c, hv, hnc, hm⟩

theorem Reads.srcAt {w : World} {ad : Addr} {xs : List Int} (h : Reads w (some ad) xs) : ∀ j v, (bcells xs)[j]? = some v → w.cell? (ad.add j) = some v := by
 by_cases h0 : 0 < (bcells xs).length
 ·obtain ⟨ad', ha, hc⟩ := h.src h0
  simp only [Option.some.injEq] at ha
  subst ha
  exact hc
 ·intro j v hv
  rw [List.getElem?_eq_none (by omega)] at hv; cases hv

theorem wpList_app {ops : Array Oper} {rest : List Oper} {o : Oper} {a : Act} {Q : Exit → Act → World → Prop} (w : World) (hgd : o.guard = none) (s x : Operand)
  (ho : o.op = .call { callee := .builtin .append, args := #[s, x], argTypes := #[22, 22] })
  (base : Nat) (v : Value) (zs ys : List Int) (hs : a.eval s = v) (hown : Owns w base v zs) (ao : Option Addr) (m c : Nat) (hx : a.eval x = .slice ao m c) (hm : m = ys.length) (hr : Reads w ao ys)
  (hl : zs.length ≤ 4194304) (hl' : ys.length ≤ 4194304) (hbase : base ≤ w.heap.size)
  (hnil : ao = none → m = 0 ∧ c = 0)
  (h : ∀ v' w', Owns w' base v' (zs ++ ys) → w.grownBy w' v.ownBlock → wpList Tryz.prog ops Q rest (a.put o.dst v') w') : wpList Tryz.prog ops Q (o :: rest) a w := by
 obtain ⟨i0, hi, hz0, hz1, hz2⟩ := info_parts Tryz.infoB
 cases ao with
 | none =>
  obtain ⟨h0, hc0⟩ := hnil rfl
  have : ys = [] := List.eq_nil_of_length_eq_zero (by omega)
  subst this
  subst hm
  subst hc0
  refine wpList_append_own_none (w := w) hgd s x 22 ho base 5 i0 1 Tryz.underlying22 hi v zs.length (bcells zs) hs hown hx ?_
  have := h v w (by rw [List.append_nil]; exact hown) ⟨rfl, rfl, rfl, Nat.le_refl _, fun _ _ _ => rfl⟩
  exact this
 | some ad =>
  refine wpList_append_own w hgd s x 22 ho base 5 i0 (.int .u8 0) 1 1 Tryz.underlying22 hi hz0 hz1 hz2 rfl (by decide) v zs.length (bcells zs) hs hown ad m c (bcells ys) hx (by simp [hm]) hr.srcAt (bcells_one ys) (by unfold maxLen; omega) (by omega) hbase ?_
  intro v' w' ho' hg _
  refine h v' w' ?_ hg
  unfold Owns
  rw [List.length_append, ← hm]
  simpa [bcells] using ho'

theorem one_new (w : World) (x : Int) (h0 : 0 ≤ x) (h1 : x ≤ 255) : Reads (w.alloc (.cells #[.int .u8 x] 5)) (some ⟨w.heap.size, 0, none⟩) [x] := by
 refine ⟨isBytes_cons h0 h1 isBytes_nil, .inr ⟨w.heap.size, 0, rfl, by simp, fun i hi => ?_⟩⟩
 obtain rfl : i = 0 := by simpa using hi
 rw [World.cell?_alloc_at _ _ _ _ rfl]; rfl

theorem Owns.alloc {w : World} {base : Nat} {v : Value} {zs : List Int} (h : Owns w base v zs) (o : Obj) : Owns (w.alloc o) base v zs := World.ownsRow.alloc h o

theorem Owns.lt {w : World} {base : Nat} {v : Value} {zs : List Int} (h : Owns w base v zs) : ∀ k, v.ownBlock = some k → base ≤ k ∧ k < w.heap.size := World.ownsRow.lt h

theorem owns_empty (w : World) : Owns (w.alloc (.cells #[] 5)) w.heap.size (.slice (some ⟨w.heap.size, 0, none⟩) 0 0) [] := World.ownsRow_lit w #[] 0 (Nat.le_refl _) (Nat.zero_le _) rfl

theorem Owns.step {w w' : World} {base : Nat} {v : Value} {zs : List Int} (h : Owns w base v zs) (hb : Below w.heap.size w w') : Owns w' base v zs := h.below hb (fun k hk => (h.lt k hk).2)

theorem Owns.other {w w' : World} {base : Nat} {v u : Value} {zs : List Int} (h : Owns w base v zs) (hg : w.grownBy w' u.ownBlock) (hne : ∀ k, v.ownBlock = some k → u.ownBlock ≠ some k) : Owns w' base v zs := by
 refine World.ownsRow.kept h hg ?_
 cases hk : v.ownBlock with
 | none => exact .inl rfl
 | some k => exact .inr (fun e => hne k hk e.symm)

def Before (v : Value) (b : Nat) : Prop := ∀ k, v.ownBlock = some k → k < b

def From (v : Value) (b : Nat) : Prop := ∀ k, v.ownBlock = some k → b ≤ k

theorem apart {v u : Value} {b : Nat} (h : Before v b) (g : From u b) : ∀ k, v.ownBlock = some k → u.ownBlock ≠ some k := fun k hk e => by have := h k hk; have := g k e; omega

theorem Owns.open {w : World} {base : Nat} {v : Value} {zs : List Int} (hz : isBytes zs) (h : Owns w base v zs) : ∃ a cap, v = .slice a zs.length cap ∧ zs.length ≤ cap ∧ cap ≤ maxLen ∧ Reads w a zs := by
 obtain ⟨a, cap, rfl, h1, h2⟩ := h.shape
 exact ⟨a, cap, rfl, h1, h2, (h.reads hz).2⟩
end
section
structure Turns (lo hi : Nat) (w w' : World) : Prop where
 os : w'.os = w.os
 tape : w'.tape = w.tape
 output : w'.output = w.output
 size : w.heap.size ≤ w'.heap.size
 block : ∀ k, k < w.heap.size → (k < lo ∨ hi ≤ k) → w'.heap[k]? = w.heap[k]?
def SameIn (l h : Nat) (w w' : World) : Prop := w.heap.size ≤ w'.heap.size ∧ ∀ k, l ≤ k → k < h → w'.heap[k]? = w.heap[k]?
def Headed (a : Option Addr) (len cap : Nat) : Prop := len ≤ cap ∧ cap ≤ maxLen ∧ (a = none → len = 0 ∧ cap = 0)

def RdB (w : World) (l h : Nat) (v : Value) (zs : List Int) : Prop :=
 isBytes zs ∧ ∃ a len cap, v = .slice a len cap ∧ len = zs.length ∧ Headed a len cap ∧
  (zs = [] ∨ ∃ b off, a = some ⟨b, off, none⟩ ∧ l ≤ b ∧ b < h ∧ ∀ i, i < zs.length → w.cell? ⟨b, off + i, none⟩ = some (.int .u8 (zs[i]?.getD 0)))
def OwB (w : World) (l h : Nat) (v : Value) (zs : List Int) : Prop := isBytes zs ∧ Owns w l v zs ∧ Before v h
def RdBB (w : World) (l h : Nat) (v : Value) (zss : List (List Int)) : Prop :=
 ∃ a len cap, ∃ vs : Nat → Value, v = .slice a len cap ∧ len = zss.length ∧ Headed a len cap ∧
  (len = 0 ∨ ∃ b off, a = some ⟨b, off, none⟩ ∧ l ≤ b ∧ b < h ∧ ∀ i, i < len → w.cell? ⟨b, off + i, none⟩ = some (vs i)) ∧ ∀ i, i < len → RdB w l h (vs i) (zss[i]?.getD [])
def OwBB (w : World) (l h : Nat) (v : Value) (zss : List (List Int)) : Prop :=
 ∃ vs : List Value, vs.length = zss.length ∧ w.ownsRow l 22 1 v vs.length vs ∧ Before v h ∧ (∀ i, i < vs.length → OwB w l h (vs[i]?.getD undef) (zss[i]?.getD [])) ∧
  ∀ i j k, i < j → j < vs.length → (vs[i]?.getD undef).ownBlock = some k → (vs[j]?.getD undef).ownBlock ≠ some k
end
section
def Keeps (S : Nat → Prop) (w w' : World) : Prop := w.heap.size ≤ w'.heap.size ∧ ∀ b, S b → b < w.heap.size → w'.heap[b]? = w.heap[b]?
structure Turned (S : Nat → Prop) (w w' : World) : Prop where
 os : w'.os = w.os
 tape : w'.tape = w.tape
 output : w'.output = w.output
 size : w.heap.size ≤ w'.heap.size
 block : ∀ k, k < w.heap.size → ¬ S k → w'.heap[k]? = w.heap[k]?
theorem Turned.refl (S : Nat → Prop) (w : World) : Turned S w w := ⟨rfl, rfl, rfl, Nat.le_refl _, fun _ _ _ => rfl⟩
theorem Turned.trans {S : Nat → Prop} {a b c : World} (h : Turned S a b) (k : Turned S b c) : Turned S a c :=
 ⟨k.os.trans h.os, k.tape.trans h.tape, k.output.trans h.output, Nat.le_trans h.size k.size, fun i hi hr => (k.block i (Nat.lt_of_lt_of_le hi h.size) hr).trans (h.block i hi hr)⟩
theorem Turned.wide {S S' : Nat → Prop} {a b : World} (h : Turned S a b) (hs : ∀ k, S k → S' k) : Turned S' a b := ⟨h.os, h.tape, h.output, h.size, fun i hi hr => h.block i hi (fun e => hr (hs i e))⟩
theorem Turned.ofBelow {S : Nat → Prop} {a b : World} (h : Below a.heap.size a b) : Turned S a b := ⟨h.os, h.tape, h.output, h.size, fun i hi _ => h.block i hi⟩
theorem Turned.ofGrown {S : Nat → Prop} {a b : World} {r : Option Nat} (h : a.grownBy b r) (hr : ∀ k, r = some k → S k) : Turned S a b := ⟨h.os, h.tape, h.output, h.size, fun i hi ho => h.block i hi (fun e => ho (hr i e.symm))⟩
theorem Turned.set {S : Nat → Prop} {a b : World} (h : Turned S a b) (p : Addr) (u : Value) (hp : S p.block) : Turned S a (b.setCell p u) :=
 h.trans ⟨rfl, rfl, rfl, by simp, fun k _ hr => heap_setCell_other b p k u (fun e => hr (e ▸ hp))⟩
theorem Turned.alloc {S : Nat → Prop} {a b : World} (h : Turned S a b) (o : Obj) : Turned S a (b.alloc o) := h.trans (Turned.ofBelow ((Below.refl _ _).alloc (Nat.le_refl _) _))
theorem Turned.andThen {S : Nat → Prop} {a b c : World} (h : Turned S a b) (hb : Below b.heap.size b c) : Turned S a c := h.trans (Turned.ofBelow hb)
theorem Turned.below {S : Nat → Prop} {B : Nat} {a b c : World} (h : Below B a b) (k : Turned S b c) (hB : B ≤ b.heap.size) (hl : ∀ i, S i → B ≤ i) : Below B a c :=
 h.trans ⟨k.os, k.tape, k.output, k.size, fun i hi => k.block i (by omega) (fun e => by have := hl i e; omega)⟩
theorem Turned.keeps {S T : Nat → Prop} {a b : World} (h : Turned S a b) (hd : ∀ k, T k → ¬ S k) : Keeps T a b := ⟨h.size, fun k hk hlt => h.block k hlt (hd k hk)⟩
theorem Keeps.ofBelow {S : Nat → Prop} {a b : World} (h : Below a.heap.size a b) : Keeps S a b := ⟨h.size, fun k _ hlt => h.block k hlt⟩
theorem Keeps.mono {S T : Nat → Prop} {a b : World} (h : Keeps S a b) (hs : ∀ k, T k → S k) : Keeps T a b := ⟨h.1, fun k hk hlt => h.2 k (hs k hk) hlt⟩

def RdS (w : World) (S : Nat → Prop) (v : Value) (zs : List Int) : Prop :=
 isBytes zs ∧ ∃ a len cap, v = .slice a len cap ∧ len = zs.length ∧ Headed a len cap ∧
  (zs = [] ∨ ∃ b off, a = some ⟨b, off, none⟩ ∧ S b ∧ b < w.heap.size ∧ ∀ i, i < zs.length → w.cell? ⟨b, off + i, none⟩ = some (.int .u8 (zs[i]?.getD 0)))
theorem RdS.keep {w w' : World} {S : Nat → Prop} {v : Value} {zs : List Int} (r : RdS w S v zs) (t : Keeps S w w') : RdS w' S v zs := by
 obtain ⟨hb, a, len, cap, hv, hl, hh, hc⟩ := r
 refine ⟨hb, a, len, cap, hv, hl, hh, ?_⟩
 rcases hc with h0 | ⟨b, off, ha, h1, h2, hc⟩
 ·exact .inl h0
 ·exact .inr ⟨b, off, ha, h1, Nat.lt_of_lt_of_le h2 t.1, fun i hi => by rw [World.cell?_of_block (w := w) (t.2 b h1 h2)]; exact hc i hi⟩
theorem RdS.mono {w : World} {S S' : Nat → Prop} {v : Value} {zs : List Int} (r : RdS w S v zs) (t : ∀ b, S b → S' b) : RdS w S' v zs := by
 obtain ⟨hb, a, len, cap, hv, hl, hh, hc⟩ := r
 refine ⟨hb, a, len, cap, hv, hl, hh, ?_⟩
 rcases hc with h0 | ⟨b, off, ha, h1, h2, hc⟩
 ·exact .inl h0
 ·exact .inr ⟨b, off, ha, t b h1, h2, hc⟩
theorem RdS.reads {w : World} {S : Nat → Prop} {v : Value} {zs : List Int} (r : RdS w S v zs) : ∃ a cap, v = .slice a zs.length cap ∧ Headed a zs.length cap ∧ Reads w a zs := by
 obtain ⟨hb, a, len, cap, hv, hl, hh, hc⟩ := r
 subst hl
 refine ⟨a, cap, hv, hh, hb, ?_⟩
 rcases hc with h0 | ⟨b, off, ha, h3, h4, hc⟩
 ·exact .inl h0
 ·exact .inr ⟨b, off, ha, h4, hc⟩
theorem ownsRow_keep {w w' : World} {l : Nat} {S : Nat → Prop} {e : TypeId} {size : Nat} {v : Value} {n : Nat} {xs : List Value} (o : w.ownsRow l e size v n xs) (hb : ∀ b, v.ownBlock = some b → S b) (t : Keeps S w w') : w'.ownsRow l e size v n xs := by
 obtain ⟨h1, h2⟩ := o
 refine ⟨h1, ?_⟩
 rcases h2 with h2 | ⟨g, c, cur, hv, hg, hh, r⟩
 ·exact .inl h2
 ·exact .inr ⟨g, c, cur, hv, hg, by rw [t.2 g (hb g (by rw [hv]; rfl)) (lt_of_block hh)]; exact hh, r⟩
theorem rdS_of_owns {w : World} {S : Nat → Prop} {v : Value} {zs : List Int} (hz : isBytes zs) (ho : Owns w 0 v zs) (hs : ∀ b, v.ownBlock = some b → S b) : RdS w S v zs := by
 obtain ⟨a, cap, rfl, h1, h2⟩ := ho.shape
 refine ⟨hz, a, _, cap, rfl, rfl, ⟨h1, h2, ?_⟩, ?_⟩
 ·rintro rfl
  rcases ho.2 with ⟨hv, h0⟩ | ⟨g, c, cur, hv, _⟩
  ·simp only [Value.slice.injEq, true_and] at hv; omega
  ·cases hv
 ·rcases (ho.reads hz).2.2 with h0 | ⟨b, off, ha, hb, hc⟩
  ·exact .inl h0
  ·subst ha
   exact .inr ⟨b, off, rfl, hs b rfl, hb, hc⟩
theorem place_inj {k i j i' j' : Nat} (hj : j < k) (hj' : j' < k) (h : i * k + j = i' * k + j') : i = i' ∧ j = j' := by
 have h1 : (i * k + j) / k = i := by rw [Nat.add_comm, Nat.mul_comm, Nat.add_mul_div_left _ _ (by omega), Nat.div_eq_of_lt hj]; omega
 have h2 : (i' * k + j') / k = i' := by rw [Nat.add_comm, Nat.mul_comm, Nat.add_mul_div_left _ _ (by omega), Nat.div_eq_of_lt hj']; omega
 have h3 : i = i' := by rw [← h1, ← h2, h]
 subst h3
 exact ⟨rfl, by omega⟩
theorem place_lt {k n i j : Nat} (hi : i < n) (hj : j < k) : i * k + j < n * k := by
 have : (i + 1) * k ≤ n * k := Nat.mul_le_mul_right k hi
 rw [Nat.add_mul, Nat.one_mul] at this
 omega

structure Dt where
 rd : World → (Nat → Prop) → Value → Prop
 ow : World → (Nat → Prop) → Value → Prop
 rdKeep : ∀ (w w' : World) (S : Nat → Prop) (v : Value), Keeps S w w' → rd w S v → rd w' S v
 rdMono : ∀ (w : World) (S S' : Nat → Prop) (v : Value), (∀ b, S b → S' b) → rd w S v → rd w S' v
 owKeep : ∀ (w w' : World) (S : Nat → Prop) (v : Value), Keeps S w w' → ow w S v → ow w' S v
 owMono : ∀ (w : World) (S S' : Nat → Prop) (v : Value), (∀ b, S b → S' b) → ow w S v → ow w S' v
 owRd : ∀ (w : World) (S : Nat → Prop) (v : Value), ow w S v → rd w S v
def RdV (w : World) (S : Nat → Prop) (v : Value) (d : Dt) : Prop := d.rd w S v
def OwV (w : World) (S : Nat → Prop) (v : Value) (d : Dt) : Prop := d.ow w S v
def Dt.int (n : Int) : Dt := ⟨fun _ _ v => v = .i n, fun _ _ v => v = .i n, fun _ _ _ _ _ h => h, fun _ _ _ _ _ h => h, fun _ _ _ _ _ h => h, fun _ _ _ _ _ h => h, fun _ _ _ h => h⟩
def Dt.bool (b : Bool) : Dt := ⟨fun _ _ v => v = .bool b, fun _ _ v => v = .bool b, fun _ _ _ _ _ h => h, fun _ _ _ _ _ h => h, fun _ _ _ _ _ h => h, fun _ _ _ _ _ h => h, fun _ _ _ h => h⟩
def Dt.bytes (zs : List Int) : Dt := ⟨fun w S v => RdS w S v zs, fun w S v => isBytes zs ∧ Owns w 0 v zs ∧ ∀ b, v.ownBlock = some b → S b,
 fun _ _ _ _ t h => h.keep t, fun _ _ _ _ t h => h.mono t, fun _ _ _ _ t h => ⟨h.1, ownsRow_keep h.2.1 h.2.2 t, h.2.2⟩, fun _ _ _ _ t h => ⟨h.1, h.2.1, fun b hb => t b (h.2.2 b hb)⟩, fun _ _ _ h => rdS_of_owns h.1 h.2.1 h.2.2⟩
def RowsRd (k n : Nat) (f : Nat → Nat → Dt) (w : World) (S : Nat → Prop) (v : Value) : Prop :=
 ∃ a cap, ∃ V : Nat → Nat → Value, v = .slice a n cap ∧ Headed a n cap ∧
  (n = 0 ∨ ∃ b off, a = some ⟨b, off, none⟩ ∧ S b ∧ b < w.heap.size ∧ ∀ i j, i < n → j < k → w.cell? ⟨b, off + (i * k + j), none⟩ = some (V i j)) ∧ ∀ i j, i < n → j < k → RdV w S (V i j) (f i j)
def RowsOw (t : TypeId) (k n : Nat) (f : Nat → Nat → Dt) (w : World) (S : Nat → Prop) (v : Value) : Prop :=
 ∃ (V : Nat → Nat → Value) (C : List Value) (Q : Nat → Nat → Nat → Prop), w.ownsRow 0 t k v n C ∧ (∀ b, v.ownBlock = some b → S b) ∧
   (∀ i j, i < n → j < k → C[i * k + j]? = some (V i j)) ∧ (∀ i j, i < n → j < k → OwV w (Q i j) (V i j) (f i j)) ∧ (∀ i j b, i < n → j < k → Q i j b → S b ∧ v.ownBlock ≠ some b) ∧
   (∀ i j i' j' b, i < n → j < k → i' < n → j' < k → Q i j b → Q i' j' b → i = i' ∧ j = j')
theorem RowsRd.keep {k n : Nat} {f : Nat → Nat → Dt} (w w' : World) (S : Nat → Prop) (v : Value) (t : Keeps S w w') (r : RowsRd k n f w S v) : RowsRd k n f w' S v := by
 obtain ⟨a, cap, V, hv, hh, hc, he⟩ := r
 refine ⟨a, cap, V, hv, hh, ?_, fun i j hi hj => (f i j).rdKeep w w' S _ t (he i j hi hj)⟩
 rcases hc with h0 | ⟨b, off, ha, h1, h2, hc⟩
 ·exact .inl h0
 ·exact .inr ⟨b, off, ha, h1, Nat.lt_of_lt_of_le h2 t.1, fun i j hi hj => by rw [World.cell?_of_block (w := w) (t.2 b h1 h2)]; exact hc i j hi hj⟩
theorem RowsRd.mono {k n : Nat} {f : Nat → Nat → Dt} (w : World) (S S' : Nat → Prop) (v : Value) (t : ∀ b, S b → S' b) (r : RowsRd k n f w S v) : RowsRd k n f w S' v := by
 obtain ⟨a, cap, V, hv, hh, hc, he⟩ := r
 refine ⟨a, cap, V, hv, hh, ?_, fun i j hi hj => (f i j).rdMono w S S' _ t (he i j hi hj)⟩
 rcases hc with h0 | ⟨b, off, ha, h1, h2, hc⟩
 ·exact .inl h0
 ·exact .inr ⟨b, off, ha, t b h1, h2, hc⟩
theorem RowsOw.keep {t : TypeId} {k n : Nat} {f : Nat → Nat → Dt} (w w' : World) (S : Nat → Prop) (v : Value) (hk : Keeps S w w') (r : RowsOw t k n f w S v) : RowsOw t k n f w' S v := by
 obtain ⟨V, C, Q, h1, h2, h3, h4, h5, h6⟩ := r
 exact ⟨V, C, Q, ownsRow_keep h1 h2 hk, h2, h3, fun i j hi hj => (f i j).owKeep w w' _ _ (hk.mono (fun b hb => (h5 i j b hi hj hb).1)) (h4 i j hi hj), h5, h6⟩
theorem RowsOw.mono {t : TypeId} {k n : Nat} {f : Nat → Nat → Dt} (w : World) (S S' : Nat → Prop) (v : Value) (hs : ∀ b, S b → S' b) (r : RowsOw t k n f w S v) : RowsOw t k n f w S' v := by
 obtain ⟨V, C, Q, h1, h2, h3, h4, h5, h6⟩ := r
 exact ⟨V, C, Q, h1, fun b hb => hs b (h2 b hb), h3, h4, fun i j b hi hj hq => ⟨hs b (h5 i j b hi hj hq).1, (h5 i j b hi hj hq).2⟩, h6⟩
theorem RowsOw.rd {t : TypeId} {k n : Nat} {f : Nat → Nat → Dt} (w : World) (S : Nat → Prop) (v : Value) (r : RowsOw t k n f w S v) : RowsRd k n f w S v := by
 obtain ⟨V, C, Q, h1, h2, h3, h4, h5, h6⟩ := r
 rcases h1.2 with ⟨hv, h0⟩ | ⟨g, c, cur, hv, hg, hh, hnc, hm, _⟩
 ·subst hv
  subst h0
  exact ⟨none, 0, V, rfl, ⟨Nat.le_refl _, Nat.zero_le _, fun _ => ⟨rfl, rfl⟩⟩, .inl rfl, fun i j hi => absurd hi (Nat.not_lt_zero _)⟩
 ·subst hv
  refine ⟨_, c, V, rfl, ⟨hnc, hm, fun e => by cases e⟩, .inr ⟨g, 0, rfl, h2 g rfl, lt_of_block hh, fun i j hi hj => ?_⟩, fun i j hi hj => (f i j).rdMono w _ S _ (fun b hb => (h5 i j b hi hj hb).1) ((f i j).owRd w _ _ (h4 i j hi hj))⟩
  rw [Nat.zero_add, World.ownsRow.cellAt h1 (i * k + j) (place_lt hi hj)]
  exact h3 i j hi hj
def Dt.rows (t : TypeId) (k n : Nat) (f : Nat → Nat → Dt) : Dt := ⟨RowsRd k n f, RowsOw t k n f, RowsRd.keep, RowsRd.mono, RowsOw.keep, RowsOw.mono, RowsOw.rd⟩
theorem RdV.keep {w w' : World} {S : Nat → Prop} {v : Value} {d : Dt} (t : Keeps S w w') (r : RdV w S v d) : RdV w' S v d := d.rdKeep w w' S v t r
theorem RdV.mono {w : World} {S S' : Nat → Prop} {v : Value} {d : Dt} (t : ∀ b, S b → S' b) (r : RdV w S v d) : RdV w S' v d := d.rdMono w S S' v t r
theorem RdV.step {w w' : World} {S : Nat → Prop} {v : Value} {d : Dt} (r : RdV w S v d) (hb : Below w.heap.size w w') : RdV w' S v d := r.keep (Keeps.ofBelow hb)
theorem RdV.b {w : World} {S : Nat → Prop} {v : Value} {zs : List Int} (r : RdV w S v (.bytes zs)) : RdS w S v zs := r
theorem RdV.sliceB {w : World} {S : Nat → Prop} {v : Value} {zs : List Int} (r : RdV w S v (.bytes zs)) : ∃ a cap, v = .slice a zs.length cap := by obtain ⟨a, cap, h, _⟩ := r.b.reads; exact ⟨a, cap, h⟩
theorem RdV.inv {w : World} {S : Nat → Prop} {v : Value} {t : TypeId} {k n : Nat} {f : Nat → Nat → Dt} (r : RdV w S v (.rows t k n f)) : RowsRd k n f w S v := r
theorem RdV.mkRows {w : World} {S : Nat → Prop} {v : Value} {k n : Nat} {f : Nat → Nat → Dt} (t : TypeId) (r : RowsRd k n f w S v) : RdV w S v (.rows t k n f) := r
theorem RdV.at {w : World} {S : Nat → Prop} {a : Option Addr} {n cap : Nat} {t : TypeId} {k : Nat} {f : Nat → Nat → Dt} (r : RdV w S (.slice a n cap) (.rows t k n f)) {i : Nat} (hi : i < n) :
  ∃ b off, a = some ⟨b, off, none⟩ ∧ b < w.heap.size ∧ S b ∧ ∀ j, j < k → ∃ x, w.cell? ⟨b, off + i * k + j, none⟩ = some x ∧ RdV w S x (f i j) := by
 obtain ⟨a', cap', V, hv, hh, hc, he⟩ := r.inv
 simp only [Value.slice.injEq] at hv
 obtain ⟨rfl, _, rfl⟩ := hv
 rcases hc with h0 | ⟨b, off, ha, h1, h2, hc⟩
 ·omega
 ·exact ⟨b, off, ha, h2, h1, fun j hj => ⟨V i j, by rw [Nat.add_assoc]; exact hc i j hi hj, he i j hi hj⟩⟩
theorem RdV.sliced {w : World} {S : Nat → Prop} {v : Value} {t : TypeId} {k n : Nat} {f : Nat → Nat → Dt} (r : RdV w S v (.rows t k n f)) : ∃ a cap, v = .slice a n cap ∧ n ≤ maxLen := by
 obtain ⟨a, cap, V, hv, hh, _⟩ := r.inv
 exact ⟨a, cap, hv, Nat.le_trans hh.1 hh.2.1⟩
theorem RdV.congr {w : World} {S : Nat → Prop} {v : Value} {t t' : TypeId} {k n : Nat} {f g : Nat → Nat → Dt} (r : RdV w S v (.rows t k n f)) (h : ∀ i j, i < n → j < k → f i j = g i j) : RdV w S v (.rows t' k n g) := by
 obtain ⟨a, cap, V, rfl, hh, hc, he⟩ := r.inv
 exact ⟨a, cap, V, rfl, hh, hc, fun i j hi hj => h i j hi hj ▸ he i j hi hj⟩
theorem OwV.inv {w : World} {S : Nat → Prop} {v : Value} {t : TypeId} {k n : Nat} {f : Nat → Nat → Dt} (r : OwV w S v (.rows t k n f)) : RowsOw t k n f w S v := r
theorem OwV.mkRows {w : World} {S : Nat → Prop} {v : Value} {t : TypeId} {k n : Nat} {f : Nat → Nat → Dt} (r : RowsOw t k n f w S v) : OwV w S v (.rows t k n f) := r
theorem OwV.mono {w : World} {S S' : Nat → Prop} {v : Value} {d : Dt} (t : ∀ b, S b → S' b) (r : OwV w S v d) : OwV w S' v d := d.owMono w S S' v t r
theorem OwV.rd {w : World} {S : Nat → Prop} {v : Value} {d : Dt} (r : OwV w S v d) : RdV w S v d := d.owRd w S v r
theorem OwV.keep {w w' : World} {S : Nat → Prop} {v : Value} {d : Dt} (t : Keeps S w w') (r : OwV w S v d) : OwV w' S v d := d.owKeep w w' S v t r
theorem OwV.step {w w' : World} {S : Nat → Prop} {v : Value} {d : Dt} (r : OwV w S v d) (hb : Below w.heap.size w w') : OwV w' S v d := r.keep (Keeps.ofBelow hb)
theorem OwV.nilB (w : World) (S : Nat → Prop) : OwV w S (.slice none 0 0) (.bytes []) := ⟨isBytes_nil, World.ownsRow_nil _ _ _ _, fun b hb => by cases hb⟩
theorem OwV.nilR (w : World) (S : Nat → Prop) (t : TypeId) (k : Nat) (f : Nat → Nat → Dt) : OwV w S (.slice none 0 0) (.rows t k 0 f) :=
 ⟨fun _ _ => undef, [], fun _ _ _ => False, World.ownsRow_nil _ _ _ _, fun b hb => (by cases hb), fun i j hi => absurd hi (Nat.not_lt_zero _), fun i j hi => absurd hi (Nat.not_lt_zero _), fun i j b hi => absurd hi (Nat.not_lt_zero _), fun i j i' j' b hi => absurd hi (Nat.not_lt_zero _)⟩
theorem OwV.ofOwns {w : World} {B : Nat} {v : Value} {zs : List Int} (hz : isBytes zs) (h : Owns w B v zs) : OwV w (fun b => B ≤ b ∧ b < w.heap.size) v (.bytes zs) := ⟨hz, h.base (Nat.zero_le _), fun b hb => h.lt b hb⟩

def upd (f : Nat → Nat → Dt) (i j : Nat) (d : Dt) : Nat → Nat → Dt := fun i' j' => if i' = i ∧ j' = j then d else f i' j'
def VarA (w : World) (b : Nat) (T : TypeId) (cs : Array Value) : Prop := w.heap[b]? = some (.cells cs T (0, 0))
section
variable {w w' : World} {b : Nat} {T : TypeId} {cs : Array Value}
theorem VarA.c (h : VarA w b T cs) (j : Nat) {u : Value} (hu : cs[j]? = some u) : w.cell? ⟨b, j, none⟩ = some u := by rw [cell_of_row _ _ _ _ _ _ h]; exact hu
theorem VarA.f (h : VarA w b T cs) (j : Nat) : w.frozen? ⟨b, j, none⟩ = false := frozen_of_row _ _ _ _ _ h
theorem VarA.lt (h : VarA w b T cs) : b < w.heap.size := lt_of_block h
theorem VarA.step (h : VarA w b T cs) (hb : Below w.heap.size w w') : VarA w' b T cs := (hb.block b h.lt).trans h
theorem VarA.turn {S : Nat → Prop} (h : VarA w b T cs) (t : Turned S w w') (ho : ¬ S b) : VarA w' b T cs := (t.block b h.lt ho).trans h
theorem VarA.new (w : World) (T : TypeId) (cs : Array Value) : VarA (w.alloc (.cells cs T)) w.heap.size T cs := heap_alloc_new w _
theorem VarA.set (h : VarA w b T cs) (j : Nat) (u : Value) : VarA (w.setCell ⟨b, j, none⟩ u) b T (cs.setIfInBounds j u) := heap_setCell_same w b j cs T u h
theorem VarA.aside (h : VarA w b T cs) {p : Addr} (hp : b ≠ p.block) (u : Value) : VarA (w.setCell p u) b T cs := (heap_setCell_other w p b u hp).trans h
theorem VarA.l1 {x0 : Value} (h : VarA w b T #[x0]) : w.cell? ⟨b, 0, none⟩ = some x0 := h.c 0 rfl
theorem VarA.l2 {x0 x1 : Value} (h : VarA w b T #[x0, x1]) : w.cell? ⟨b, 0, none⟩ = some x0 ∧ w.cell? ⟨b, 1, none⟩ = some x1 := ⟨h.c 0 rfl, h.c 1 rfl⟩
theorem VarA.l3 {x0 x1 x2 : Value} (h : VarA w b T #[x0, x1, x2]) : w.cell? ⟨b, 0, none⟩ = some x0 ∧ w.cell? ⟨b, 1, none⟩ = some x1 ∧ w.cell? ⟨b, 2, none⟩ = some x2 := ⟨h.c 0 rfl, h.c 1 rfl, h.c 2 rfl⟩
theorem VarA.l9 {x0 x1 x2 x3 x4 x5 x6 x7 x8 : Value} (h : VarA w b T #[x0, x1, x2, x3, x4, x5, x6, x7, x8]) : w.cell? ⟨b, 0, none⟩ = some x0 ∧ w.cell? ⟨b, 1, none⟩ = some x1 ∧ w.cell? ⟨b, 2, none⟩ = some x2 ∧ w.cell? ⟨b, 3, none⟩ = some x3 ∧ w.cell? ⟨b, 4, none⟩ = some x4 ∧ w.cell? ⟨b, 5, none⟩ = some x5 ∧ w.cell? ⟨b, 6, none⟩ = some x6 ∧ w.cell? ⟨b, 7, none⟩ = some x7 ∧ w.cell? ⟨b, 8, none⟩ = some x8 := ⟨h.c 0 rfl, h.c 1 rfl, h.c 2 rfl, h.c 3 rfl, h.c 4 rfl, h.c 5 rfl, h.c 6 rfl, h.c 7 rfl, h.c 8 rfl⟩
theorem VarA.l10 {x0 x1 x2 x3 x4 x5 x6 x7 x8 x9 : Value} (h : VarA w b T #[x0, x1, x2, x3, x4, x5, x6, x7, x8, x9]) : w.cell? ⟨b, 0, none⟩ = some x0 ∧ w.cell? ⟨b, 1, none⟩ = some x1 ∧ w.cell? ⟨b, 2, none⟩ = some x2 ∧ w.cell? ⟨b, 3, none⟩ = some x3 ∧ w.cell? ⟨b, 4, none⟩ = some x4 ∧ w.cell? ⟨b, 5, none⟩ = some x5 ∧ w.cell? ⟨b, 6, none⟩ = some x6 ∧ w.cell? ⟨b, 7, none⟩ = some x7 ∧ w.cell? ⟨b, 8, none⟩ = some x8 ∧ w.cell? ⟨b, 9, none⟩ = some x9 := ⟨h.c 0 rfl, h.c 1 rfl, h.c 2 rfl, h.c 3 rfl, h.c 4 rfl, h.c 5 rfl, h.c 6 rfl, h.c 7 rfl, h.c 8 rfl, h.c 9 rfl⟩
theorem VarA.fz (h : VarA w b T cs) : ∀ j, w.frozen? ⟨b, j, none⟩ = false := fun j => h.f j
theorem VarA.alloc (h : VarA w b T cs) (o : Obj) : VarA (w.alloc o) b T cs := ((World.grownBy_alloc w o none).block b h.lt (by simp)).trans h
end

theorem Below.new1 {w : World} (o : Obj) : Below w.heap.size w (w.alloc o) := (Below.refl _ _).alloc (Nat.le_refl _) _
theorem RdV.old {w : World} {S : Nat → Prop} {v : Value} {d : Dt} (r : RdV w S v d) : ∀ W, Below w.heap.size w W → RdV W S v d := fun W hW => r.step hW
end
section
section
variable {P : Program} {ops : Array Oper} {Q : Exit → Act → World → Prop} {md : Region.Mode} {S : World → Prop} {z : Nat}

def wpAnyZ (P : Program) (md : Region.Mode) (ops : Array Oper) (Q : Exit → Act → World → Prop) (S : World → Prop) (z : Nat) : Nat → Array Bool → Act → World → Prop
 | 0, listed, a, w => Region.ready md ops listed = [] ∧ Q .normal a w
 | fuel + 1, listed, a, w =>
  (Region.ready md ops listed = [] → Q .normal a w) ∧
  ∀ i ∈ Region.ready md ops listed, wpOp P ops Q i (fun a' w' => (i ≠ z → S w') ∧ wpAnyZ P md ops Q S z fuel (listed.setIfInBounds i true) a' w') a w
theorem wpAny_of_Z : ∀ (fuel : Nat) (listed : Array Bool) (a : Act) (w : World), wpAnyZ P md ops Q S z fuel listed a w → wpAny P md ops Q fuel listed a w
 | 0, _, _, _, h => h
 | fuel + 1, _, _, _, h => ⟨h.1, fun i hi => wpOp_mono (fun a' w' h' => wpAny_of_Z fuel _ a' w' h'.2) (h.2 i hi)⟩
theorem wpAnyZ_first {i : Nat} {oi : Oper} {v : Value} (hi : ops[i]? = some oi) (hsel : ∀ (j : Nat) (o : Oper) cs b, ops[j]? = some o → o.op ≠ .select cs b) (hzi : ∀ oz, ops[z]? = some oz → ∃ e ∈ oz.after, Region.binds md e = true ∧ e.on = i)
  (hQ : ∀ c a w, Q (.panic c) (a.put oi.dst v) w → Q (.panic c) a w) :
  ∀ (fuel : Nat) (listed : Array Bool) (a : Act) (w : World),
   (∀ j oj, ops[j]? = some oj → j ≠ i → listed.getD j true = false → (∀ e ∈ oj.after, Region.binds md e = true → e.on ≠ i) → oi.apart ops oj = true) →
   i ∈ Region.ready md ops listed → YieldsIf P ops S oi v a → S w →
   wpAnyZ P md ops Q S z fuel (listed.setIfInBounds i true) (a.put oi.dst v) w → wpAnyZ P md ops Q S z (fuel + 1) listed a w := by
 intro fuel
 induction fuel with
 | zero =>
  intro listed a w _ hr hy hS H
  refine ⟨fun h => (by rw [h] at hr; cases hr), fun j hj => ?_⟩
  by_cases hji : j = i
  ·subst hji; exact hy.wpOp hi hS ⟨fun _ => hS, H⟩
  ·have := ready_mono hj hji
   rw [H.1] at this
   cases this
 | succ fuel ih =>
  intro listed a w hfree hr hy hS H
  refine ⟨fun h => (by rw [h] at hr; cases hr), fun j hj => ?_⟩
  by_cases hji : j = i
  ·subst hji; exact hy.wpOp hi hS ⟨fun _ => hS, H⟩
  ·have h1 := H.2 j (ready_mono hj hji)
   obtain ⟨hjun, oj, hoj, hall⟩ := mem_ready.1 hj
   have hnot : ∀ e ∈ oj.after, Region.binds md e = true → e.on ≠ i := fun e he hb heq => by
    have h1 := hall e he hb
    have h0 := (mem_ready.1 hr).1
    rw [heq] at h1
    rcases Nat.lt_or_ge i listed.size with h' | h'
    ·simp [h'] at h0 h1; rw [h0] at h1; cases h1
    ·simp [Array.getElem?_eq_none h'] at h1
   have hjz : j ≠ z := fun e => by
    subst e
    obtain ⟨e, he, hb, ho⟩ := hzi oj hoj
    exact hnot e he hb ho
   have h2 := wpOp_putIf hoj (hfree j oj hoj hji hjun hnot) (fun cs b => hsel i oi cs b hi) (fun cs b => hsel j oj cs b hoj) hQ hy h1
   have hfree' : ∀ k ok, ops[k]? = some ok → k ≠ i → (listed.setIfInBounds j true).getD k true = false →
     (∀ e ∈ ok.after, Region.binds md e = true → e.on ≠ i) → oi.apart ops ok = true := fun k ok hk hki hun hno => by
    refine hfree k ok hk hki ?_ hno
    by_cases hjk : j = k
    ·subst hjk; exact hjun
    ·rw [getD_set_ne true hjk] at hun; exact hun
   refine wpOp_mono (fun a' w' h3 => ⟨h3.2.1, ih (listed.setIfInBounds j true) a' w' hfree' (ready_mono hr (Ne.symm hji)) h3.1 (h3.2.1 hjz) ?_⟩) h2
   rw [Array.setIfInBounds_comm _ _ hji]
   exact h3.2.2
theorem wpAnyZ_take {i : Nat} {oi : Oper} {v : Value} {fuel : Nat} {listed : Array Bool} {a : Act} {w : World} (hi : ops[i]? = some oi)
  (hs : Region.noSelect ops = true) (hf : Region.free md ops listed i = true) (hr : (Region.ready md ops listed).contains i = true) (hz : (ops[z]?.map (fun o => o.after.any (fun e => Region.binds md e && e.on == i))) = some true)
  (hQ : ∀ c a w, Q (.panic c) (a.put oi.dst v) w → Q (.panic c) a w) (hy : YieldsIf P ops S oi v a) (hS : S w)
  (h : wpAnyZ P md ops Q S z fuel (listed.setIfInBounds i true) (a.put oi.dst v) w) : wpAnyZ P md ops Q S z (fuel + 1) listed a w :=
 wpAnyZ_first hi (Region.noSelect_spec hs) (fun oz ho => by
  rw [ho, Option.map_some, Option.some.injEq, Array.any_eq_true] at hz
  obtain ⟨k, hk, h3⟩ := hz
  rw [Bool.and_eq_true, beq_iff_eq] at h3
  exact ⟨_, Array.getElem_mem hk, h3.1, h3.2⟩) hQ fuel listed a w (Region.free_spec hi hf) (by simpa using hr) hy hS h
theorem wpAnyZ_done {listed : Array Bool} {a : Act} {w : World} (hr : Region.ready md ops listed = []) (h : Q .normal a w) :
  ∀ fuel, wpAnyZ P md ops Q S z fuel listed a w
 | 0 => ⟨hr, h⟩
 | _ + 1 => ⟨fun _ => h, by rw [hr]; simp⟩
theorem wpAnyZ_one {i : Nat} {o : Oper} {fuel : Nat} {listed : Array Bool} {a : Act} {w : World} (hr : Region.ready md ops listed = [i]) (ho : ops[i]? = some o)
  (h : ∀ K' : Act → World → Prop, Shut (∀ a w, S w → (S w → wpAnyZ P md ops Q S z fuel (listed.setIfInBounds i true) a w) → K' a w) → if Region.wanted o (yielded ops a.tmps) = true then Oper.wp P o a w K' Q else K' (a.put o.dst undef) w) : wpAnyZ P md ops Q S z (fuel + 1) listed a w :=
 ⟨fun h0 => (by rw [hr] at h0; cases h0), fun j hj => by
  rw [hr] at hj
  simp only [List.mem_cons, List.not_mem_nil, or_false] at hj
  subst hj
  exact wpOp_step ho (fun K' hK => h K' (fun a w hS hW => hK a w ⟨fun _ => hS, hW hS⟩))⟩
theorem wpAnyZ_last {o : Oper} {fuel : Nat} {listed : Array Bool} {a : Act} {w : World} (hr : Region.ready md ops listed = [z]) (ho : ops[z]? = some o)
  (h : ∀ K' : Act → World → Prop, Shut (∀ a w, wpAnyZ P md ops Q S z fuel (listed.setIfInBounds z true) a w → K' a w) → if Region.wanted o (yielded ops a.tmps) = true then Oper.wp P o a w K' Q else K' (a.put o.dst undef) w) : wpAnyZ P md ops Q S z (fuel + 1) listed a w :=
 ⟨fun h0 => (by rw [hr] at h0; cases h0), fun j hj => by
  rw [hr] at hj
  simp only [List.mem_cons, List.not_mem_nil, or_false] at hj
  subst hj
  exact wpOp_step ho (fun K' hK => h K' (fun a w hW => hK a w ⟨fun h => absurd rfl h, hW⟩))⟩
theorem wp_region_Z {id : Nat} {a : Act} {w : World} (S : World → Prop) (z : Nat) (hm : P.follows .mixedOrders = true) (hS : S w.drew)
  (h : S w.drew → wpAnyZ P .any ops Q S z ops.size (Array.replicate ops.size false) a w.drew) : (Code.region id ops true).wp P Q a w :=
 wp_region_any hm (wpAny_of_Z _ _ _ _ (h hS))
end
end
section
theorem and255 (y : Int) : 0 ≤ bits .and .i64 y 255 ∧ bits .and .i64 y 255 ≤ 255 := by
 have h : (BitVec.ofInt 64 y &&& BitVec.ofInt 64 255).toNat ≤ 255 := by
  rw [BitVec.toNat_and]; exact Nat.le_trans Nat.and_le_right (by decide)
 have e : bits .and .i64 y 255 = IntKind.i64.wrap ((BitVec.ofInt 64 y &&& BitVec.ofInt 64 255).toNat : Int) := rfl
 rw [e]
 simp only [IntKind.wrap, IntKind.bits, IntKind.signed]
 generalize (BitVec.ofInt 64 y &&& BitVec.ofInt 64 255).toNat = n at h
 simp
 omega

def CurAt (w : World) (pb : Nat) : Prop :=
 ∃ (a : Option Addr) (zs : List Int) (cap i : Nat) (h : Int), isBytes zs ∧ zs.length ≤ maxLen ∧ i ≤ zs.length ∧
  (zs = [] ∨ ∃ b off, a = some ⟨b, off, none⟩ ∧ b < pb ∧ ∀ j, j < zs.length → w.cell? ⟨b, off + j, none⟩ = some (.int .u8 (zs[j]?.getD 0))) ∧
  w.heap[pb]? = some (.cells #[.slice a zs.length cap, .i i, .i h] 184 (0, 0))

theorem grown_refl (w : World) (r : Option Nat) : w.grownBy w r := ⟨rfl, rfl, rfl, Nat.le_refl _, fun _ _ _ => rfl⟩

theorem grown_drewN {a w : World} {r : Option Nat} (h : a.grownBy w r) (n : Nat) : a.grownBy (w.drewN n) r := ⟨h.os, h.tape, h.output, h.size, h.block⟩

theorem grown_set {a w : World} {p j : Nat} (h : a.grownBy w (some p)) (u : Value) : a.grownBy (w.setCell ⟨p, j, none⟩ u) (some p) :=
 grown_trans h ⟨rfl, rfl, rfl, by simp, fun k _ hk => heap_setCell_other w ⟨p, j, none⟩ k u (fun e => hk (by simp [e]))⟩

theorem grown_below {w w' : World} {r : Option Nat} (h : Below w.heap.size w w') : w.grownBy w' r := ⟨h.os, h.tape, h.output, h.size, fun k hk _ => h.block k hk⟩

theorem below_grown {w0 w w' : World} {B p : Nat} (h : Below B w0 w) (hg : w.grownBy w' (some p)) (hB : B ≤ w.heap.size) (hp : B ≤ p) : Below B w0 w' := h.grown hg hB (fun k hk => by cases hk; exact hp)

theorem CurAt.lt {w : World} {pb : Nat} (h : CurAt w pb) : pb < w.heap.size := by
 obtain ⟨_, _, _, _, _, _, _, _, _, hh⟩ := h
 exact lt_of_block hh

theorem CurAt.grown {w w' : World} {pb : Nat} {r : Option Nat} (h : CurAt w pb) (hg : w.grownBy w' r) (hr : ∀ k, r = some k → pb < k) : CurAt w' pb := by
 have hlt := h.lt
 obtain ⟨a, zs, cap, i, hh, h1, h2, h3, h4, h5⟩ := h
 refine ⟨a, zs, cap, i, hh, h1, h2, h3, ?_, ?_⟩
 ·rcases h4 with h4 | ⟨b, off, ha, hb, hc⟩
  ·exact .inl h4
  ·exact .inr ⟨b, off, ha, hb, fun j hj => hg.cell (hc j hj) (fun e => by have := hr _ e.symm; simp at this; omega)⟩
 ·rw [hg.block pb hlt (fun e => by have := hr _ e.symm; omega)]; exact h5

theorem CurAt.below {w w' : World} {pb : Nat} (h : CurAt w pb) (hb : Below w.heap.size w w') : CurAt w' pb := h.grown (r := none) (grown_below hb) (fun k hk => by cases hk)

theorem cur_turned {w w' : World} {pb : Nat} {a : Option Addr} {zs : List Int} {cap i : Nat} {h : Int} (hzb : isBytes zs) (hzl : zs.length ≤ maxLen) (hi : i ≤ zs.length)
  (hc : zs = [] ∨ ∃ b off, a = some ⟨b, off, none⟩ ∧ b < pb ∧ ∀ j, j < zs.length → w.cell? ⟨b, off + j, none⟩ = some (.int .u8 (zs[j]?.getD 0)))
  (hg : w.grownBy w' (some pb)) (hh : w'.heap[pb]? = some (.cells #[.slice a zs.length cap, .i i, .i h] 184 (0, 0))) : CurAt w' pb := by
 refine ⟨a, zs, cap, i, h, hzb, hzl, hi, ?_, hh⟩
 rcases hc with h0 | ⟨b, off, ha, hb, hc⟩
 ·exact .inl h0
 ·exact .inr ⟨b, off, ha, hb, fun j hj => hg.cell (hc j hj) (fun e => by simp at e; omega)⟩

set_option maxHeartbeats 1000000 in
theorem byte_any (pb : Nat) (w : World) (h : CurAt w pb) :
  Calls Tryz.prog 158 #[.pointer (some ⟨pb, 0, none⟩)] w fun e w' => ∃ x : Int, e = .returned (.i x) ∧ 0 ≤ x ∧ x ≤ 255 ∧ CurAt w' pb ∧ w.grownBy w' (some pb) := by
 obtain ⟨a, zs, cap, i, hh, hzb, hzl, hi, hcode, hheap⟩ := h
 obtain ⟨L, hL⟩ : ∃ L, zs.length = L := ⟨_, rfl⟩
 have c0 : w.cell? ⟨pb, 0, none⟩ = some (.slice a L cap) := by rw [cell_of_row w pb 0 _ _ _ hheap, ← hL]; rfl
 have c1 : w.cell? ⟨pb, 1, none⟩ = some (.i i) := by rw [cell_of_row w pb 1 _ _ _ hheap]; rfl
 have c2 : w.cell? ⟨pb, 2, none⟩ = some (.i hh) := by rw [cell_of_row w pb 2 _ _ _ hheap]; rfl
 have f1 : w.frozen? ⟨pb, 1, none⟩ = false := frozen_of_row w pb 1 _ _ hheap
 have f2 : w.frozen? ⟨pb, 2, none⟩ = false := frozen_of_row w pb 2 _ _ hheap
 have HH : Hid _ := hheap
 have HC : Hid _ := hcode
 have HL : Hid _ := hL
 have hLi : i ≤ L := by omega
 have hLm : L ≤ 9223372036854775807 := by unfold maxLen at hzl; omega
 clear hheap hcode hi hzl hL
 go_enter Tryz.func158, Tryz.ntmps158
 go_wp2
 generalize wrap64 (wrap64 (hh * 6364136223846793005) + 1442695040888963407) = H
 go_quiet (fail)
 go_wp2
 have hx := and255 (bits BinOp.xor IntKind.i64 (H / 8589934592) (H / 35184372088832))
 generalize bits BinOp.and IntKind.i64 (bits BinOp.xor IntKind.i64 (H / 8589934592) (H / 35184372088832)) 255 = x at hx
 by_cases hlt : i < L
 ·rcases HC.out with h0 | ⟨b, off, rfl, hb, hc⟩
  ·have := HL.out; rw [h0] at this; simp at this; omega
  have hc1 := hc i (by rw [HL.out]; exact hlt)
  have hcb := hzb i
  generalize zs[i]?.getD 0 = c at hc1 hcb
  clear hc
  go_quiet (fail)
  go_wp2
  go_quiet (fail)
  go_wp2
  go_ret
  have hy := and255 (x + c)
  have e1 := heap_setCell_same w pb 2 _ _ (.i H) HH.out
  have e2 := fun n => heap_setCell_same ((w.setCell ⟨pb, 2, none⟩ (.i H)).drewN n) pb 1 _ _ (.i ((i : Int) + 1)) e1
  have hgr := fun n => grown_set (j := 1) (grown_drewN (grown_set (j := 2) (grown_refl w (some pb)) (.i H)) n) (.i ((i : Int) + 1))
  exact ⟨_, rfl, hy.1, hy.2, cur_turned (i := i + 1) (h := H) hzb (by rw [HL.out]; unfold maxLen; omega) (by rw [HL.out]; omega) HC.out (hgr _) (e2 _), hgr _⟩
 ·go_quiet (fail)
  go_wp2
  go_ret
  have e1 := heap_setCell_same w pb 2 _ _ (.i H) HH.out
  have hgr := fun n m => grown_drewN (grown_drewN (grown_set (j := 2) (grown_refl w (some pb)) (.i H)) n) m
  exact ⟨_, rfl, hx.1, hx.2, cur_turned (i := i) (h := H) hzb (by rw [HL.out]; unfold maxLen; omega) (by rw [HL.out]; omega) HC.out (hgr _ _) e1, hgr _ _⟩

set_option maxHeartbeats 1000000 in
theorem below_any (pb : Nat) (n : Int) (w : World) (h : CurAt w pb) (h0 : 0 < n) (hn : n ≤ 9223372036854775807) :
  Calls Tryz.prog 138 #[.pointer (some ⟨pb, 0, none⟩), .i n] w fun e w' => ∃ x : Int, e = .returned (.i x) ∧ 0 ≤ x ∧ x < n ∧ CurAt w' pb ∧ w.grownBy w' (some pb) := by
 by_cases h256 : n ≤ 256
 ·go_enter Tryz.func138, Tryz.ntmps138
  go_wp2_with fail
  refine (byte_any pb w h).mono ?_
  rintro e w1 ⟨x, rfl, hx0, hx1, hc1, hg1⟩
  go_wp2
  go_ret
  exact ⟨_, rfl, Int.emod_nonneg _ (by omega), Int.emod_lt_of_pos _ h0, hc1, hg1⟩
 ·go_enter Tryz.func138, Tryz.ntmps138
  go_wp2_with fail
  refine (byte_any pb w h).mono ?_
  rintro e w1 ⟨x, rfl, hx0, hx1, hc1, hg1⟩
  go_wp2_with fail
  refine (byte_any pb w1 hc1).mono ?_
  rintro e w2 ⟨y, rfl, hy0, hy1, hc2, hg2⟩
  go_wp2_with fail
  refine (byte_any pb w2 hc2).mono ?_
  rintro e w3 ⟨z, rfl, hz0, hz1, hc3, hg3⟩
  go_wp2_with fail
  refine (byte_any pb w3 hc3).mono ?_
  rintro e w4 ⟨u, rfl, hu0, hu1, hc4, hg4⟩
  go_wp2
  go_ret
  exact ⟨_, rfl, Int.emod_nonneg _ (by omega), Int.emod_lt_of_pos _ h0, hc4, grown_trans (grown_trans (grown_trans hg1 hg2) hg3) hg4⟩

theorem once_any (pb : Nat) (n : Int) (w : World) (h : CurAt w pb) (h0 : 0 < n) (hn : n ≤ 9223372036854775807) :
  Calls Tryz.prog 73 #[.pointer (some ⟨pb, 0, none⟩), .i n] w fun e w' => ∃ x : Bool, e = .returned (.bool x) ∧ CurAt w' pb ∧ w.grownBy w' (some pb) := by
 go_enter Tryz.func73, Tryz.ntmps73
 go_wp2_with fail
 refine (below_any pb n w h h0 hn).mono ?_
 rintro e w1 ⟨x, rfl, hx0, hx1, hc1, hg1⟩
 go_wp2
 go_ret
 exact ⟨_, rfl, hc1, hg1⟩

theorem pick_any (pb g : Nat) (xs : List Int) (w : World) (h : CurAt w pb) (h0 : 0 < xs.length) (hl : xs.length ≤ 100) (hne : g ≠ pb) (hg : w.heap[g]? = some (.cells (xs.map (Value.int .i64)).toArray 3 (0, 0))) :
  Calls Tryz.prog 87 #[.pointer (some ⟨pb, 0, none⟩), .slice (some ⟨g, 0, none⟩) xs.length xs.length] w fun e w' => ∃ x : Int, e = .returned (.i x) ∧ x ∈ xs ∧ CurAt w' pb ∧ w.grownBy w' (some pb) := by
 obtain ⟨L, hL⟩ : ∃ L, xs.length = L := ⟨_, rfl⟩
 have HL : Hid _ := hL
 rw [hL] at h0 hl ⊢
 have HG : Hid _ := hg
 clear hL hg
 go_enter Tryz.func87, Tryz.ntmps87
 go_wp2_with fail
 refine (below_any pb (L : Int) w h (by omega) (by omega)).mono ?_
 rintro e w1 ⟨x, rfl, hx0, hx1, hc1, hg1⟩
 obtain ⟨k, rfl⟩ : ∃ k : Nat, x = (k : Int) := ⟨x.toNat, by omega⟩
 have hk : k < xs.length := by rw [HL.out]; omega
 have hcell : w1.cell? ⟨g, k, none⟩ = some (.i xs[k]) := by
  refine hg1.cell ?_ (by simpa using hne)
  rw [cell_of_row w g k _ _ _ HG.out]
  simp [hk]
 have hmem : xs[k] ∈ xs := List.getElem_mem hk
 generalize xs[k] = y at hcell hmem
 go_wp2
 go_ret
 exact ⟨_, rfl, hmem, hc1, hg1⟩

theorem grown_new {a b c : World} {r r' : Option Nat} (h : a.grownBy b r) (k : b.grownBy c r') (hr : ∀ k, r' = some k → a.heap.size ≤ k) : a.grownBy c r :=
 ⟨k.os.trans h.os, k.tape.trans h.tape, k.output.trans h.output, Nat.le_trans h.size k.size, fun i hi hne => (k.block i (Nat.lt_of_lt_of_le hi h.size) (fun e => by have := hr i e.symm; omega)).trans (h.block i hi hne)⟩

theorem grown_alloc {a b : World} {r : Option Nat} (h : a.grownBy b r) (o : Obj) : a.grownBy (b.alloc o) r := grown_trans h (World.grownBy_alloc b o r)

theorem CurAt.alloc {w : World} {pb : Nat} (h : CurAt w pb) (o : Obj) : CurAt (w.alloc o) pb := h.grown (r := none) (World.grownBy_alloc w o none) (fun k hk => by cases hk)

theorem Owns.cur {w w' : World} {base pb : Nat} {v : Value} {zs : List Int} (h : Owns w base v zs) (hg : w.grownBy w' (some pb)) (hb : pb < base) : Owns w' base v zs := by
 refine World.ownsRow.kept h hg ?_
 cases hk : v.ownBlock with
 | none => exact .inl rfl
 | some k => exact .inr (fun e => by simp only [Option.some.injEq] at e; have := (h.lt k hk).1; omega)

theorem isBytes_snoc {ys : List Int} {x : Int} (h : isBytes ys) (h0 : 0 ≤ x) (h1 : x ≤ 255) : isBytes (ys ++ [x]) := isBytes_append h (isBytes_cons h0 h1 isBytes_nil)

theorem cur_new (w : World) (a : Option Addr) (zs : List Int) (len cap : Nat) (x : Int) (h : Reads w a zs) (hlen : len = zs.length) (hm : zs.length ≤ maxLen) : CurAt (w.alloc (.cells #[.slice a len cap, .i 0, .i x] 184)) w.heap.size := by
 subst hlen
 refine ⟨a, zs, cap, 0, x, h.1, hm, Nat.zero_le _, ?_, heap_alloc_new w _⟩
 rcases h.2 with h0 | ⟨b, off, ha, hb, hc⟩
 ·exact .inl h0
 ·exact .inr ⟨b, off, ha, hb, fun j hj => (World.cell?_alloc_past _ b (off + j) hb).trans (hc j hj)⟩

set_option maxHeartbeats 1000000 in
set_option maxRecDepth 100000 in
theorem new_any (a : Option Addr) (zs : List Int) (len cap : Nat) (w : World) (h : Reads w a zs) (hlen : len = zs.length) (hm : zs.length ≤ maxLen) :
  Calls Tryz.prog 51 #[.slice a len cap] w fun e w' => e = .returned (.pointer (some ⟨w.heap.size, 0, none⟩)) ∧ CurAt w' w.heap.size ∧ Below w.heap.size w w' := by
 have HLEN : Hid _ := hlen
 have hmm : len ≤ 9223372036854775807 := by unfold maxLen at hm; omega
 have HM : Hid _ := hm
 have HR : Hid _ := h
 clear h hlen hm
 go_enter Tryz.func51, Tryz.ntmps51
 go_wp2
 go_loop [3, 4] (fun q i => ∃ (k : Nat) (x : Int), k ≤ len ∧ k ≤ 4000 ∧ i = .i k ∧ q = .i x) (fun _ i => 4000 - (intOf i).toNat)
 case atStart => exact ⟨0, _, Nat.zero_le _, Nat.zero_le _, rfl, rfl⟩
 case round =>
  obtain ⟨k, x, hk, hk4, rfl, rfl⟩ := hrel
  by_cases hlt : k < len ∧ k < 4000
  ·obtain ⟨hlt, hlt4⟩ := hlt
   rcases HR.out.2 with h0 | ⟨b, off, rfl, hb, hc⟩
   ·have := HLEN.out; rw [h0] at this; simp at this; omega
   have hc1 := hc k (by rw [← HLEN.out]; exact hlt)
   generalize zs[k]?.getD 0 = c at hc1
   clear hc
   go_wp2
   go_round
   case rel => exact ⟨k + 1, _, by omega, by omega, by go_num, rfl⟩
   case measure => simp [intOf]; omega
  ·by_cases hlt1 : k < len
   ·have hge : 4000 ≤ k := by omega
    go_wp2
    go_ret
    exact ⟨rfl, cur_new w a zs len cap x HR.out HLEN.out HM.out, (Below.refl _ _).alloc (Nat.le_refl _) _⟩
   ·go_wp2
    go_ret
    exact ⟨rfl, cur_new w a zs len cap x HR.out HLEN.out HM.out, (Below.refl _ _).alloc (Nat.le_refl _) _⟩
end
section
abbrev Hd := Int × Int × Bool
abbrev Hd.sh (h : Hd) : Int := h.1
abbrev Hd.ino (h : Hd) : Int := h.2.1
abbrev Hd.dir (h : Hd) : Bool := h.2.2
abbrev Hd.v (h : Hd) : Value := .agg #[.i h.sh, .i h.ino, .bool h.dir]

theorem Below.newH {w : World} (o : Obj) : Below w.heap.size w (w.alloc o) := (Below.refl _ _).alloc (Nat.le_refl _) _
theorem Below.newH2 {w : World} (o o' : Obj) : Below w.heap.size w ((w.alloc o).alloc o') := ((Below.refl _ _).alloc (Nat.le_refl _) _).alloc (by simp) _
def HOk (h : Hd) : Bool := decide (0 ≤ h.sh) && (decide (h.sh < 4) && (decide (1 ≤ h.ino) && decide (h.ino ≤ 2147483647)))

theorem specHandleOk_w (h : Hd) (w : World) : Calls Tryz.prog 63 #[h.v] w fun e w' => e = .returned (.bool (HOk h)) ∧ w' = w.alloc (.cells #[.i h.sh, .i h.ino, .bool h.dir] 24) := by
 obtain ⟨s, i, d⟩ := h
 go_enter Tryz.func63, Tryz.ntmps63
 go_wp2
 all_goals (go_ret; exact ⟨by first | rfl | (simp_all [HOk] <;> omega), rfl⟩)
theorem specHandleOk_any (h : Hd) (w : World) : Calls Tryz.prog 63 #[h.v] w fun e w' => e = .returned (.bool (HOk h)) ∧ Below w.heap.size w w' :=
 (specHandleOk_w h w).mono fun e w' ⟨he, hw⟩ => ⟨he, by rw [hw]; exact Below.newH _⟩
theorem implHandleOk_w (h : Hd) (w : World) : Calls Tryz.prog 110 #[h.v] w fun e w' => e = .returned (.bool (HOk h)) ∧ w' = w.alloc (.cells #[.i h.sh, .i h.ino, .bool h.dir] 24) := by
 obtain ⟨s, i, d⟩ := h
 go_enter Tryz.func110, Tryz.ntmps110
 go_wp2
 all_goals (go_ret; exact ⟨by first | rfl | (simp_all [HOk] <;> omega), rfl⟩)
theorem implHandleOk_any (h : Hd) (w : World) : Calls Tryz.prog 110 #[h.v] w fun e w' => e = .returned (.bool (HOk h)) ∧ Below w.heap.size w w' :=
 (implHandleOk_w h w).mono fun e w' ⟨he, hw⟩ => ⟨he, by rw [hw]; exact Below.newH _⟩
end
section
structure En where
 nm : List Int
 h : Hd
structure Nd where
 h : Hd
 par : Hd
 links : Int
 val : Int
 es : List En
structure OpD where
 kind : Int
 dir : Hd
 nm : List Int
 to : Hd
 asn : List Int
 val : Int

def hd0 : Hd := (0, 0, false)
def en0 : En := ⟨[], hd0⟩
def nd0 : Nd := ⟨hd0, hd0, 0, 0, []⟩
def enCell (e : En) : Nat → Dt
 | 0 => .bytes e.nm
 | 1 => .int e.h.sh
 | 2 => .int e.h.ino
 | _ => .bool e.h.dir
def ensDt (l : List En) : Dt := .rows 139 4 l.length (fun i j => enCell (l[i]?.getD en0) j)
def ndCell (n : Nd) : Nat → Dt
 | 0 => .int n.h.sh
 | 1 => .int n.h.ino
 | 2 => .bool n.h.dir
 | 3 => .int n.par.sh
 | 4 => .int n.par.ino
 | 5 => .bool n.par.dir
 | 6 => .int n.links
 | 7 => .int n.val
 | _ => ensDt n.es
def ndsDt (l : List Nd) : Dt := .rows 133 9 l.length (fun i j => ndCell (l[i]?.getD nd0) j)

abbrev enV (nm : Value) (h : Hd) : Value := .agg #[nm, .i h.sh, .i h.ino, .bool h.dir]
abbrev ndV (n : Nd) (es : Value) : Value := .agg #[.i n.h.sh, .i n.h.ino, .bool n.h.dir, .i n.par.sh, .i n.par.ino, .bool n.par.dir, .i n.links, .i n.val, es]
abbrev opV (o : OpD) (x y : Value) : Value := .agg #[.i o.kind, .i o.dir.sh, .i o.dir.ino, .bool o.dir.dir, x, .i o.to.sh, .i o.to.ino, .bool o.to.dir, y, .i o.val]

def szEns (l : List En) : Nat := l.length + (l.map (fun e => e.nm.length)).sum
def szNds (l : List Nd) : Nat := l.length + (l.map (fun n => szEns n.es)).sum
theorem sum_at {α : Type} (f : α → Nat) : ∀ (l : List α) (i : Nat) (a : α), l[i]? = some a → f a ≤ (l.map f).sum
 | [], i, a, h => by simp at h
 | x :: r, 0, a, h => by simp at h; subst h; simp
 | x :: r, i + 1, a, h => by
  have := sum_at f r i a (by simpa using h)
  simp; omega
theorem szEns_at (l : List En) (i : Nat) : (l[i]?.getD en0).nm.length ≤ szEns l := by
 cases h : l[i]? with
 | none => simp [en0]
 | some a => have := sum_at (fun e : En => e.nm.length) l i a h; simp [szEns]; omega
theorem szNds_at (l : List Nd) (i : Nat) : szEns (l[i]?.getD nd0).es ≤ szNds l := by
 cases h : l[i]? with
 | none => simp [nd0, szEns]
 | some a => have := sum_at (fun n : Nd => szEns n.es) l i a h; simp [szNds]; omega
end
section
abbrev TxD := Int × Int × Int
structure PtD where
 kind : Int
 h : Hd
 asn : List Int
 to : Hd
structure RpD where
 code : Int
 h : Hd
 val : Int
 list : List En
structure MsD where
 kind : Int
 fr : Int
 to : Int
 req : Int
 op : OpD
 rp : RpD
 tx : TxD
 pt : PtD
 code : Int
 h : Hd
def tx0 : TxD := (0, 0, 0)
def op0 : OpD := ⟨0, hd0, [], hd0, [], 0⟩
def rp0 : RpD := ⟨0, hd0, 0, []⟩
def pt0 : PtD := ⟨0, hd0, [], hd0⟩
def ms0 : MsD := ⟨0, 0, 0, 0, op0, rp0, tx0, pt0, 0, hd0⟩
abbrev txV (t : TxD) : Value := .agg #[.i t.1, .i t.2.1, .i t.2.2]
abbrev ptV (p : PtD) (u : Value) : Value := .agg #[.i p.kind, .i p.h.sh, .i p.h.ino, .bool p.h.dir, u, .i p.to.sh, .i p.to.ino, .bool p.to.dir]
abbrev rpV (r : RpD) (z : Value) : Value := .agg #[.i r.code, .i r.h.sh, .i r.h.ino, .bool r.h.dir, .i r.val, z]
abbrev msV (m : MsD) (x y z u : Value) : Value := .agg #[.i m.kind, .i m.fr, .i m.to, .i m.req, .i m.op.kind, .i m.op.dir.sh, .i m.op.dir.ino, .bool m.op.dir.dir, x, .i m.op.to.sh, .i m.op.to.ino, .bool m.op.to.dir, y, .i m.op.val, .i m.rp.code, .i m.rp.h.sh, .i m.rp.h.ino, .bool m.rp.h.dir, .i m.rp.val, z, .i m.tx.1, .i m.tx.2.1, .i m.tx.2.2, .i m.pt.kind, .i m.pt.h.sh, .i m.pt.h.ino, .bool m.pt.h.dir, u, .i m.pt.to.sh, .i m.pt.to.ino, .bool m.pt.to.dir, .i m.code, .i m.h.sh, .i m.h.ino, .bool m.h.dir]
theorem VarA.l6 {w : World} {b : Nat} {T : TypeId} {x0 x1 x2 x3 x4 x5 : Value} (h : VarA w b T #[x0, x1, x2, x3, x4, x5]) : w.cell? ⟨b, 0, none⟩ = some x0 ∧ w.cell? ⟨b, 1, none⟩ = some x1 ∧ w.cell? ⟨b, 2, none⟩ = some x2 ∧ w.cell? ⟨b, 3, none⟩ = some x3 ∧ w.cell? ⟨b, 4, none⟩ = some x4 ∧ w.cell? ⟨b, 5, none⟩ = some x5 := ⟨h.c 0 rfl, h.c 1 rfl, h.c 2 rfl, h.c 3 rfl, h.c 4 rfl, h.c 5 rfl⟩
theorem VarA.l8 {w : World} {b : Nat} {T : TypeId} {x0 x1 x2 x3 x4 x5 x6 x7 : Value} (h : VarA w b T #[x0, x1, x2, x3, x4, x5, x6, x7]) : w.cell? ⟨b, 0, none⟩ = some x0 ∧ w.cell? ⟨b, 1, none⟩ = some x1 ∧ w.cell? ⟨b, 2, none⟩ = some x2 ∧ w.cell? ⟨b, 3, none⟩ = some x3 ∧ w.cell? ⟨b, 4, none⟩ = some x4 ∧ w.cell? ⟨b, 5, none⟩ = some x5 ∧ w.cell? ⟨b, 6, none⟩ = some x6 ∧ w.cell? ⟨b, 7, none⟩ = some x7 := ⟨h.c 0 rfl, h.c 1 rfl, h.c 2 rfl, h.c 3 rfl, h.c 4 rfl, h.c 5 rfl, h.c 6 rfl, h.c 7 rfl⟩
theorem VarA.l35 {w : World} {b : Nat} {T : TypeId} {x0 x1 x2 x3 x4 x5 x6 x7 x8 x9 x10 x11 x12 x13 x14 x15 x16 x17 x18 x19 x20 x21 x22 x23 x24 x25 x26 x27 x28 x29 x30 x31 x32 x33 x34 : Value} (h : VarA w b T #[x0, x1, x2, x3, x4, x5, x6, x7, x8, x9, x10, x11, x12, x13, x14, x15, x16, x17, x18, x19, x20, x21, x22, x23, x24, x25, x26, x27, x28, x29, x30, x31, x32, x33, x34]) : w.cell? ⟨b, 0, none⟩ = some x0 ∧ w.cell? ⟨b, 1, none⟩ = some x1 ∧ w.cell? ⟨b, 2, none⟩ = some x2 ∧ w.cell? ⟨b, 3, none⟩ = some x3 ∧ w.cell? ⟨b, 4, none⟩ = some x4 ∧ w.cell? ⟨b, 5, none⟩ = some x5 ∧ w.cell? ⟨b, 6, none⟩ = some x6 ∧ w.cell? ⟨b, 7, none⟩ = some x7 ∧ w.cell? ⟨b, 8, none⟩ = some x8 ∧ w.cell? ⟨b, 9, none⟩ = some x9 ∧ w.cell? ⟨b, 10, none⟩ = some x10 ∧ w.cell? ⟨b, 11, none⟩ = some x11 ∧ w.cell? ⟨b, 12, none⟩ = some x12 ∧ w.cell? ⟨b, 13, none⟩ = some x13 ∧ w.cell? ⟨b, 14, none⟩ = some x14 ∧ w.cell? ⟨b, 15, none⟩ = some x15 ∧ w.cell? ⟨b, 16, none⟩ = some x16 ∧ w.cell? ⟨b, 17, none⟩ = some x17 ∧ w.cell? ⟨b, 18, none⟩ = some x18 ∧ w.cell? ⟨b, 19, none⟩ = some x19 ∧ w.cell? ⟨b, 20, none⟩ = some x20 ∧ w.cell? ⟨b, 21, none⟩ = some x21 ∧ w.cell? ⟨b, 22, none⟩ = some x22 ∧ w.cell? ⟨b, 23, none⟩ = some x23 ∧ w.cell? ⟨b, 24, none⟩ = some x24 ∧ w.cell? ⟨b, 25, none⟩ = some x25 ∧ w.cell? ⟨b, 26, none⟩ = some x26 ∧ w.cell? ⟨b, 27, none⟩ = some x27 ∧ w.cell? ⟨b, 28, none⟩ = some x28 ∧ w.cell? ⟨b, 29, none⟩ = some x29 ∧ w.cell? ⟨b, 30, none⟩ = some x30 ∧ w.cell? ⟨b, 31, none⟩ = some x31 ∧ w.cell? ⟨b, 32, none⟩ = some x32 ∧ w.cell? ⟨b, 33, none⟩ = some x33 ∧ w.cell? ⟨b, 34, none⟩ = some x34 := ⟨h.c 0 rfl, h.c 1 rfl, h.c 2 rfl, h.c 3 rfl, h.c 4 rfl, h.c 5 rfl, h.c 6 rfl, h.c 7 rfl, h.c 8 rfl, h.c 9 rfl, h.c 10 rfl, h.c 11 rfl, h.c 12 rfl, h.c 13 rfl, h.c 14 rfl, h.c 15 rfl, h.c 16 rfl, h.c 17 rfl, h.c 18 rfl, h.c 19 rfl, h.c 20 rfl, h.c 21 rfl, h.c 22 rfl, h.c 23 rfl, h.c 24 rfl, h.c 25 rfl, h.c 26 rfl, h.c 27 rfl, h.c 28 rfl, h.c 29 rfl, h.c 30 rfl, h.c 31 rfl, h.c 32 rfl, h.c 33 rfl, h.c 34 rfl⟩
def RdM (w : World) (S : Nat → Prop) (m : MsD) (x y z u : Value) : Prop := RdV w S x (.bytes m.op.nm) ∧ RdV w S y (.bytes m.op.asn) ∧ RdV w S z (ensDt m.rp.list) ∧ RdV w S u (.bytes m.pt.asn)
theorem RdM.step {w w' : World} {S : Nat → Prop} {m : MsD} {x y z u : Value} (r : RdM w S m x y z u) (hb : Below w.heap.size w w') : RdM w' S m x y z u := ⟨r.1.step hb, r.2.1.step hb, r.2.2.1.step hb, r.2.2.2.step hb⟩
theorem RdM.mono {w : World} {S S' : Nat → Prop} {m : MsD} {x y z u : Value} (r : RdM w S m x y z u) (hs : ∀ b, S b → S' b) : RdM w S' m x y z u := ⟨r.1.mono hs, r.2.1.mono hs, r.2.2.1.mono hs, r.2.2.2.mono hs⟩
def OwM (w : World) (S : Nat → Prop) (m : MsD) (x y z u : Value) : Prop :=
 ∃ Q1 Q2 Q3 Q4 : Nat → Prop, OwV w Q1 x (.bytes m.op.nm) ∧ OwV w Q2 y (.bytes m.op.asn) ∧ OwV w Q3 z (ensDt m.rp.list) ∧ OwV w Q4 u (.bytes m.pt.asn) ∧
  (∀ b, Q1 b ∨ Q2 b ∨ Q3 b ∨ Q4 b → S b) ∧ (∀ b, Q1 b → ¬ Q2 b ∧ ¬ Q3 b ∧ ¬ Q4 b) ∧ (∀ b, Q2 b → ¬ Q3 b ∧ ¬ Q4 b) ∧ (∀ b, Q3 b → ¬ Q4 b)
theorem OwM.rd {w : World} {S : Nat → Prop} {m : MsD} {x y z u : Value} (o : OwM w S m x y z u) : RdM w S m x y z u := by
 obtain ⟨Q1, Q2, Q3, Q4, o1, o2, o3, o4, hs, _⟩ := o
 exact ⟨OwV.rd (o1.mono (fun b h => hs b (.inl h))), OwV.rd (o2.mono (fun b h => hs b (.inr (.inl h)))), OwV.rd (o3.mono (fun b h => hs b (.inr (.inr (.inl h))))), OwV.rd (o4.mono (fun b h => hs b (.inr (.inr (.inr h)))))⟩
theorem OwM.keep {w w' : World} {S : Nat → Prop} {m : MsD} {x y z u : Value} (o : OwM w S m x y z u) (t : Keeps S w w') : OwM w' S m x y z u := by
 obtain ⟨Q1, Q2, Q3, Q4, o1, o2, o3, o4, hs, h⟩ := o
 exact ⟨Q1, Q2, Q3, Q4, o1.keep (t.mono (fun b h => hs b (.inl h))), o2.keep (t.mono (fun b h => hs b (.inr (.inl h)))), o3.keep (t.mono (fun b h => hs b (.inr (.inr (.inl h))))), o4.keep (t.mono (fun b h => hs b (.inr (.inr (.inr h))))), hs, h⟩
theorem OwM.mono {w : World} {S S' : Nat → Prop} {m : MsD} {x y z u : Value} (o : OwM w S m x y z u) (t : ∀ b, S b → S' b) : OwM w S' m x y z u := by
 obtain ⟨Q1, Q2, Q3, Q4, o1, o2, o3, o4, hs, h⟩ := o
 exact ⟨Q1, Q2, Q3, Q4, o1, o2, o3, o4, fun b hb => t b (hs b hb), h⟩
def szMs (m : MsD) : Nat := m.op.nm.length + m.op.asn.length + szEns m.rp.list + m.pt.asn.length
end
section
theorem storeF_run {P : Program} {w : World} {g off : Nat} {T ty : TypeId} {old vs : Array Value} (hv : VarA w g T old) (hl : off + vs.size ≤ old.size) (hi : (P.info? ty).map (·.size) = some vs.size) (h1 : vs.toList.all (·.oneCell') = true) :
    (storeVar ty ⟨g, off, none⟩ (.agg vs)).run P w = .ok () (w.setRow g (old.toList.take off ++ vs.toList ++ old.toList.drop (off + vs.size)).toArray) := by
  have h := run_storeCells_at (P := P) g off T vs.toList 0 old w hv (by simpa using hl) (fun v hv => (List.all_eq_true.1 h1) v hv)
  cases hq : P.info? ty with
  | none => simp [hq] at hi
  | some i =>
    have hs : vs.size = i.size := by simp [hq] at hi; omega
    simp only [Nat.add_zero, Array.length_toList] at h
    simp [storeVar, sizeOf, typeInfo, hq, Value.cells, hs, h]
theorem VarA.row {w : World} {g : Nat} {T : TypeId} {old new : Array Value} (hv : VarA w g T old) : VarA (w.setRow g new) g T new := setRow_heap w g old new T _ hv
theorem turned_row (w : World) (g : Nat) (new : Array Value) : Turned (fun b => b = g) w (w.setRow g new) := ⟨rfl, rfl, rfl, by simp [World.setRow], fun k _ hk => setRow_other w g k new (fun e => hk e)⟩
theorem wpList_storeF {ty t' : TypeId} {dst : Option Tmp} {x y : Operand} {pos : String} {af : Array Edge} {ops : Array Oper} {rest : List Oper} {a : Act} {Q : Exit → Act → World → Prop} {w : World} {g off : Nat} {T : TypeId} {old vs new : Array Value}
    (hv : VarA w g T old) (hx : a.eval x = .pointer (some ⟨g, off, none⟩)) (hy : a.eval y = .agg vs) (hi : (Tryz.prog.info? ty).map (·.size) = some vs.size) (h1 : vs.toList.all (·.oneCell') = true) (hl : off + vs.size ≤ old.size)
    (hnew : (old.toList.take off ++ vs.toList ++ old.toList.drop (off + vs.size)).toArray = new)
    (hK : ∀ w', VarA w' g T new → Turned (fun b => b = g) w w' → wpList Tryz.prog ops Q rest (a.put dst undef) w') :
    wpList Tryz.prog ops Q (⟨dst, .store ty x y, t', pos, af, none⟩ :: rest) a w := by
  refine wpList_plain rfl fun K' hK' => ?_
  unfold Oper.wp execOp
  simp only [hx, hy, Instr.storeAt, Instr.sureAddr, Sem.run_bind, Sem.run_pure, Result.andThen_ok, storeF_run hv hl hi h1]
  rw [hnew]
  exact hK' _ _ (hK _ (VarA.row hv) (turned_row w g new))
theorem guardStore {ty t' : TypeId} {dst : Option Tmp} {x y : Operand} {pos : String} {af : Array Edge} {ops : Array Oper} {rest : List Oper} {a : Act} {Q : Exit → Act → World → Prop} {w : World}
    (h : wpList Tryz.prog ops Q (⟨dst, .store ty x y, t', pos, af, none⟩ :: rest) a w) : wpList Tryz.prog ops Q (⟨dst, .store ty x y, t', pos, af, none⟩ :: rest) a w := h
theorem guardLoad {ty t' : TypeId} {dst : Option Tmp} {x : Operand} {pos : String} {af : Array Edge} {ops : Array Oper} {rest : List Oper} {a : Act} {Q : Exit → Act → World → Prop} {w : World}
    (h : wpList Tryz.prog ops Q (⟨dst, .load ty x, t', pos, af, none⟩ :: rest) a w) : wpList Tryz.prog ops Q (⟨dst, .load ty x, t', pos, af, none⟩ :: rest) a w := h
theorem rangeA {w : World} {g : Nat} {T : TypeId} {cs : Array Value} {off : Nat} {vs : List Value} (hv : VarA w g T cs) (hvs : (cs.toList.drop off).take vs.length = vs) : w.rangeAt g off vs := by
  intro j v hj
  rw [cell_of_row _ _ _ _ _ _ hv]
  rw [← hvs] at hj
  have hj' : j < vs.length := by
    rw [List.getElem?_take] at hj
    split at hj
    · assumption
    · cases hj
  rw [List.getElem?_take, if_pos hj', List.getElem?_drop] at hj
  simpa using hj
theorem loadA_run {w : World} {g : Nat} {T ty : TypeId} {cs : Array Value} {d : TypeDesc} (hv : VarA w g T cs) (hu : Tryz.prog.underlying ty = some d) (hd : d.isRow = true) (hi : (Tryz.prog.info? ty).map (·.size) = some cs.size) : (loadVar ty ⟨g, 0, none⟩).run Tryz.prog w = .ok (.agg cs) w := by
  have h := run_loadVar_mid (P := Tryz.prog) w g 0 ty cs.toList d (rangeA hv (by rw [List.drop_zero, List.take_length])) hu hd (by simpa using hi)
  simpa using h
theorem loadAt_run {w : World} {g : Nat} {T ty : TypeId} {cs : Array Value} {d : TypeDesc} (hv : VarA w g T cs) (hu : Tryz.prog.underlying ty = some d) (hd : d.isRow = true) (hi : (Tryz.prog.info? ty).map (·.size) = some cs.size) : (Instr.loadAt ty (.pointer (some ⟨g, 0, none⟩))).run Tryz.prog w = .ok (.agg cs) w := by
  simp only [Instr.loadAt, Instr.sureAddr, Sem.run_bind, Sem.run_pure, Result.andThen_ok, loadA_run hv hu hd hi]
theorem wpList_loadA {ty t' : TypeId} {dst : Option Tmp} {x : Operand} {pos : String} {af : Array Edge} {ops : Array Oper} {rest : List Oper} {a : Act} {Q : Exit → Act → World → Prop} {w : World} {g : Nat} {T : TypeId} {cs : Array Value} {d : TypeDesc}
    (hv : VarA w g T cs) (hx : a.eval x = .pointer (some ⟨g, 0, none⟩)) (hu : Tryz.prog.underlying ty = some d) (hd : d.isRow = true) (hi : (Tryz.prog.info? ty).map (·.size) = some cs.size)
    (hK : wpList Tryz.prog ops Q rest (a.put dst (.agg cs)) w) :
    wpList Tryz.prog ops Q (⟨dst, .load ty x, t', pos, af, none⟩ :: rest) a w := by
  refine wpList_plain rfl fun K' hK' => ?_
  unfold Oper.wp execOp
  simp only [hx, Instr.loadAt, Instr.sureAddr, Sem.run_bind, Sem.run_pure, Result.andThen_ok, loadA_run hv hu hd hi]
  exact hK' _ _ hK
theorem wpQuiet_loadA {ty t' : TypeId} {dst : Option Tmp} {x : Operand} {pos : String} {af : Array Edge} {gd : Option (Nat × Bool)} {ops : Array Oper} {rest : List Oper} {a : Act} {Q : Act → Prop} {C : World → Prop} {g : Nat} {T : TypeId} {cs : Array Value} {d : TypeDesc}
    (hv : ∀ w, C w → VarA w g T cs) (hw : Region.wanted ⟨dst, .load ty x, t', pos, af, gd⟩ (yielded ops a.tmps) = true) (hx : a.eval x = .pointer (some ⟨g, 0, none⟩)) (hu : Tryz.prog.underlying ty = some d) (hd : d.isRow = true) (hi : (Tryz.prog.info? ty).map (·.size) = some cs.size)
    (h : wpQuiet Tryz.prog ops C Q rest (a.put dst (.agg cs))) :
    wpQuiet Tryz.prog ops C Q (⟨dst, .load ty x, t', pos, af, gd⟩ :: rest) a :=
  BigFrame.wpQuiet_want hw fun K hK => ⟨.agg cs, fun w hC => by
    unfold Oper.quietAt execOp
    simp only [hx, Sem.run_bind, loadAt_run (hv w hC) hu hd hi, Sem.run_pure, Result.andThen_ok]
    exact ⟨rfl, rfl⟩, hK _ h⟩
theorem VarA.dr {w : World} {b : Nat} {T : TypeId} {cs : Array Value} (h : VarA w b T cs) : VarA w.drew b T cs := h
theorem Turned.one {S : Nat → Prop} {g : Nat} {w w' : World} (t : Turned (fun b => b = g) w w') (h : S g) : Turned S w w' := t.wide (fun k e => by subst e; exact h)
theorem gS (ty : TypeId) {t' : TypeId} {dst : Option Tmp} {x y : Operand} {pos : String} {af : Array Edge} {ops : Array Oper} {rest : List Oper} {a : Act} {Q : Exit → Act → World → Prop} {w : World}
  (h : wpList Tryz.prog ops Q (⟨dst, .store ty x y, t', pos, af, none⟩ :: rest) a w) : wpList Tryz.prog ops Q (⟨dst, .store ty x y, t', pos, af, none⟩ :: rest) a w := h
theorem sF {ty t' : TypeId} {dst : Option Tmp} {x y : Operand} {pos : String} {af : Array Edge} {ops : Array Oper} {rest : List Oper} {a : Act} {Q : Exit → Act → World → Prop} {w : World} {g off : Nat} {T : TypeId} {old vs new : Array Value}
  (hv : VarA w g T old) (hx : a.eval x = .pointer (some ⟨g, off, none⟩)) (hy : a.eval y = .agg vs) (hi : (Tryz.prog.info? ty).map (·.size) = some vs.size) (hb : (vs.toList.all (·.oneCell') && decide (off + vs.size ≤ old.size)) = true)
  (hnew : (old.toList.take off ++ vs.toList ++ old.toList.drop (off + vs.size)).toArray = new)
  (hK : ∀ w', VarA w' g T new → Turned (fun b => b = g) w w' → wpList Tryz.prog ops Q rest (a.put dst undef) w') : wpList Tryz.prog ops Q (⟨dst, .store ty x y, t', pos, af, none⟩ :: rest) a w := by
 rw [Bool.and_eq_true, decide_eq_true_eq] at hb
 exact wpList_storeF hv hx hy hi hb.1 hb.2 hnew hK
theorem vaB {w w2 : World} {T : TypeId} {cs : Array Value} (h : Below (w.alloc (.cells cs T)).drew.heap.size (w.alloc (.cells cs T)).drew w2) : VarA w2 w.heap.size T cs := VarA.step (VarA.dr (VarA.new w T cs)) h
theorem vaC {w w2 : World} {T : TypeId} {cs : Array Value} (h : Below (w.alloc (.cells cs T)).heap.size (w.alloc (.cells cs T)) w2) : VarA w2 w.heap.size T cs := VarA.step (VarA.new w T cs) h
end
section
theorem Tryz.infoEn : (Tryz.prog.info? 139).map (fun i => (i.zero, i.size, i.bytes)) = some (some (.agg #[.slice none 0 0, .i 0, .i 0, .bool false]), 4, 48) := by kernel_rfl
def PrtEn (l : List En) (B n k : Nat) (w : World) : Prop := OwV w (fun b => B ≤ b ∧ b < w.heap.size) (.slice (some ⟨B, 0, none⟩) n n) (.rows 139 4 n (fun i j => if i < k then enCell (l[i]?.getD en0) j else enCell en0 j))
end
section
theorem Tryz.infoNd : (Tryz.prog.info? 133).map (fun i => (i.zero, i.size, i.bytes)) = some (some (.agg #[.i 0, .i 0, .bool false, .i 0, .i 0, .bool false, .i 0, .i 0, .slice none 0 0]), 9, 88) := by kernel_rfl
def PrtNd (l : List Nd) (B n k : Nat) (w : World) : Prop := OwV w (fun b => B ≤ b ∧ b < w.heap.size) (.slice (some ⟨B, 0, none⟩) n n) (.rows 133 9 n (fun i j => if i < k then ndCell (l[i]?.getD nd0) j else ndCell nd0 j))
end
section
def rootH : Hd := (0, 1, true)
def rootN : Nd := ⟨rootH, rootH, 1, 0, []⟩
abbrev rootV : Value := .agg #[.i 0, .i 1, .bool true]
theorem specRootH_any (w : World) : Calls Tryz.prog 93 #[] w fun e w' => e = .returned rootV ∧ w' = w.alloc (.cells #[.i 0, .i 1, .bool true] 24) := by
 go_enter Tryz.func93, Tryz.ntmps93
 go_wp2
 refine bodyPost_ret (v := rootV) (by simp [results, Tryz.results93, go_sem]) rfl ⟨rfl, rfl⟩
theorem ow_root (w : World) (B : Nat) (hB : B ≤ w.heap.size) : OwV (w.alloc (.cells #[.i 0, .i 1, .bool true, .i 0, .i 1, .bool true, .i 1, .i 0, .slice none 0 0] 133)) (fun b => B ≤ b ∧ b < (w.alloc (.cells #[.i 0, .i 1, .bool true, .i 0, .i 1, .bool true, .i 1, .i 0, .slice none 0 0] 133)).heap.size) (.slice (some ⟨w.heap.size, 0, none⟩) 1 1) (ndsDt [rootN]) := by
 have h := World.ownsRow_lit (base := 0) (e := 133) (size := 9) w #[.i 0, .i 1, .bool true, .i 0, .i 1, .bool true, .i 1, .i 0, .slice none 0 0] 1 (Nat.zero_le _) (by unfold maxLen; omega) rfl
 refine OwV.mkRows ⟨fun _ j => #[Value.i 0, .i 1, .bool true, .i 0, .i 1, .bool true, .i 1, .i 0, .slice none 0 0][j]?.getD undef, _, fun _ _ _ => False, h, fun b hb => ?_, fun i j hi hj => ?_, fun i j hi hj => ?_, fun i j b _ _ hq => hq.elim, fun i j i' j' b _ _ _ _ hq => hq.elim⟩
 ·cases hb
  exact ⟨hB, by simp⟩
 ·obtain rfl : i = 0 := by simpa using hi
  match j, hj with
  | 0, _ => rfl
  | 1, _ => rfl
  | 2, _ => rfl
  | 3, _ => rfl
  | 4, _ => rfl
  | 5, _ => rfl
  | 6, _ => rfl
  | 7, _ => rfl
  | 8, _ => rfl
 ·obtain rfl : i = 0 := by simpa using hi
  match j, hj with
  | 0, _ => rfl
  | 1, _ => rfl
  | 2, _ => rfl
  | 3, _ => rfl
  | 4, _ => rfl
  | 5, _ => rfl
  | 6, _ => rfl
  | 7, _ => rfl
  | 8, _ => exact OwV.nilR _ _ _ _ _

set_option maxHeartbeats 1000000 in
theorem specRoot_any (w : World) : Calls Tryz.prog 166 #[] w fun e w' => ∃ a n c, e = .returned (.agg #[.slice a n c]) ∧ OwV w' (fun b => w.heap.size ≤ b ∧ b < w'.heap.size) (.slice a n c) (ndsDt [rootN]) ∧ Below w.heap.size w w' := by
 have HH : Hid (∀ W, _) := fun W => specRootH_any W
 go_enter Tryz.func166, Tryz.ntmps166
 go_wp2_with fail
 refine Calls.mono (HH.out _) ?_
 rintro e w2 ⟨rfl, rfl⟩
 go_wp2_with fail
 refine Calls.mono (HH.out _) ?_
 rintro e w2 ⟨rfl, rfl⟩
 go_wp2
 refine bodyPost_ret (v := .agg #[.slice (some ⟨w.heap.size + 1 + 1 + 1, 0, none⟩) 1 1]) (by simp [results, Tryz.results166, go_sem]) rfl ⟨_, _, _, rfl, ?_, ?_⟩
 ·have := ow_root (((w.alloc (.cells #[.slice (some ⟨w.heap.size + 1 + 1 + 1, 0, none⟩) 1 1] 55)).alloc (.cells #[.i 0, .i 1, .bool true] 24)).alloc (.cells #[.i 0, .i 1, .bool true] 24)) w.heap.size (by simp; omega)
  simpa using this
 ·exact (((((Below.refl _ _).alloc (Nat.le_refl _) _).alloc (by simp) _).alloc (by simp; omega) _).alloc (by simp; omega) _)
end
section
theorem conv_any (a : Option Addr) (xs : List Int) (len cap : Nat) (w : World) (hx : Reads w a xs) (hl : len = xs.length) : (convert 22 9 (.slice a len cap)).run Tryz.prog w = .ok (.string (strOfNums xs)) w := by
 subst hl
 cases a with
 | none =>
  rcases hx.2 with rfl | ⟨b, off, ha, _⟩
  ·exact run_convert_bytes_nil w 22 5 Tryz.underlying22 Tryz.underlying5 _ _ 9 Tryz.underlying9
  ·cases ha
 | some ad =>
  by_cases h0 : xs = []
  ·subst h0
   rw [run_convert_bytes_string w 22 9 5 _ _ cap Tryz.underlying22 Tryz.underlying5 Tryz.underlying9]
   have hld : (loadCells ad 0).run Tryz.prog w = .ok (([] : List Int).map (Value.int .u8)).toArray w := by
    have := run_loadCells_list (P := Tryz.prog) w ad [] (fun j v hj => by simp at hj)
    simpa using this
   rw [List.length_nil, run_bytesToString w ad 0 cap [] hld]
   rfl
  ·rcases hx.2 with h1 | ⟨b, off, ha, hb, hc⟩
   ·exact absurd h1 h0
   ·cases ha
    exact run_convert_bytes_arg w 22 5 Tryz.underlying22 Tryz.underlying5 b off xs.length cap xs rfl (fun i hi => by rw [hc i hi]; simp) 9 Tryz.underlying9

set_option maxHeartbeats 1000000 in
theorem sameBytes_any (a b : Option Addr) (xs : List Int) (la ca lb cb : Nat) (w : World) (hx : Reads w a xs) (hy : Reads w b xs) (hla : la = xs.length) (hlb : lb = xs.length) :
  Calls Tryz.prog 14 #[.slice a la ca, .slice b lb cb] w fun e w' => e = .returned (.bool true) ∧ w' = w := by
 have h1 := conv_any a xs la ca w hx hla
 have h2 := conv_any b xs lb cb w hy hlb
 generalize strOfNums xs = s at h1 h2
 clear hla hlb hx hy
 go_enter Tryz.func14, Tryz.ntmps14
 go_wp2
 go_ret
 exact ⟨by simp, rfl⟩
end
section
open Go.RowKit Go.Lib
theorem bytes_inj : ∀ (xs ys : List Int), isBytes xs → isBytes ys → bytesOf xs = bytesOf ys → xs = ys := by
 intro xs
 induction xs with
 | nil => intro ys _ _ h; cases ys with
  | nil => rfl
  | cons y r => simp [bytesOf] at h
 | cons x r ih =>
  intro ys hx hy h
  cases ys with
  | nil => simp [bytesOf] at h
  | cons y s =>
   have h0 := hx 0
   have k0 := hy 0
   simp only [List.getElem?_cons_zero, Option.getD_some] at h0 k0
   simp only [bytesOf, List.map_cons, List.cons.injEq] at h
   have e : x = y := by
    have h1 := congrArg UInt8.toNat h.1
    simp only [UInt8.toNat_ofNat'] at h1
    omega
   subst e
   rw [ih s (fun j => by have := hx (j + 1); simpa using this) (fun j => by have := hy (j + 1); simpa using this) h.2]
theorem str_eq (xs ys : List Int) (hx : isBytes xs) (hy : isBytes ys) : ((strOfNums xs).toList == (strOfNums ys).toList) = decide (xs = ys) := by
 rw [strOfNums_toList, strOfNums_toList]
 by_cases h : xs = ys
 ·subst h; simp
 ·simp only [h, decide_false]
  exact beq_eq_false_iff_ne.2 (fun e => h (bytes_inj xs ys hx hy e))
end
section
structure Cls (w : World) where
 W : World
 h : Below w.heap.size w W
theorem Cls.ne (w : World) : Nonempty (Cls w) := ⟨⟨w, Below.refl _ _⟩⟩
theorem wp_region_cls {P : Program} {id : Nat} {Q : Exit → Act → World → Prop} {a : Act} {w : World} {l : List Oper} (hm : P.follows .mixedOrders = true) (hB : Region.lexB .any l.toArray = true)
  (h : wpQuiet P l.toArray (fun w' => ∃ i : Cls w, w' = i.W) (fun a' => ∀ w', (∃ i : Cls w, w' = i.W) → Q .normal a' w') l a) : (Code.region id l.toArray true).wp P Q a w :=
 wp_region_quiet (C := fun w' => ∃ i : Cls w, w' = i.W) hm hB ⟨⟨{ w with drawn := w.drawn + 1 }, ⟨rfl, rfl, rfl, Nat.le_refl _, fun _ _ => rfl⟩⟩, rfl⟩ (by simpa using h)
theorem Calls.cls {P : Program} {f : FuncId} {args : Array Value} {w : World} {i : Cls w} {v : Value} (h : Calls P f args i.W fun e w' => e = .returned v ∧ Below i.W.heap.size i.W w') :
  Calls P f args i.W fun e w'' => e = .returned v ∧ ∃ j : Cls w, w'' = j.W :=
 h.mono fun _ w' ⟨he, hb⟩ => ⟨he, ⟨w', i.h.trans (hb.mono i.h.size)⟩, rfl⟩
theorem Calls.cls_same {P : Program} {f : FuncId} {args : Array Value} {w : World} {i : Cls w} {v : Value} (h : Calls P f args i.W fun e w' => e = .returned v ∧ w' = i.W) :
  Calls P f args i.W fun e w'' => e = .returned v ∧ ∃ j : Cls w, w'' = j.W :=
 h.mono fun _ w' ⟨he, hb⟩ => ⟨he, i, hb⟩
theorem Calls.cls_new {P : Program} {f : FuncId} {args : Array Value} {w : World} {i : Cls w} {v : Value} {o : Obj} (h : Calls P f args i.W fun e w' => e = .returned v ∧ w' = i.W.alloc o) :
  Calls P f args i.W fun e w'' => e = .returned v ∧ ∃ j : Cls w, w'' = j.W :=
 h.mono fun _ w' ⟨he, hb⟩ => ⟨he, ⟨w', by rw [hb]; exact i.h.alloc i.h.size _⟩, rfl⟩
theorem Cls.cell {w : World} {b o : Nat} {u : Value} (hb : b < w.heap.size) (h : w.cell? ⟨b, o, none⟩ = some u) : ∀ i : Cls w, i.W.cell? ⟨b, o, none⟩ = some u := fun i => (i.h.cell (p := ⟨b, o, none⟩) hb).trans h
theorem VarA.set9 {w : World} {b : Nat} {T : TypeId} {x0 x1 x2 x3 x4 x5 x6 x7 x8 y0 y1 y2 y3 y4 y5 y6 y7 y8 : Value} (h : VarA w b T #[x0, x1, x2, x3, x4, x5, x6, x7, x8]) : VarA (((((((((w.setCell ⟨b, 0, none⟩ y0).setCell ⟨b, 1, none⟩ y1).setCell ⟨b, 2, none⟩ y2).setCell ⟨b, 3, none⟩ y3).setCell ⟨b, 4, none⟩ y4).setCell ⟨b, 5, none⟩ y5).setCell ⟨b, 6, none⟩ y6).setCell ⟨b, 7, none⟩ y7).setCell ⟨b, 8, none⟩ y8) b T #[y0, y1, y2, y3, y4, y5, y6, y7, y8] := by
 have h2 := (((((((((h.set 0 y0).set 1 y1).set 2 y2).set 3 y3).set 4 y4).set 5 y5).set 6 y6).set 7 y7).set 8 y8)
 simpa using h2
theorem VarA.aside9 {w : World} {b c : Nat} {T : TypeId} {cs : Array Value} {y0 y1 y2 y3 y4 y5 y6 y7 y8 : Value} (h : VarA w b T cs) (hc : b ≠ c) : VarA (((((((((w.setCell ⟨c, 0, none⟩ y0).setCell ⟨c, 1, none⟩ y1).setCell ⟨c, 2, none⟩ y2).setCell ⟨c, 3, none⟩ y3).setCell ⟨c, 4, none⟩ y4).setCell ⟨c, 5, none⟩ y5).setCell ⟨c, 6, none⟩ y6).setCell ⟨c, 7, none⟩ y7).setCell ⟨c, 8, none⟩ y8) b T cs := (((((((((h.aside (p := ⟨c, 0, none⟩) hc y0).aside (p := ⟨c, 1, none⟩) hc y1).aside (p := ⟨c, 2, none⟩) hc y2).aside (p := ⟨c, 3, none⟩) hc y3).aside (p := ⟨c, 4, none⟩) hc y4).aside (p := ⟨c, 5, none⟩) hc y5).aside (p := ⟨c, 6, none⟩) hc y6).aside (p := ⟨c, 7, none⟩) hc y7).aside (p := ⟨c, 8, none⟩) hc y8)
theorem Below.set9 {B : Nat} {a w : World} {c : Nat} {y0 y1 y2 y3 y4 y5 y6 y7 y8 : Value} (h : Below B a w) (hc : B ≤ c) : Below B a (((((((((w.setCell ⟨c, 0, none⟩ y0).setCell ⟨c, 1, none⟩ y1).setCell ⟨c, 2, none⟩ y2).setCell ⟨c, 3, none⟩ y3).setCell ⟨c, 4, none⟩ y4).setCell ⟨c, 5, none⟩ y5).setCell ⟨c, 6, none⟩ y6).setCell ⟨c, 7, none⟩ y7).setCell ⟨c, 8, none⟩ y8) := (((((((((h.setCell (p := ⟨c, 0, none⟩) hc y0).setCell (p := ⟨c, 1, none⟩) hc y1).setCell (p := ⟨c, 2, none⟩) hc y2).setCell (p := ⟨c, 3, none⟩) hc y3).setCell (p := ⟨c, 4, none⟩) hc y4).setCell (p := ⟨c, 5, none⟩) hc y5).setCell (p := ⟨c, 6, none⟩) hc y6).setCell (p := ⟨c, 7, none⟩) hc y7).setCell (p := ⟨c, 8, none⟩) hc y8)
end
section
theorem eqH_run (p q s i : Int) (d e : Bool) (w : World) : (binOp .eql 24 (.agg #[.i p, .i q, .bool d]) (.agg #[.i s, .i i, .bool e])).run Tryz.prog w = .ok (.bool (decide (p = s ∧ q = i ∧ d = e))) w := by
 by_cases h1 : p = s
 ·subst h1
  by_cases h2 : q = i
  ·subst h2
   by_cases h3 : d = e
   ·subst h3
    simp [go_sem]
   ·have g : (d == e) = false := by simpa using h3
    simp [go_sem, g, h3]
  ·have g : (q == i) = false := by simpa using h2
   simp [go_sem, g, h2]
 ·have g : (p == s) = false := by simpa using h1
  simp [go_sem, g, h1]
theorem neH_run (p q s i : Int) (d e : Bool) (w : World) : (binOp .neq 24 (.agg #[.i p, .i q, .bool d]) (.agg #[.i s, .i i, .bool e])).run Tryz.prog w = .ok (.bool (!decide (p = s ∧ q = i ∧ d = e))) w := by
 by_cases h1 : p = s
 ·subst h1
  by_cases h2 : q = i
  ·subst h2
   by_cases h3 : d = e
   ·subst h3
    simp [go_sem]
   ·have g : (d == e) = false := by simpa using h3
    simp [go_sem, g, h3]
  ·have g : (q == i) = false := by simpa using h2
   simp [go_sem, g, h2]
 ·have g : (p == s) = false := by simpa using h1
  simp [go_sem, g, h1]
end
section
open Go.RowKit Go.Deep Go.ChangeShapes Go.WideShapes
section
variable {H : Type} {enc : TypeId × Value → H} {w : World} {held : Bool}

theorem add_plainT (b off i : Nat) : (⟨b, off, none⟩ : Addr).add i = ⟨b, off + i, none⟩ := by
 unfold Addr.add
 by_cases hi : i = 0
 ·subst hi; simp
 ·simp [hi]

abbrev Old (w : World) : Nat → Prop := fun b => b < w.heap.size

end
end
section
def isLow (c : Int) : Bool := decide (97 ≤ c) && decide (c ≤ 122)
def isNm (zs : List Int) : Bool := (decide (1 ≤ zs.length) && decide (zs.length ≤ 6)) && zs.all isLow
theorem all_take_next (zs : List Int) (k : Nat) (hk : k < zs.length) (h : (zs.take k).all isLow = true) : (isLow (zs[k]?.getD 0) = true → (zs.take (k + 1)).all isLow = true) ∧ (isLow (zs[k]?.getD 0) = false → zs.all isLow = false) := by
  constructor
  · intro hc
    rw [List.take_succ_eq_append_getElem hk, List.all_append, h]
    simp [hk] at hc
    simp [hc]
  · intro hc
    simp [hk] at hc
    rw [List.all_eq_false]
    exact ⟨zs[k], List.getElem_mem hk, by simp [hc]⟩

set_option maxHeartbeats 1000000 in
theorem specName_any (v : Value) (zs : List Int) (S : Nat → Prop) (w : World) (r : RdV w S v (.bytes zs)) (hl : zs.length ≤ 2097152) :
    Calls Tryz.prog 100 #[v] w fun e w' => e = .returned (.bool (isNm zs)) ∧ w' = w := by
  obtain ⟨a, cap, rfl, hh, hb, hc⟩ := r.b.reads
  clear r
  obtain ⟨n, hn⟩ : ∃ n, zs.length = n := ⟨_, rfl⟩
  have HC : Hid _ := hc
  have HN : Hid _ := hn
  have HI : Hid (isNm zs = ((decide (1 ≤ n) && decide (n ≤ 6)) && zs.all isLow)) := by show _ = _; unfold isNm; rw [hn]
  rw [hn] at hl ⊢
  rw [HI.out]
  clear hc hn hh hb HI
  by_cases h0 : 1 ≤ n
  case neg =>
    have e1 : decide (1 ≤ n) = false := by simpa using h0
    rw [e1]
    go_enter Tryz.func100, Tryz.ntmps100
    go_wp2
    go_ret
    exact ⟨by simp, rfl⟩
  by_cases h6 : n ≤ 6
  case neg =>
    have e1 : decide (n ≤ 6) = false := by simpa using h6
    rw [e1]
    go_enter Tryz.func100, Tryz.ntmps100
    go_wp2
    go_ret
    exact ⟨by simp, rfl⟩
  have e1 : decide (1 ≤ n) = true := by simpa using h0
  have e2 : decide (n ≤ 6) = true := by simpa using h6
  rw [e1, e2]
  clear e1 e2
  go_enter Tryz.func100, Tryz.ntmps100
  go_wp2
  go_loop [3] (fun i => ∃ k : Nat, k ≤ n ∧ i = .i k ∧ Hid ((zs.take k).all isLow = true)) (fun i => n - (intOf i).toNat)
  case atStart => exact ⟨0, Nat.zero_le _, rfl, by show _ = _; simp⟩
  case round =>
    obtain ⟨k, hk, rfl, HA⟩ := hrel
    by_cases hlt : k < n
    · obtain ⟨b, off, rfl, hbl, hcell⟩ := HC.out.resolve_left (fun e => by have := HN.out; rw [e] at this; simp at this; omega)
      have c1 := hcell k (by rw [HN.out]; exact hlt)
      have HST : Hid _ := all_take_next zs k (by rw [HN.out]; exact hlt) HA.out
      generalize zs[k]?.getD 0 = c at c1 HST
      clear hcell HA
      go_wp2
      all_goals first
        | (go_ret
           exact ⟨by rw [HST.out.2 (by simp [isLow]; omega)]; rfl, rfl⟩)
        | (go_round
           case rel => exact ⟨k + 1, by omega, by go_num, HST.out.1 (by simp [isLow]; omega)⟩
           case measure => simp [intOf]; omega)
    · have he : k = n := by omega
      subst he
      have HF : Hid (zs.all isLow = true) := by
        have := HA.out
        rwa [List.take_of_length_le (by rw [HN.out]; exact Nat.le_refl _)] at this
      go_wp2
      go_ret
      exact ⟨by rw [HF.out]; rfl, rfl⟩

set_option maxHeartbeats 1000000 in
theorem implName_any (v : Value) (zs : List Int) (S : Nat → Prop) (w : World) (r : RdV w S v (.bytes zs)) (hl : zs.length ≤ 2097152) :
    Calls Tryz.prog 109 #[v] w fun e w' => e = .returned (.bool (isNm zs)) ∧ w' = w := by
  obtain ⟨a, cap, rfl, hh, hb, hc⟩ := r.b.reads
  clear r
  obtain ⟨n, hn⟩ : ∃ n, zs.length = n := ⟨_, rfl⟩
  have HC : Hid _ := hc
  have HN : Hid _ := hn
  have HI : Hid (isNm zs = ((decide (1 ≤ n) && decide (n ≤ 6)) && zs.all isLow)) := by show _ = _; unfold isNm; rw [hn]
  rw [hn] at hl ⊢
  rw [HI.out]
  clear hc hn hh hb HI
  by_cases h0 : 1 ≤ n
  case neg =>
    have e1 : decide (1 ≤ n) = false := by simpa using h0
    rw [e1]
    go_enter Tryz.func109, Tryz.ntmps109
    go_wp2
    go_ret
    exact ⟨by simp, rfl⟩
  by_cases h6 : n ≤ 6
  case neg =>
    have e1 : decide (n ≤ 6) = false := by simpa using h6
    rw [e1]
    go_enter Tryz.func109, Tryz.ntmps109
    go_wp2
    go_ret
    exact ⟨by simp, rfl⟩
  have e1 : decide (1 ≤ n) = true := by simpa using h0
  have e2 : decide (n ≤ 6) = true := by simpa using h6
  rw [e1, e2]
  clear e1 e2
  go_enter Tryz.func109, Tryz.ntmps109
  go_wp2
  go_loop [15] (fun i => ∃ k : Nat, k ≤ n ∧ i = .i k ∧ Hid ((zs.take k).all isLow = true)) (fun i => n - (intOf i).toNat)
  case atStart => exact ⟨0, Nat.zero_le _, rfl, by show _ = _; simp⟩
  case round =>
    obtain ⟨k, hk, rfl, HA⟩ := hrel
    by_cases hlt : k < n
    · obtain ⟨b, off, rfl, hbl, hcell⟩ := HC.out.resolve_left (fun e => by have := HN.out; rw [e] at this; simp at this; omega)
      have c1 := hcell k (by rw [HN.out]; exact hlt)
      have HST : Hid _ := all_take_next zs k (by rw [HN.out]; exact hlt) HA.out
      generalize zs[k]?.getD 0 = c at c1 HST
      clear hcell HA
      go_wp2
      all_goals first
        | (go_ret
           exact ⟨by rw [HST.out.2 (by simp [isLow]; omega)]; rfl, rfl⟩)
        | (go_round
           case rel => exact ⟨k + 1, by omega, by go_num, HST.out.1 (by simp [isLow]; omega)⟩
           case measure => simp [intOf]; omega)
    · have he : k = n := by omega
      subst he
      have HF : Hid (zs.all isLow = true) := by
        have := HA.out
        rwa [List.take_of_length_le (by rw [HN.out]; exact Nat.le_refl _)] at this
      go_wp2
      go_ret
      exact ⟨by rw [HF.out]; rfl, rfl⟩
end
section
def SomeRel (w : World) (pb N : Nat) (o i : Value) (wr : World) : Prop :=
 ∃ (k : Nat) (ys : List Int), k ≤ N ∧ i = .i k ∧ ys.length = k ∧ isBytes ys ∧ Owns wr w.heap.size o ys ∧ CurAt wr pb ∧ w.grownBy wr (some pb)

set_option maxHeartbeats 1000000 in
theorem num_any (pb : Nat) (w : World) (h : CurAt w pb) :
  Calls Tryz.prog 144 #[.pointer (some ⟨pb, 0, none⟩)] w fun e w' => ∃ n : Int, e = .returned (.i n) ∧ -9223372036854775808 ≤ n ∧ n ≤ 9223372036854775807 ∧ CurAt w' pb ∧ w.grownBy w' (some pb) := by
 have hpb := h.lt
 go_enter Tryz.func144, Tryz.ntmps144
 go_wp2_with fail
 refine (below_any pb _ w h (by omega) (by omega)).mono ?_
 rintro e w1 ⟨x, rfl, hx0, hx1, hc1, hg1⟩
 have hs1 := hg1.size
 by_cases hx : x = 0
 ·subst hx
  go_wp2_with fail
  refine (pick_any pb w1.heap.size [0, 1, 127, 128, 16383, 16384, 2147483647, 2147483646] _ (hc1.alloc _) (by simp) (by simp) (by omega) (heap_alloc_new w1 _)).mono ?_
  rintro e w2 ⟨y, rfl, hm, hc2, hg2⟩
  go_wp2
  go_ret
  exact ⟨y, rfl, by simp at hm; omega, by simp at hm; omega, hc2, grown_trans (grown_alloc hg1 _) hg2⟩
 ·by_cases hx1' : x = 1
  ·subst hx1'
   go_wp2_with fail
   refine (pick_any pb w1.heap.size [-1, 2147483648, 4611686018427387904, -9223372036854775808, 9223372036854775807] _ (hc1.alloc _) (by simp) (by simp) (by omega) (heap_alloc_new w1 _)).mono ?_
   rintro e w2 ⟨y, rfl, hm, hc2, hg2⟩
   go_wp2
   go_ret
   exact ⟨y, rfl, by simp at hm; omega, by simp at hm; omega, hc2, grown_trans (grown_alloc hg1 _) hg2⟩
  ·have e0 : (x == 0) = false := beq_eq_false_iff_ne.2 hx
   have e1 : (x == 1) = false := beq_eq_false_iff_ne.2 hx1'
   go_wp2_with fail
   refine (below_any pb _ w1 hc1 (by omega) (by omega)).mono ?_
   rintro e w2 ⟨y, rfl, hy0, hy1, hc2, hg2⟩
   go_wp2
   go_ret
   exact ⟨y, rfl, by omega, by omega, hc2, grown_trans hg1 hg2⟩
end
section
def num (n : Int) : Bool := decide (0 ≤ n) && decide (n ≤ 2147483647)
def TOk (t : TxD) : Bool := (decide (0 ≤ t.1) && decide (t.1 < 4)) && (num t.2.1 && num t.2.2)
theorem specTxOk_w (t : TxD) (w : World) : Calls Tryz.prog 60 #[txV t] w fun e w' => e = .returned (.bool (TOk t)) ∧ w' = w.alloc (.cells #[.i t.1, .i t.2.1, .i t.2.2] 31) := by
 obtain ⟨s, i, d⟩ := t
 go_enter Tryz.func60, Tryz.ntmps60
 go_wp2
 all_goals (go_ret; exact ⟨by first | rfl | (simp_all [TOk, num] <;> omega), rfl⟩)
theorem implTxOk_w (t : TxD) (w : World) : Calls Tryz.prog 162 #[txV t] w fun e w' => e = .returned (.bool (TOk t)) ∧ w' = w.alloc (.cells #[.i t.1, .i t.2.1, .i t.2.2] 31) := by
 obtain ⟨s, i, d⟩ := t
 go_enter Tryz.func162, Tryz.ntmps162
 go_wp2
 all_goals (go_ret; exact ⟨by first | rfl | (simp_all [TOk, num] <;> omega), rfl⟩)
theorem specTxOk_any (t : TxD) (w : World) : Calls Tryz.prog 60 #[txV t] w fun e w' => e = .returned (.bool (TOk t)) ∧ Below w.heap.size w w' :=
 (specTxOk_w t w).mono fun e w' ⟨he, hw⟩ => ⟨he, by rw [hw]; exact Below.newH _⟩
end
section
set_option linter.unusedVariables false
end
section
set_option maxRecDepth 100000
end
section
set_option maxRecDepth 100000
end
section
set_option maxHeartbeats 4000000 in
theorem sameEns_any (x y : Value) (l : List En) (S S2 : Nat → Prop) (w : World) (r : RdV w S x (ensDt l)) (r2 : RdV w S2 y (ensDt l)) (hl : l.length ≤ 1048576) :
  Calls Tryz.prog 71 #[x, y] w fun e w' => e = .returned (.bool true) ∧ Below w.heap.size w w' := by
 obtain ⟨a, cap, rfl, _⟩ := RdV.sliced r
 obtain ⟨a2, cap2, rfl, _⟩ := RdV.sliced r2
 have HR : Hid (∀ W, Below w.heap.size w W → RdV W S (.slice a l.length cap) (.rows 139 4 l.length (fun i j => enCell (l[i]?.getD en0) j))) := RdV.old r
 have HR2 : Hid (∀ W, Below w.heap.size w W → RdV W S2 (.slice a2 l.length cap2) (.rows 139 4 l.length (fun i j => enCell (l[i]?.getD en0) j))) := RdV.old r2
 clear r r2
 obtain ⟨m, hm⟩ : ∃ m, l.length = m := ⟨_, rfl⟩
 rw [hm] at hl HR HR2 ⊢
 have HN : Hid _ := hm
 clear hm
 go_enter Tryz.func71, Tryz.ntmps71
 go_wp2
 go_loopw [5] (fun i wr => ∃ k : Nat, k ≤ m ∧ i = .i k ∧ Below w.heap.size w wr) (fun i _ => m - (intOf i).toNat)
 case atStart => exact ⟨0, Nat.zero_le _, rfl, Below.refl _ _⟩
 case round =>
  obtain ⟨k, hk, rfl, hbel⟩ := hrel
  by_cases hlt : k < m
  ·obtain ⟨b, off, rfl, hbl, _, hx⟩ := RdV.at (HR.out wr hbel) hlt
   obtain ⟨b2, off2, rfl, hbl2, _, hx2⟩ := RdV.at (HR2.out wr hbel) hlt
   obtain ⟨e, he⟩ : ∃ e, l[k]?.getD en0 = e := ⟨_, rfl⟩
   obtain ⟨x0, q0, r0⟩ := hx 0 (by omega)
   obtain ⟨x1, q1, r1⟩ := hx 1 (by omega)
   obtain ⟨x2, q2, r2⟩ := hx 2 (by omega)
   obtain ⟨x3, q3, r3⟩ := hx 3 (by omega)
   obtain ⟨y0, p0, s0⟩ := hx2 0 (by omega)
   obtain ⟨y1, p1, s1⟩ := hx2 1 (by omega)
   obtain ⟨y2, p2, s2⟩ := hx2 2 (by omega)
   obtain ⟨y3, p3, s3⟩ := hx2 3 (by omega)
   rw [he] at r0 r1 r2 r3 s0 s1 s2 s3
   clear hx hx2 he
   obtain ⟨nm, ⟨t0, t1, t2⟩⟩ := e
   simp only [Nat.add_zero] at q0 p0
   obtain rfl : x1 = .i t0 := r1
   obtain rfl : x2 = .i t1 := r2
   obtain rfl : x3 = .bool t2 := r3
   obtain rfl : y1 = .i t0 := s1
   obtain rfl : y2 = .i t1 := s2
   obtain rfl : y3 = .bool t2 := s3
   have RB : RdV wr S x0 (.bytes nm) := r0
   have RB2 : RdV wr S2 y0 (.bytes nm) := s0
   obtain ⟨xa, xc, hxe, _, hrx⟩ := RB.b.reads
   obtain ⟨ya, yc, hye, _, hry⟩ := RB2.b.reads
   subst hxe
   subst hye
   have HSB : Hid (∀ W, Below wr.heap.size wr W → Calls Tryz.prog 14 #[.slice xa nm.length xc, .slice ya nm.length yc] W fun e w' => e = .returned (.bool true) ∧ w' = W) := fun W hW => sameBytes_any xa ya nm _ xc _ yc W (hrx.below hW) (hry.below hW) rfl rfl
   generalize nm.length = xn at *
   haveI : Nonempty (Cls wr) := Cls.ne wr
   have k0 := Cls.cell hbl q0
   have k1 := Cls.cell hbl q1
   have k2 := Cls.cell hbl q2
   have k3 := Cls.cell hbl q3
   have j0 := Cls.cell hbl2 p0
   have j1 := Cls.cell hbl2 p1
   have j2 := Cls.cell hbl2 p2
   have j3 := Cls.cell hbl2 p3
   have hne : ∀ W, (binOp .neq 24 (.agg #[.i t0, .i t1, .bool t2]) (.agg #[.i t0, .i t1, .bool t2])).run Tryz.prog W = .ok (.bool false) W := fun W => by rw [neH_run]; simp
   have hki : (0 : Int) ≤ (k : Int) := by omega
   have hkm : (k : Int) < (m : Int) := by omega
   clear r0 s0 RB RB2 hrx hry q0 q1 q2 q3 p0 p1 p2 p3
   go_wp2
   refine wp_region_cls (by kernel_rfl) (by kernel_rfl) ?_
   repeat (go_big_quiet_step (first | (go_at_call 14; exact Calls.cls_same (HSB.out _ (Cls.h _)))))
   refine wpQuiet_nil ?_
   rintro w' ⟨⟨w', hb'⟩, rfl⟩
   go_wp2
   go_roundw
   case rel => exact ⟨k + 1, by omega, by go_num, hbel.trans (hb'.mono hbel.size)⟩
   case measure => simp [intOf]; omega
  ·have he : k = m := by omega
   subst he
   go_wp2
   go_ret
   exact ⟨rfl, hbel⟩
set_option maxHeartbeats 4000000 in
theorem sameRp_any (x y : Value) (r : RpD) (S S2 : Nat → Prop) (w : World) (q : RdV w S x (ensDt r.list)) (q2 : RdV w S2 y (ensDt r.list)) (hl : r.list.length ≤ 1048576) :
  Calls Tryz.prog 15 #[rpV r x, rpV r y] w fun e w' => e = .returned (.bool true) ∧ Below w.heap.size w w' := by
 obtain ⟨a, cap, rfl, _⟩ := RdV.sliced q
 obtain ⟨a2, cap2, rfl, _⟩ := RdV.sliced q2
 obtain ⟨co, ⟨p, i, d⟩, vl, l⟩ := r
 dsimp only at q q2 hl ⊢
 have HS : Hid (∀ W, Below w.heap.size w W → _) := fun W hW => sameEns_any _ _ l S S2 W (q.step hW) (q2.step hW) hl
 have heq : ∀ W, (binOp .eql 24 (.agg #[.i p, .i i, .bool d]) (.agg #[.i p, .i i, .bool d])).run Tryz.prog W = .ok (.bool true) W := fun W => by rw [eqH_run]; simp
 generalize l.length = n at *
 clear q q2
 go_enter Tryz.func15, Tryz.ntmps15
 go_wp2_with fail
 refine Calls.mono (HS.out _ (Below.newH2 _ _)) ?_
 rintro e w2 ⟨rfl, b2⟩
 go_wp2_with fail
 go_ret
 exact ⟨rfl, (Below.newH2 (w := w) _ _).trans (b2.mono (by simp; omega))⟩
theorem neTs_run (p q s : Int) (w : World) : (binOp .neq 31 (.agg #[.i p, .i q, .i s]) (.agg #[.i p, .i q, .i s])).run Tryz.prog w = .ok (.bool false) w := by simp [go_sem]
end
section
def IsRow (k : IntKind) (w : World) (a : Option Addr) (len cap : Nat) (zs : List Int) : Prop :=
 (a = none ∧ len = 0 ∧ cap = 0 ∧ zs = []) ∨
 ∃ x, a = some x ∧ len ≤ cap ∧ cap ≤ maxLen ∧ zs.length = cap ∧ (∀ i, i < zs.length → w.cell? (x.add i) = some (.int k (zs.getD i 0))) ∧ ∀ n ∈ zs, (Lit.int k n).wf = true

theorem row_reads {w : World} {a : Option Addr} {len cap : Nat} {zs : List Int} (h : IsRow .u8 w a len cap zs) : ∃ ys : List Int, len = ys.length ∧ Reads w a ys ∧ ys.length ≤ cap ∧ cap ≤ maxLen := by
 rcases h with ⟨rfl, rfl, rfl, rfl⟩ | ⟨x, rfl, hl, hm, hz, hcell, hw⟩
 ·exact ⟨[], rfl, ⟨isBytes_nil, .inl rfl⟩, Nat.le_refl _, Nat.zero_le _⟩
 ·refine ⟨zs.take len, by simp; omega, ⟨?_, ?_⟩, by simp; omega, hm⟩
  ·intro j
   by_cases hj : j < len
   ·rw [List.getElem?_take, if_pos hj]
    have hj' : j < zs.length := by omega
    have := hw _ (List.getElem_mem hj')
    simp only [List.getElem?_eq_getElem hj', Option.getD_some]
    have hb := bounds_u8 this
    omega
   ·rw [List.getElem?_take, if_neg hj]; simp
  ·by_cases h0 : len = 0
   ·exact .inl (by simp [h0])
   ·right
    obtain ⟨b, off, spot⟩ := x
    have hc := hcell 0 (by omega)
    have hspot : spot = none := by simpa [Addr.add] using World.cell?_spot hc
    subst hspot
    refine ⟨b, off, rfl, block_lt_of_cell hc, fun i hi => ?_⟩
    have hi' : i < len := by simp at hi; omega
    have := hcell i (by omega)
    rw [List.getElem?_take, if_pos hi']
    by_cases hi0 : i = 0
    ·subst hi0; simpa [Addr.add] using this
    ·simpa [Addr.add, hi0] using this
end
end Go.Proofs.YtklhikadhohjbaaGreat
