/- Joined: Base Bytes Own Mem Lists Marks Waits Waits2 Waits3 Disk Steps2 Is Sizes. -/
import Derived.Test.YtjhaanenkeceiaaDoorProg
import Derived.WalkKit
import Derived.Deep.Draws
import Derived.Deep.QuietTactic
import Derived.BigQuiet
import Derived.Laws.CopyOwn
import Derived.WalkSpells
import Derived.Laws.AppendOwnNone
import Derived.Deep.RegionHeld3
import Derived.Deep.RegionLaw
import Derived.Deep.AppendLies
import Derived.Test.YtjhaanenkeceiaaDoorChecked
import Derived.LaidEql
import Derived.Stop.Asserts
import Derived.RowKitTokens

section
/- Small facts on byte slices that lie in memory, for the walks of this seat; no condition. -/
namespace Go.Proofs.YtjhaanenkeceiaaDoor
open Go.RowKit
set_option linter.unusedVariables false

theorem Tryd.infoB : (Tryd.prog.info? 5).map (fun i => (i.zero, i.size, i.bytes)) = some (some (.int .u8 0), 1, 1) := by kernel_rfl

/-- The bytes, as cells. -/
def bcells (zs : List Int) : List Value := zs.map (Value.int .u8)
@[simp] theorem bcells_length (zs : List Int) : (bcells zs).length = zs.length := by simp [bcells]

def isBytes (zs : List Int) : Prop := ∀ j : Nat, 0 ≤ zs[j]?.getD 0 ∧ zs[j]?.getD 0 ≤ 255

/-- In this world a slice that begins at 'a' and has as many elements as 'zs' reads as 'zs'. -/
def Reads (w : World) (a : Option Addr) (zs : List Int) : Prop :=
  isBytes zs ∧ (zs = [] ∨ ∃ b off, a = some ⟨b, off, none⟩ ∧ b < w.heap.size ∧ ∀ i, i < zs.length → w.cell? ⟨b, off + i, none⟩ = some (.int .u8 (zs[i]?.getD 0)))

theorem Reads.below {w w' : World} {a : Option Addr} {zs : List Int} (h : Reads w a zs) (hb : Below w.heap.size w w') : Reads w' a zs := by
  obtain ⟨h1, h2⟩ := h
  refine ⟨h1, ?_⟩
  rcases h2 with h2 | ⟨b, off, ha, hlt, hc⟩
  · exact .inl h2
  · refine .inr ⟨b, off, ha, by have := hb.size; omega, fun i hi => ?_⟩
    rw [hb.cell (p := ⟨b, off + i, none⟩) hlt]; exact hc i hi

/-- A slice that the call made, from 'base' on, with just these bytes. -/
def Owns (w : World) (base : Nat) (v : Value) (zs : List Int) : Prop := w.ownsRow base 5 1 v zs.length (bcells zs)

theorem Owns.reads {w : World} {base : Nat} {a : Option Addr} {n cap : Nat} {zs : List Int} (hz : isBytes zs) (h : Owns w base (.slice a n cap) zs) : n = zs.length ∧ Reads w a zs := by
  rcases h.2 with ⟨hv, h0⟩ | ⟨g, c, cur, hv, hg, hh, hnc, hm, hs, ht⟩
  · simp only [Value.slice.injEq] at hv
    obtain ⟨rfl, rfl, rfl⟩ := hv
    exact ⟨h0.symm, hz, .inl (List.eq_nil_of_length_eq_zero h0)⟩
  · simp only [Value.slice.injEq] at hv
    obtain ⟨rfl, rfl, rfl⟩ := hv
    refine ⟨rfl, hz, .inr ⟨g, 0, rfl, lt_of_block hh, fun i hi => ?_⟩⟩
    have := World.ownsRow.cellAt h i (by omega)
    rw [Nat.zero_add, this]
    simp [bcells, hi]

theorem Owns.below {w w' : World} {base B : Nat} {v : Value} {zs : List Int} (h : Owns w base v zs) (hb : Below B w w') (hB : ∀ k, v.ownBlock = some k → k < B) : Owns w' base v zs := by
  obtain ⟨h1, h2⟩ := h
  refine ⟨h1, ?_⟩
  rcases h2 with h2 | ⟨g, c, cur, hv, hg, hh, r⟩
  · exact .inl h2
  · exact .inr ⟨g, c, cur, hv, hg, by rw [hb.block g (hB g (by rw [hv]; rfl))]; exact hh, r⟩

/-- The first k bytes laid, the others still nought. -/
def laid (zs : List Int) (k : Nat) : List Int := zs.take k ++ List.replicate (zs.length - k) 0
theorem madeCells_bytes (n : Nat) : (madeCells (Value.int .u8 0).cells (n * 1)).toList = bcells (List.replicate n 0) := by
  simp [madeCells, bcells, Value.cells]
  apply List.ext_getElem?
  intro i
  simp [List.getElem?_map, List.getElem?_replicate]
  by_cases h : i < n <;> simp [h, Nat.mod_one]

theorem grown_trans {a b c : World} {r : Option Nat} (h : a.grownBy b r) (k : b.grownBy c r) : a.grownBy c r :=
  ⟨k.os.trans h.os, k.tape.trans h.tape, k.output.trans h.output, Nat.le_trans h.size k.size, fun i hi hne => (k.block i (Nat.lt_of_lt_of_le hi h.size) hne).trans (h.block i hi hne)⟩
theorem isBytes_nil : isBytes [] := fun j => by simp
end Go.Proofs.YtjhaanenkeceiaaDoor
end

section
/- What the verifier's small helpers on byte slices do: copying, comparing, marking. Conditions: at most 2^21 bytes. -/
namespace Go.Proofs.YtjhaanenkeceiaaDoor
open Go.RowKit
set_option linter.unusedVariables false

theorem below_drewN2 {B : Nat} {a w : World} (h : Below B a w) (n : Nat) : Below B a (w.drewN n) := ⟨h.os, h.tape, h.output, h.size, h.block⟩
/-- What 'mark' lays into n bytes, from k on. -/
def marks (n : Nat) (k : Nat) : List Int := (List.range n).map (fun i => ((k + i : Nat) : Int) % 256)
/-- The first j marked, the others as they were. -/
def marked (zs : List Int) (k j : Nat) : List Int := marks j k ++ zs.drop j
end Go.Proofs.YtjhaanenkeceiaaDoor
end

section
/- Byte slices of a call's own: how they are read, grown and carried over its steps, and the helpers of the verifier over them. Conditions: at most 2^21 bytes. -/
namespace Go.Proofs.YtjhaanenkeceiaaDoor
open Go.RowKit
set_option linter.unusedVariables false

theorem Tryd.sizeB : (Tryd.prog.info? 5).map (·.size) = some 1 := by kernel_rfl

theorem full_heap {w : World} {base : Nat} {e : TypeId} {g n : Nat} {xs : List Value} (h : w.ownsRow base e 1 (.slice (some ⟨g, 0, none⟩) n n) n xs) : w.heap[g]? = some (.cells xs.toArray e (0, 0)) := by
  rcases h.2 with ⟨hv, _⟩ | ⟨g', c, cur, hv, hg, hh, hnc, hm, hs, ht⟩
  · cases hv
  · simp only [Value.slice.injEq, Option.some.injEq, Addr.mk.injEq, and_true, true_and] at hv
    obtain ⟨rfl, rfl⟩ := hv
    rw [hh, ← ht, List.take_of_length_le (by simp; omega)]

theorem full_owns {w : World} {base g : Nat} {zs : List Int} {n : Nat} (hn : n = zs.length) (hg : base ≤ g) (hl : zs.length ≤ 4194304) (h : w.heap[g]? = some (.cells (bcells zs).toArray 5 (0, 0))) : Owns w base (.slice (some ⟨g, 0, none⟩) n n) zs := by
  subst hn
  exact ⟨by simp, .inr ⟨g, zs.length, _, rfl, hg, h, Nat.le_refl _, by unfold maxLen; omega, by simp, by simp [List.take_of_length_le]⟩⟩

theorem Reads.src {w : World} {a : Option Addr} {xs : List Int} (h : Reads w a xs) : 0 < (bcells xs).length → ∃ ad, a = some ad ∧ ∀ j v, (bcells xs)[j]? = some v → w.cell? (ad.add j) = some v := by
  intro h0
  rcases h.2 with rfl | ⟨b, off, rfl, hb, hc⟩
  · simp at h0
  · refine ⟨_, rfl, fun j v hv => ?_⟩
    have hj : j < xs.length := by
      rcases Nat.lt_or_ge j xs.length with h1 | h1
      · exact h1
      · rw [List.getElem?_eq_none (by simpa using h1)] at hv; cases hv
    have := hc j hj
    have e : ((⟨b, off, none⟩ : Addr).add j) = ⟨b, off + j, none⟩ := by
      by_cases h0 : j = 0
      · subst h0; simp [Addr.add]
      · simp [Addr.add, h0]
    rw [e, this, ← hv]
    simp [bcells, hj]

theorem bcells_one (xs : List Int) : ∀ v ∈ bcells xs, v.oneCell' = true := by
  intro v hv
  simp only [bcells, List.mem_map] at hv
  obtain ⟨x, _, rfl⟩ := hv
  rfl

theorem isBytes_append {xs ys : List Int} (h : isBytes xs) (k : isBytes ys) : isBytes (xs ++ ys) := by
  intro j
  rw [List.getElem?_append]
  split
  · exact h j
  · exact k _

theorem isBytes_cons {x : Int} {xs : List Int} (h0 : 0 ≤ x) (h1 : x ≤ 255) (h : isBytes xs) : isBytes (x :: xs) := by
  intro j
  cases j with
  | zero => simp; omega
  | succ j => simpa using h j

theorem Owns.base {w : World} {base b' : Nat} {v : Value} {zs : List Int} (h : Owns w base v zs) (hb : b' ≤ base) : Owns w b' v zs := by
  obtain ⟨h1, h2⟩ := h
  refine ⟨h1, ?_⟩
  rcases h2 with h2 | ⟨g, c, cur, hv, hg, r⟩
  · exact .inl h2
  · exact .inr ⟨g, c, cur, hv, by omega, r⟩

theorem Owns.shape {w : World} {base : Nat} {v : Value} {zs : List Int} (h : Owns w base v zs) : ∃ a cap, v = .slice a zs.length cap ∧ zs.length ≤ cap ∧ cap ≤ maxLen := by
  rcases h.2 with ⟨rfl, h0⟩ | ⟨g, c, cur, hv, hg, hh, hnc, hm, r⟩
  · exact ⟨none, 0, by rw [h0], by omega, Nat.zero_le _⟩
  · exact ⟨_, c, hv, hnc, hm⟩

theorem Reads.srcAt {w : World} {ad : Addr} {xs : List Int} (h : Reads w (some ad) xs) : ∀ j v, (bcells xs)[j]? = some v → w.cell? (ad.add j) = some v := by
  by_cases h0 : 0 < (bcells xs).length
  · obtain ⟨ad', ha, hc⟩ := h.src h0
    simp only [Option.some.injEq] at ha
    subst ha
    exact hc
  · intro j v hv
    rw [List.getElem?_eq_none (by omega)] at hv; cases hv

/-- append(v, x...), v the call's own bytes, x whatever bytes. -/
theorem wpList_app {ops : Array Oper} {rest : List Oper} {o : Oper} {a : Act} {Q : Exit → Act → World → Prop} (w : World) (hgd : o.guard = none) (s x : Operand)
    (ho : o.op = .call { callee := .builtin .append, args := #[s, x], argTypes := #[22, 22] })
    (base : Nat) (v : Value) (zs ys : List Int) (hs : a.eval s = v) (hown : Owns w base v zs) (ao : Option Addr) (m c : Nat) (hx : a.eval x = .slice ao m c) (hm : m = ys.length) (hr : Reads w ao ys)
    (hl : zs.length ≤ 4194304) (hl' : ys.length ≤ 4194304) (hbase : base ≤ w.heap.size)
    (hnil : ao = none → m = 0 ∧ c = 0)
    (h : ∀ v' w', Owns w' base v' (zs ++ ys) → w.grownBy w' v.ownBlock → wpList Tryd.prog ops Q rest (a.put o.dst v') w') : wpList Tryd.prog ops Q (o :: rest) a w := by
  obtain ⟨i0, hi, hz0, hz1, hz2⟩ := info_parts Tryd.infoB
  cases ao with
  | none =>
    obtain ⟨h0, hc0⟩ := hnil rfl
    have : ys = [] := List.eq_nil_of_length_eq_zero (by omega)
    subst this
    subst hm
    subst hc0
    refine wpList_append_own_none (w := w) hgd s x 22 ho base 5 i0 1 Tryd.underlying22 hi v zs.length (bcells zs) hs hown hx ?_
    have := h v w (by rw [List.append_nil]; exact hown) ⟨rfl, rfl, rfl, Nat.le_refl _, fun _ _ _ => rfl⟩
    exact this
  | some ad =>
    refine wpList_append_own w hgd s x 22 ho base 5 i0 (.int .u8 0) 1 1 Tryd.underlying22 hi hz0 hz1 hz2 rfl (by decide) v zs.length (bcells zs) hs hown ad m c (bcells ys) hx (by simp [hm]) hr.srcAt (bcells_one ys) (by unfold maxLen; omega) (by omega) hbase ?_
    intro v' w' ho' hg _
    refine h v' w' ?_ hg
    unfold Owns
    rw [List.length_append, ← hm]
    simpa [bcells] using ho'

theorem one_new (w : World) (x : Int) (h0 : 0 ≤ x) (h1 : x ≤ 255) : Reads (w.alloc (.cells #[.int .u8 x] 5)) (some ⟨w.heap.size, 0, none⟩) [x] := by
  refine ⟨isBytes_cons h0 h1 isBytes_nil, .inr ⟨w.heap.size, 0, rfl, by simp, fun i hi => ?_⟩⟩
  obtain rfl : i = 0 := by simpa using hi
  rw [World.cell?_alloc_at _ _ _ _ rfl]; rfl

theorem Owns.alloc {w : World} {base : Nat} {v : Value} {zs : List Int} (h : Owns w base v zs) (o : Obj) : Owns (w.alloc o) base v zs := World.ownsRow.alloc h o

theorem Owns.lt {w : World} {base : Nat} {v : Value} {zs : List Int} (h : Owns w base v zs) : ∀ k, v.ownBlock = some k → base ≤ k ∧ k < w.heap.size := World.ownsRow.lt h

theorem owns_empty (w : World) : Owns (w.alloc (.cells #[] 5)) w.heap.size (.slice (some ⟨w.heap.size, 0, none⟩) 0 0) [] := World.ownsRow_lit w #[] 0 (Nat.le_refl _) (Nat.zero_le _) rfl

theorem Owns.step {w w' : World} {base : Nat} {v : Value} {zs : List Int} (h : Owns w base v zs) (hb : Below w.heap.size w w') : Owns w' base v zs := h.below hb (fun k hk => (h.lt k hk).2)

theorem Owns.other {w w' : World} {base : Nat} {v u : Value} {zs : List Int} (h : Owns w base v zs) (hg : w.grownBy w' u.ownBlock) (hne : ∀ k, v.ownBlock = some k → u.ownBlock ≠ some k) : Owns w' base v zs := by
  refine World.ownsRow.kept h hg ?_
  cases hk : v.ownBlock with
  | none => exact .inl rfl
  | some k => exact .inr (fun e => hne k hk e.symm)

/-- Its block lies before b. -/
def Before (v : Value) (b : Nat) : Prop := ∀ k, v.ownBlock = some k → k < b

/-- Its block lies from b on. -/
def From (v : Value) (b : Nat) : Prop := ∀ k, v.ownBlock = some k → b ≤ k

theorem Owns.before {w : World} {base : Nat} {v : Value} {zs : List Int} (h : Owns w base v zs) : Before v w.heap.size := fun k hk => (h.lt k hk).2

theorem Owns.from {w : World} {base : Nat} {v : Value} {zs : List Int} (h : Owns w base v zs) : From v base := fun k hk => (h.lt k hk).1

theorem Before.le {v : Value} {b c : Nat} (h : Before v b) (hc : b ≤ c) : Before v c := fun k hk => Nat.lt_of_lt_of_le (h k hk) hc

theorem below_mark {w0 w w' : World} {B : Nat} {v : Value} (h : Below B w0 w) (hg : w.grownBy w' v.ownBlock) (hB : B ≤ w.heap.size) (hf : From v B) : Below B w0 w' := h.grown hg hB (fun k hk => hf k hk)

end Go.Proofs.YtjhaanenkeceiaaDoor
end

section
/- Bytes, lists of bytes and what is read and owned of them, by the blocks in which they lie; no condition. -/
namespace Go.Proofs.YtjhaanenkeceiaaDoor
open Go.RowKit
set_option linter.unusedVariables false

/-- Only blocks in lo .. hi-1, and new ones, have turned. -/
structure Turns (lo hi : Nat) (w w' : World) : Prop where
  os : w'.os = w.os
  tape : w'.tape = w.tape
  output : w'.output = w.output
  size : w.heap.size ≤ w'.heap.size
  block : ∀ k, k < w.heap.size → (k < lo ∨ hi ≤ k) → w'.heap[k]? = w.heap[k]?
theorem Turns.toBelow {lo hi B : Nat} {a b c : World} (h : Below B a b) (k : Turns lo hi b c) (hB : B ≤ b.heap.size) (hl : B ≤ lo) : Below B a c :=
  h.trans ⟨k.os, k.tape, k.output, k.size, fun i hi => k.block i (by omega) (.inl (by omega))⟩

/-- Blocks l .. h-1 are as they were. -/
def SameIn (l h : Nat) (w w' : World) : Prop := w.heap.size ≤ w'.heap.size ∧ ∀ k, l ≤ k → k < h → w'.heap[k]? = w.heap[k]?
theorem SameIn.ofBelow {l h : Nat} {w w' : World} (t : Below w.heap.size w w') (hs : h ≤ w.heap.size) : SameIn l h w w' := ⟨t.size, fun k _ h2 => t.block k (by omega)⟩
theorem SameIn.cell {l h : Nat} {w w' : World} (t : SameIn l h w w') {b o : Nat} (h1 : l ≤ b) (h2 : b < h) : w'.cell? ⟨b, o, none⟩ = w.cell? ⟨b, o, none⟩ := World.cell?_of_block (w := w) (t.2 b h1 h2)
theorem SameIn.refl (l h : Nat) (w : World) : SameIn l h w w := ⟨Nat.le_refl _, fun _ _ _ => rfl⟩
theorem SameIn.trans {l h : Nat} {a b c : World} (x : SameIn l h a b) (y : SameIn l h b c) : SameIn l h a c := ⟨Nat.le_trans x.1 y.1, fun k h1 h2 => (y.2 k h1 h2).trans (x.2 k h1 h2)⟩

/-- A slice's head: nil has no length. -/
def Headed (a : Option Addr) (len cap : Nat) : Prop := len ≤ cap ∧ cap ≤ maxLen ∧ (a = none → len = 0 ∧ cap = 0)

/-- v reads as the bytes zs, which lie in blocks l .. h-1. -/
def RdB (w : World) (l h : Nat) (v : Value) (zs : List Int) : Prop :=
  isBytes zs ∧ ∃ a len cap, v = .slice a len cap ∧ len = zs.length ∧ Headed a len cap ∧
    (zs = [] ∨ ∃ b off, a = some ⟨b, off, none⟩ ∧ l ≤ b ∧ b < h ∧ ∀ i, i < zs.length → w.cell? ⟨b, off + i, none⟩ = some (.int .u8 (zs[i]?.getD 0)))
theorem RdB.same {w w' : World} {l h : Nat} {v : Value} {zs : List Int} (r : RdB w l h v zs) (t : SameIn l h w w') : RdB w' l h v zs := by
  obtain ⟨hb, a, len, cap, hv, hl, hh, hc⟩ := r
  refine ⟨hb, a, len, cap, hv, hl, hh, ?_⟩
  rcases hc with h0 | ⟨b, off, ha, h1, h2, hc⟩
  · exact .inl h0
  · exact .inr ⟨b, off, ha, h1, h2, fun i hi => by rw [t.cell h1 h2]; exact hc i hi⟩
theorem RdB.wide {w : World} {l h l' h' : Nat} {v : Value} {zs : List Int} (r : RdB w l h v zs) (h1 : l' ≤ l) (h2 : h ≤ h') : RdB w l' h' v zs := by
  obtain ⟨hb, a, len, cap, hv, hl, hh, hc⟩ := r
  refine ⟨hb, a, len, cap, hv, hl, hh, ?_⟩
  rcases hc with h0 | ⟨b, off, ha, h3, h4, hc⟩
  · exact .inl h0
  · exact .inr ⟨b, off, ha, by omega, by omega, hc⟩
theorem RdB.reads {w : World} {l h : Nat} {v : Value} {zs : List Int} (r : RdB w l h v zs) : isBytes zs ∧ ∃ a len cap, v = .slice a len cap ∧ len = zs.length ∧ Headed a len cap ∧ Reads w a zs := by
  obtain ⟨hb, a, len, cap, hv, hl, hh, hc⟩ := r
  refine ⟨hb, a, len, cap, hv, hl, hh, hb, ?_⟩
  rcases hc with h0 | ⟨b, off, ha, h3, h4, hc⟩
  · exact .inl h0
  · by_cases hz : zs = []
    · exact .inl hz
    · refine .inr ⟨b, off, ha, ?_, hc⟩
      exact block_lt_of_cell (hc 0 (by cases zs with | nil => exact absurd rfl hz | cons x r => simp))

/-- v is the call's own, with the bytes zs, in a block of l .. h-1. -/
def OwB (w : World) (l h : Nat) (v : Value) (zs : List Int) : Prop := isBytes zs ∧ Owns w l v zs ∧ Before v h
theorem OwB.rd {w : World} {l h : Nat} {v : Value} {zs : List Int} (o : OwB w l h v zs) : RdB w l h v zs := by
  obtain ⟨hz, ho, hb⟩ := o
  obtain ⟨a, cap, rfl, h1, h2⟩ := ho.shape
  refine ⟨hz, a, _, cap, rfl, rfl, ⟨h1, h2, ?_⟩, ?_⟩
  · rintro rfl
    rcases ho.2 with ⟨hv, h0⟩ | ⟨g, c, cur, hv, _⟩
    · simp only [Value.slice.injEq, true_and] at hv; omega
    · cases hv
  · rcases (ho.reads hz).2.2 with h0 | ⟨b, off, ha, _, hc⟩
    · exact .inl h0
    · subst ha
      exact .inr ⟨b, off, rfl, (ho.lt b rfl).1, hb b rfl, hc⟩
theorem OwB.same {w w' : World} {l h : Nat} {v : Value} {zs : List Int} (o : OwB w l h v zs) (t : SameIn l h w w') : OwB w' l h v zs := by
  obtain ⟨hz, ⟨h1, h2⟩, hb⟩ := o
  refine ⟨hz, ⟨h1, ?_⟩, hb⟩
  rcases h2 with h2 | ⟨g, c, cur, hv, hg, hh, r⟩
  · exact .inl h2
  · exact .inr ⟨g, c, cur, hv, hg, by rw [t.2 g hg (hb g (by rw [hv]; rfl))]; exact hh, r⟩
theorem OwB.wide {w : World} {l h l' h' : Nat} {v : Value} {zs : List Int} (r : OwB w l h v zs) (h1 : l' ≤ l) (h2 : h ≤ h') : OwB w l' h' v zs := ⟨r.1, r.2.1.base h1, r.2.2.le h2⟩
theorem OwB.of {w : World} {l : Nat} {v : Value} {zs : List Int} (hz : isBytes zs) (o : Owns w l v zs) : OwB w l w.heap.size v zs := ⟨hz, o, o.before⟩

/-- v reads as the list zss of bytes; all of it lies in blocks l .. h-1. -/
def RdBB (w : World) (l h : Nat) (v : Value) (zss : List (List Int)) : Prop :=
  ∃ a len cap, ∃ vs : Nat → Value, v = .slice a len cap ∧ len = zss.length ∧ Headed a len cap ∧
    (len = 0 ∨ ∃ b off, a = some ⟨b, off, none⟩ ∧ l ≤ b ∧ b < h ∧ ∀ i, i < len → w.cell? ⟨b, off + i, none⟩ = some (vs i)) ∧ ∀ i, i < len → RdB w l h (vs i) (zss[i]?.getD [])
theorem RdBB.same {w w' : World} {l h : Nat} {v : Value} {zss : List (List Int)} (r : RdBB w l h v zss) (t : SameIn l h w w') : RdBB w' l h v zss := by
  obtain ⟨a, len, cap, vs, hv, hl, hh, hc, he⟩ := r
  refine ⟨a, len, cap, vs, hv, hl, hh, ?_, fun i hi => (he i hi).same t⟩
  rcases hc with h0 | ⟨b, off, ha, h1, h2, hc⟩
  · exact .inl h0
  · exact .inr ⟨b, off, ha, h1, h2, fun i hi => by rw [t.cell h1 h2]; exact hc i hi⟩
theorem RdBB.wide {w : World} {l h l' h' : Nat} {v : Value} {zss : List (List Int)} (r : RdBB w l h v zss) (h1 : l' ≤ l) (h2 : h ≤ h') : RdBB w l' h' v zss := by
  obtain ⟨a, len, cap, vs, hv, hl, hh, hc, he⟩ := r
  refine ⟨a, len, cap, vs, hv, hl, hh, ?_, fun i hi => (he i hi).wide h1 h2⟩
  rcases hc with h0 | ⟨b, off, ha, h3, h4, hc⟩
  · exact .inl h0
  · exact .inr ⟨b, off, ha, by omega, by omega, hc⟩

/-- v is the call's own, with the list zss of bytes, each in a block of its own, all in blocks l .. h-1. -/
def OwBB (w : World) (l h : Nat) (v : Value) (zss : List (List Int)) : Prop :=
  ∃ vs : List Value, vs.length = zss.length ∧ w.ownsRow l 22 1 v vs.length vs ∧ Before v h ∧ (∀ i, i < vs.length → OwB w l h (vs[i]?.getD undef) (zss[i]?.getD [])) ∧
    ∀ i j k, i < j → j < vs.length → (vs[i]?.getD undef).ownBlock = some k → (vs[j]?.getD undef).ownBlock ≠ some k
theorem OwBB.rd {w : World} {l h : Nat} {v : Value} {zss : List (List Int)} (o : OwBB w l h v zss) : RdBB w l h v zss := by
  obtain ⟨vs, hl, ho, hb, he, hd⟩ := o
  rcases ho.2 with ⟨hv, h0⟩ | ⟨g, c, cur, hv, hg, hh, hnc, hm, _⟩
  · subst hv
    exact ⟨none, 0, 0, fun i => vs[i]?.getD undef, rfl, by omega, ⟨Nat.le_refl _, Nat.zero_le _, fun _ => ⟨rfl, rfl⟩⟩, .inl rfl, fun i hi => absurd hi (Nat.not_lt_zero _)⟩
  · subst hv
    refine ⟨_, vs.length, c, fun i => vs[i]?.getD undef, rfl, hl, ⟨hnc, hm, fun e => by cases e⟩, .inr ⟨g, 0, rfl, hg, hb g rfl, fun i hi => ?_⟩, fun i hi => (he i hi).rd⟩
    rw [Nat.zero_add, World.ownsRow.cellAt ho i (by omega)]
    simp [hi]
theorem ownsRow_same {w w' : World} {l h : Nat} {e : TypeId} {size : Nat} {v : Value} {n : Nat} {xs : List Value} (o : w.ownsRow l e size v n xs) (hb : Before v h) (t : SameIn l h w w') : w'.ownsRow l e size v n xs := by
  obtain ⟨h1, h2⟩ := o
  refine ⟨h1, ?_⟩
  rcases h2 with h2 | ⟨g, c, cur, hv, hg, hh, r⟩
  · exact .inl h2
  · exact .inr ⟨g, c, cur, hv, hg, by rw [t.2 g hg (hb g (by rw [hv]; rfl))]; exact hh, r⟩
theorem OwBB.same {w w' : World} {l h : Nat} {v : Value} {zss : List (List Int)} (o : OwBB w l h v zss) (t : SameIn l h w w') : OwBB w' l h v zss := by
  obtain ⟨vs, hl, ho, hb, he, hd⟩ := o
  exact ⟨vs, hl, ownsRow_same ho hb t, hb, fun i hi => (he i hi).same t, hd⟩
end Go.Proofs.YtjhaanenkeceiaaDoor
end

section
/- What the verifier's helpers on lists of bytes do: copying, comparing, marking, looking. Conditions: at most 2^21 lists, of at most 2^21 bytes each. -/
namespace Go.Proofs.YtjhaanenkeceiaaDoor
open Go.RowKit
set_option linter.unusedVariables false

theorem Tryd.infoBB : (Tryd.prog.info? 22).map (fun i => (i.zero, i.size, i.bytes)) = some (some (.slice none 0 0), 1, 24) := by kernel_rfl

theorem Owns.sliced {w : World} {base : Nat} {v : Value} {zs : List Int} (h : Owns w base v zs) : ∃ a n c, v = .slice a n c := by
  obtain ⟨a, c, hv, _⟩ := h.shape
  exact ⟨a, _, c, hv⟩
/-- A list that is being copied: k of its n are there. -/
def PartBB (w : World) (B n : Nat) (zss : List (List Int)) (k : Nat) : Prop :=
  ∃ vs : List Value, vs.length = k ∧ w.ownsRow B 22 1 (.slice (some ⟨B, 0, none⟩) n n) n (vs ++ List.replicate (n - k) (.slice none 0 0)) ∧ B < w.heap.size ∧
    (∀ i, i < k → OwB w B w.heap.size (vs[i]?.getD undef) (zss[i]?.getD [])) ∧ ∀ i j q, i < j → j < k → (vs[i]?.getD undef).ownBlock = some q → (vs[j]?.getD undef).ownBlock ≠ some q
theorem PartBB.done {w : World} {B n : Nat} {zss : List (List Int)} (h : PartBB w B n zss n) (hn : n = zss.length) : OwBB w B w.heap.size (.slice (some ⟨B, 0, none⟩) n n) zss := by
  obtain ⟨vs, hl, ho, hB, he, hd⟩ := h
  rw [Nat.sub_self, List.replicate_zero, List.append_nil] at ho
  subst hl
  exact ⟨vs, hn, ho, fun k hk => by cases hk; exact hB, he, hd⟩
theorem set_next {α : Type} (vs : List α) (z x : α) (n k : Nat) (hl : vs.length = k) (hk : k < n) : (vs ++ List.replicate (n - k) z).set k x = (vs ++ [x]) ++ List.replicate (n - (k + 1)) z := by
  obtain ⟨m, hm⟩ : ∃ m, n - k = m + 1 := ⟨n - k - 1, by omega⟩
  rw [hm, show n - (k + 1) = m by omega, List.replicate_succ, List.set_append, if_neg (by omega), hl, Nat.sub_self, List.set_cons_zero, List.append_assoc]
  rfl
theorem getD_snoc {α : Type} (vs : List α) (x d : α) (i : Nat) : (vs ++ [x])[i]?.getD d = if i < vs.length then vs[i]?.getD d else if i = vs.length then x else d := by
  rw [List.getElem?_append]
  by_cases h : i < vs.length
  · rw [if_pos h, if_pos h]
  · rw [if_neg h, if_neg h]
    by_cases h2 : i = vs.length
    · subst h2; simp
    · rw [if_neg h2, List.getElem?_eq_none (by simp; omega)]; rfl
/-- One more was copied and stored. -/
theorem PartBB.next {w w' : World} {B n k : Nat} {zss : List (List Int)} {u : Value} {zs : List Int} (h : PartBB w B n zss k) (hk : k < n) (hb : Below w.heap.size w w') (hz : isBytes zs) (ho : Owns w' w.heap.size u zs) (hzs : zs = zss[k]?.getD []) :
    PartBB (w'.setCell ⟨B, k, none⟩ u) B n zss (k + 1) := by
  obtain ⟨vs, hl, hrow, hB, he, hd⟩ := h
  have hs := hb.size
  have hrow' : w'.ownsRow B 22 1 (.slice (some ⟨B, 0, none⟩) n n) n (vs ++ List.replicate (n - k) (.slice none 0 0)) := ownsRow_same (h := w.heap.size) hrow (fun q hq => by cases hq; exact hB) (SameIn.ofBelow hb (Nat.le_refl _))
  have hst := hrow'.stored k u
  rw [set_next vs _ u n k hl hk] at hst
  have hsize : (w'.setCell ⟨B, k, none⟩ u).heap.size = w'.heap.size := by simp
  have keep : ∀ {v : Value} {l : Nat} {ys : List Int}, OwB w' l w'.heap.size v ys → v.ownBlock ≠ some B → OwB (w'.setCell ⟨B, k, none⟩ u) l w'.heap.size v ys := fun {v l ys} o hne => by
    refine ⟨o.1, ?_, o.2.2⟩
    refine World.ownsRow.kept o.2.1 hst.2 ?_
    cases hv : v.ownBlock with
    | none => exact .inl rfl
    | some q => exact .inr (by rw [← hv]; exact hne)
  have tag : ∀ {v : Value} {l h : Nat} {ys : List Int}, OwB w' l h v ys → v.ownBlock ≠ some B := fun {v l h ys} o e => by
    have h1 := full_heap hrow'
    rcases o.2.1.2 with ⟨rfl, _⟩ | ⟨g, c, cur, rfl, _, hh, _⟩
    · cases e
    · cases e
      rw [hh] at h1
      simp at h1
  have hu : OwB w' w.heap.size w'.heap.size u zs := OwB.of hz ho
  refine ⟨vs ++ [u], by simp [hl], hst.1, by rw [hsize]; omega, fun i hi => ?_, fun i j q hij hj hq => ?_⟩
  · rw [hsize, getD_snoc]
    by_cases h1 : i < vs.length
    · rw [if_pos h1]
      have o1 := ((he i (by omega)).same (SameIn.ofBelow hb (Nat.le_refl _))).wide (Nat.le_refl B) hs
      exact keep o1 (tag o1)
    · have e : i = vs.length := by omega
      rw [if_neg h1, if_pos e, e, hl, ← hzs]
      exact (keep hu (tag hu)).wide (by omega) (Nat.le_refl _)
  · rw [getD_snoc] at hq ⊢
    rw [if_pos (by omega)] at hq
    by_cases h1 : j < vs.length
    · rw [if_pos h1]; exact hd i j q hij (by omega) hq
    · rw [if_neg h1, if_pos (by omega)]
      intro e
      have a1 := (he i (by omega)).2.2 q hq
      have a2 := (ho.lt q e).1
      omega

theorem PartBB.slot {w w' : World} {B n k : Nat} {zss : List (List Int)} (h : PartBB w B n zss k) (hk : k < n) (hb : Below w.heap.size w w') : (∃ v, w'.cell? ⟨B, k, none⟩ = some v) ∧ w'.frozen? ⟨B, k, none⟩ = false := by
  obtain ⟨vs, hl, hrow, hB, he, hd⟩ := h
  have hrow' : w'.ownsRow B 22 1 (.slice (some ⟨B, 0, none⟩) n n) n (vs ++ List.replicate (n - k) (.slice none 0 0)) := ownsRow_same (h := w.heap.size) hrow (fun q hq => by cases hq; exact hB) (SameIn.ofBelow hb (Nat.le_refl _))
  refine ⟨?_, hrow'.frozenAt k⟩
  rw [hrow'.cellAt k (by omega)]
  exact ⟨_, List.getElem?_eq_getElem (by simp; omega)⟩
theorem madeCells_nil (n : Nat) : (madeCells (Value.slice none 0 0).cells (n * 1)).toList = List.replicate n (.slice none 0 0) := by
  simp [madeCells, Value.cells]
  apply List.ext_getElem?
  intro i
  simp [List.getElem?_map, List.getElem?_replicate]
  by_cases h : i < n <;> simp [h, Nat.mod_one]
theorem SameIn.mk {l h : Nat} {w w' : World} (h1 : w.heap.size ≤ w'.heap.size) (h2 : ∀ k, l ≤ k → k < h → w'.heap[k]? = w.heap[k]?) : SameIn l h w w' := ⟨h1, h2⟩

end Go.Proofs.YtjhaanenkeceiaaDoor
end

section
/- What the verifier's marking of lists of bytes lays, and that it is found again. Conditions: at most 2^21 bytes in all. -/
namespace Go.Proofs.YtjhaanenkeceiaaDoor
open Go.RowKit
set_option linter.unusedVariables false

def lenBB : List (List Int) → Nat
  | [] => 0
  | z :: r => z.length + lenBB r
def markBB : List (List Int) → Nat → List (List Int)
  | [], _ => []
  | z :: r, k => marks z.length k :: markBB r (k + z.length)
theorem lenBB_append (a b : List (List Int)) : lenBB (a ++ b) = lenBB a + lenBB b := by
  induction a with
  | nil => simp [lenBB]
  | cons z r ih => simp only [List.cons_append, lenBB, ih]; omega
@[simp] theorem markBB_length (a : List (List Int)) (k : Nat) : (markBB a k).length = a.length := by
  induction a generalizing k with
  | nil => rfl
  | cons z r ih => simp [markBB, ih]
theorem take_next (zss : List (List Int)) (j : Nat) (h : j < zss.length) : zss.take (j + 1) = zss.take j ++ [zss[j]?.getD []] := by
  rw [List.take_succ_eq_append_getElem h]; simp [h]
theorem lenBB_next (zss : List (List Int)) (j : Nat) (h : j < zss.length) : lenBB (zss.take (j + 1)) = lenBB (zss.take j) + (zss[j]?.getD []).length := by
  rw [take_next _ _ h, lenBB_append]; simp [lenBB]
theorem lenBB_take (zss : List (List Int)) (j : Nat) : lenBB (zss.take j) ≤ lenBB zss := by
  have := lenBB_append (zss.take j) (zss.drop j)
  rw [List.take_append_drop] at this; omega
theorem lenBB_at (zss : List (List Int)) (j : Nat) : (zss[j]?.getD []).length ≤ lenBB zss := by
  by_cases h : j < zss.length
  · have := lenBB_next zss j h
    have := lenBB_take zss (j + 1)
    omega
  · simp [h]
/-- The first j marked, the others as they were. -/
def markedBB (zss : List (List Int)) (k j : Nat) : List (List Int) := markBB (zss.take j) k ++ zss.drop j
def MRel (zss : List (List Int)) (k l h n : Nat) (v : Value) (w : World) (q i : Value) (wr : World) : Prop :=
  ∃ j s : Nat, j ≤ n ∧ i = .int .i64 j ∧ q = .int .i64 s ∧ Hid (s = k + lenBB (zss.take j)) ∧ Hid (OwBB wr l h v (markedBB zss k j)) ∧ Turns l h w wr

end Go.Proofs.YtjhaanenkeceiaaDoor
end

section
/- Lists of writes that wait: what is read and owned of them, and what the verifier's helpers do with them. Conditions: at most 2^21 of them, of at most 2^21 bytes each. -/
namespace Go.Proofs.YtjhaanenkeceiaaDoor
open Go.RowKit
set_option linter.unusedVariables false

theorem Tryd.infoW : (Tryd.prog.info? 75).map (fun i => (i.zero, i.size, i.bytes)) = some (some (.agg #[.int .i64 0, .slice none 0 0]), 2, 32) := by kernel_rfl

abbrev Wt := Int × List Int

/-- v reads as the list ws of writes; all of it lies in blocks l .. h-1. -/
def RdWs (w : World) (l h : Nat) (v : Value) (ws : List Wt) : Prop :=
  ∃ a len cap, ∃ xs : Nat → Value, v = .slice a len cap ∧ len = ws.length ∧ Headed a len cap ∧
    (len = 0 ∨ ∃ b off, a = some ⟨b, off, none⟩ ∧ l ≤ b ∧ b < h ∧ ∀ i, i < len → w.cell? ⟨b, off + i * 2, none⟩ = some (.int .i64 (ws[i]?.getD (0, [])).1) ∧ w.cell? ⟨b, off + i * 2 + 1, none⟩ = some (xs i)) ∧
    ∀ i, i < len → RdB w l h (xs i) (ws[i]?.getD (0, [])).2
theorem RdWs.same {w w' : World} {l h : Nat} {v : Value} {ws : List Wt} (r : RdWs w l h v ws) (t : SameIn l h w w') : RdWs w' l h v ws := by
  obtain ⟨a, len, cap, vs, hv, hl, hh, hc, he⟩ := r
  refine ⟨a, len, cap, vs, hv, hl, hh, ?_, fun i hi => (he i hi).same t⟩
  rcases hc with h0 | ⟨b, off, ha, h1, h2, hc⟩
  · exact .inl h0
  · exact .inr ⟨b, off, ha, h1, h2, fun i hi => by rw [t.cell h1 h2, t.cell h1 h2]; exact hc i hi⟩
theorem RdWs.wide {w : World} {l h l' h' : Nat} {v : Value} {ws : List Wt} (r : RdWs w l h v ws) (h1 : l' ≤ l) (h2 : h ≤ h') : RdWs w l' h' v ws := by
  obtain ⟨a, len, cap, vs, hv, hl, hh, hc, he⟩ := r
  refine ⟨a, len, cap, vs, hv, hl, hh, ?_, fun i hi => (he i hi).wide h1 h2⟩
  rcases hc with h0 | ⟨b, off, ha, h3, h4, hc⟩
  · exact .inl h0
  · exact .inr ⟨b, off, ha, by omega, by omega, hc⟩

/-- v is the call's own, with the list ws of writes, each one's data in a block of its own, all in blocks l .. h-1. -/
def OwWs (w : World) (l h : Nat) (v : Value) (ws : List Wt) : Prop :=
  ∃ (xs C : List Value), xs.length = ws.length ∧ w.ownsRow l 75 2 v xs.length C ∧ Before v h ∧
    (∀ i, i < xs.length → C[i * 2]? = some (.int .i64 (ws[i]?.getD (0, [])).1) ∧ C[i * 2 + 1]? = some (xs[i]?.getD undef)) ∧
    (∀ i, i < xs.length → OwB w l h (xs[i]?.getD undef) (ws[i]?.getD (0, [])).2) ∧
    ∀ i j k, i < j → j < xs.length → (xs[i]?.getD undef).ownBlock = some k → (xs[j]?.getD undef).ownBlock ≠ some k
theorem OwWs.rd {w : World} {l h : Nat} {v : Value} {ws : List Wt} (o : OwWs w l h v ws) : RdWs w l h v ws := by
  obtain ⟨xs, C, hl, ho, hb, hC, he, hd⟩ := o
  rcases ho.2 with ⟨hv, h0⟩ | ⟨g, c, cur, hv, hg, hh, hnc, hm, _⟩
  · subst hv
    exact ⟨none, 0, 0, fun i => xs[i]?.getD undef, rfl, by omega, ⟨Nat.le_refl _, Nat.zero_le _, fun _ => ⟨rfl, rfl⟩⟩, .inl rfl, fun i hi => absurd hi (Nat.not_lt_zero _)⟩
  · subst hv
    refine ⟨_, xs.length, c, fun i => xs[i]?.getD undef, rfl, hl, ⟨hnc, hm, fun e => by cases e⟩, .inr ⟨g, 0, rfl, hg, hb g rfl, fun i hi => ?_⟩, fun i hi => (he i hi).rd⟩
    rw [Nat.zero_add, World.ownsRow.cellAt ho (i * 2) (by omega), World.ownsRow.cellAt ho (i * 2 + 1) (by omega)]
    exact hC i hi
/-- A list of writes that is being copied: k of its n are there. -/
def PartWs (w : World) (B n : Nat) (ws : List Wt) (k : Nat) : Prop :=
  ∃ (xs C : List Value), xs.length = k ∧ w.ownsRow B 75 2 (.slice (some ⟨B, 0, none⟩) n n) n C ∧ B < w.heap.size ∧
    (∀ i, i < k → C[i * 2]? = some (.int .i64 (ws[i]?.getD (0, [])).1) ∧ C[i * 2 + 1]? = some (xs[i]?.getD undef)) ∧
    (∀ i, i < k → OwB w B w.heap.size (xs[i]?.getD undef) (ws[i]?.getD (0, [])).2) ∧ ∀ i j q, i < j → j < k → (xs[i]?.getD undef).ownBlock = some q → (xs[j]?.getD undef).ownBlock ≠ some q
end Go.Proofs.YtjhaanenkeceiaaDoor
end

section
/- Lists of writes that wait: compared, marked, looked at. Conditions: at most 2^21 of them, of at most 2^21 bytes. -/
namespace Go.Proofs.YtjhaanenkeceiaaDoor
open Go.RowKit
set_option linter.unusedVariables false

end Go.Proofs.YtjhaanenkeceiaaDoor
end

section
/- Lists of writes that wait, marked and found again. Conditions: at most 2^21 of them and of their bytes in all. -/
namespace Go.Proofs.YtjhaanenkeceiaaDoor
open Go.RowKit
set_option linter.unusedVariables false

def lenWs : List Wt → Nat
  | [] => 0
  | z :: r => 1 + z.2.length + lenWs r
def markWs : List Wt → Nat → List Wt
  | [], _ => []
  | z :: r, k => ((k : Int), marks z.2.length (k + 1)) :: markWs r (k + (1 + z.2.length))
theorem lenWs_append (a b : List Wt) : lenWs (a ++ b) = lenWs a + lenWs b := by
  induction a with
  | nil => simp [lenWs]
  | cons z r ih => simp only [List.cons_append, lenWs, ih]; omega
@[simp] theorem markWs_length (a : List Wt) (k : Nat) : (markWs a k).length = a.length := by
  induction a generalizing k with
  | nil => rfl
  | cons z r ih => simp [markWs, ih]
theorem takeW_next (ws : List Wt) (j : Nat) (h : j < ws.length) : ws.take (j + 1) = ws.take j ++ [ws[j]?.getD (0, [])] := by
  rw [List.take_succ_eq_append_getElem h]; simp [h]
theorem lenWs_next (ws : List Wt) (j : Nat) (h : j < ws.length) : lenWs (ws.take (j + 1)) = lenWs (ws.take j) + (1 + (ws[j]?.getD (0, [])).2.length) := by
  rw [takeW_next _ _ h, lenWs_append]; simp [lenWs]
theorem lenWs_take (ws : List Wt) (j : Nat) : lenWs (ws.take j) ≤ lenWs ws := by
  have := lenWs_append (ws.take j) (ws.drop j)
  rw [List.take_append_drop] at this; omega
theorem lenWs_at (ws : List Wt) (j : Nat) : (ws[j]?.getD (0, [])).2.length ≤ lenWs ws := by
  by_cases h : j < ws.length
  · have := lenWs_next ws j h
    have := lenWs_take ws (j + 1)
    omega
  · simp [h]
theorem lenWs_len (ws : List Wt) : ws.length ≤ lenWs ws := by
  induction ws with
  | nil => simp
  | cons z r ih => simp only [List.length_cons, lenWs]; omega
def markedWs (ws : List Wt) (k j : Nat) : List Wt := markWs (ws.take j) k ++ ws.drop j
def MRelW (ws : List Wt) (k l h n : Nat) (v : Value) (w : World) (q i : Value) (wr : World) : Prop :=
  ∃ j s : Nat, j ≤ n ∧ i = .int .i64 j ∧ q = .int .i64 s ∧ Hid (s = k + lenWs (ws.take j)) ∧ Hid (OwWs wr l h v (markedWs ws k j)) ∧ Turns l h w wr

end Go.Proofs.YtjhaanenkeceiaaDoor
end

section
/- Disks as values: what is read and owned of them, and what the verifier's helpers do with them. Conditions: at most 2^21 of each and of their bytes. -/
namespace Go.Proofs.YtjhaanenkeceiaaDoor
open Go.RowKit
set_option linter.unusedVariables false

abbrev Dk := List (List Int) × List Wt

theorem OwBB.wide {w : World} {l h l' h' : Nat} {v : Value} {zss : List (List Int)} (o : OwBB w l h v zss) (h1 : l' ≤ l) (h2 : h ≤ h') : OwBB w l' h' v zss := by
  obtain ⟨vs, hl, ho, hb, he, hd⟩ := o
  refine ⟨vs, hl, ⟨ho.1, ?_⟩, hb.le h2, fun i hi => (he i hi).wide h1 h2, hd⟩
  rcases ho.2 with h0 | ⟨g, c, cur, hv, hg, r⟩
  · exact .inl h0
  · exact .inr ⟨g, c, cur, hv, by omega, r⟩
theorem SameIn.set {l h : Nat} {w : World} {p : Addr} {u : Value} (hp : p.block < l ∨ h ≤ p.block) : SameIn l h w (w.setCell p u) :=
  ⟨by simp, fun k h1 h2 => heap_setCell_other _ _ _ _ (by omega)⟩

/-- v reads as the disk d; all of it lies in blocks l .. h-1. -/
def RdD (w : World) (l h : Nat) (v : Value) (d : Dk) : Prop := ∃ x y, v = .agg #[x, y] ∧ RdBB w l h x d.1 ∧ RdWs w l h y d.2
theorem RdD.same {w w' : World} {l h : Nat} {v : Value} {d : Dk} (r : RdD w l h v d) (t : SameIn l h w w') : RdD w' l h v d := by
  obtain ⟨x, y, hv, h1, h2⟩ := r
  exact ⟨x, y, hv, h1.same t, h2.same t⟩
theorem RdD.wide {w : World} {l h l' h' : Nat} {v : Value} {d : Dk} (r : RdD w l h v d) (h1 : l' ≤ l) (h2 : h ≤ h') : RdD w l' h' v d := by
  obtain ⟨x, y, hv, r1, r2⟩ := r
  exact ⟨x, y, hv, r1.wide h1 h2, r2.wide h1 h2⟩
/-- v is the call's own, with the disk d: its sectors lie ahead of its waiting writes, all in blocks l .. h-1. -/
def OwD (w : World) (l h : Nat) (v : Value) (d : Dk) : Prop := ∃ x y m, v = .agg #[x, y] ∧ l ≤ m ∧ m ≤ h ∧ OwBB w l m x d.1 ∧ OwWs w m h y d.2
theorem OwD.rd {w : World} {l h : Nat} {v : Value} {d : Dk} (o : OwD w l h v d) : RdD w l h v d := by
  obtain ⟨x, y, m, hv, h1, h2, o1, o2⟩ := o
  exact ⟨x, y, hv, o1.rd.wide (Nat.le_refl _) h2, o2.rd.wide h1 (Nat.le_refl _)⟩
theorem RdBB.sliced {w : World} {l h : Nat} {v : Value} {z : List (List Int)} (r : RdBB w l h v z) : ∃ a n c, v = .slice a n c := by
  obtain ⟨a, n, c, _, hv, _⟩ := r; exact ⟨a, n, c, hv⟩
theorem RdWs.sliced {w : World} {l h : Nat} {v : Value} {z : List Wt} (r : RdWs w l h v z) : ∃ a n c, v = .slice a n c := by
  obtain ⟨a, n, c, _, hv, _⟩ := r; exact ⟨a, n, c, hv⟩

/-- What the sizes of a disk must be for the helpers. -/
def Small (d : Dk) : Prop := d.1.length ≤ 2097152 ∧ lenBB d.1 ≤ 2097152 ∧ lenWs d.2 ≤ 2097152
theorem Small.a {d : Dk} (h : Small d) : ∀ i : Nat, (d.1[i]?.getD []).length ≤ 2097152 := fun i => Nat.le_trans (lenBB_at _ _) h.2.1
theorem Small.b {d : Dk} (h : Small d) : ∀ i : Nat, (d.2[i]?.getD (0, [])).2.length ≤ 2097152 := fun i => Nat.le_trans (lenWs_at _ _) h.2.2
theorem Small.c {d : Dk} (h : Small d) : d.2.length ≤ 2097152 := Nat.le_trans (lenWs_len _) h.2.2

theorem heap3 (w : World) (o1 o2 o3 : Obj) : (((w.alloc o1).alloc o2).alloc o3).heap[w.heap.size]? = some o1 ∧ (((w.alloc o1).alloc o2).alloc o3).heap[w.heap.size + 1]? = some o2 ∧ (((w.alloc o1).alloc o2).alloc o3).heap[w.heap.size + 1 + 1]? = some o3 := by
  refine ⟨?_, ?_, ?_⟩
  · show (((w.heap.push o1).push o2).push o3)[w.heap.size]? = _
    rw [Array.getElem?_push, if_neg (by simp; omega), Array.getElem?_push, if_neg (by simp), Array.getElem?_push, if_pos rfl]
  · show (((w.heap.push o1).push o2).push o3)[w.heap.size + 1]? = _
    rw [Array.getElem?_push, if_neg (by simp), Array.getElem?_push, if_pos (by simp)]
  · show (((w.heap.push o1).push o2).push o3)[w.heap.size + 1 + 1]? = _
    rw [Array.getElem?_push, if_pos (by simp)]

def markD (d : Dk) (k : Nat) : Dk := (markBB d.1 k, markWs d.2 (k + lenBB d.1))
def lenD (d : Dk) : Nat := lenBB d.1 + lenWs d.2

end Go.Proofs.YtjhaanenkeceiaaDoor
end

section
/- append as one step of a region that draws its order. Conditions: at most 2^22 elements. -/
namespace Go.Proofs.YtjhaanenkeceiaaDoor
open Go.RowKit
set_option linter.unusedVariables false

/-- append(v, x...) as one step of a region that draws its order. -/
theorem step_app {ops : Array Oper} {o : Oper} {a : Act} {w : World} {K : Act → World → Prop} {Q : Exit → Act → World → Prop} {E : Prop} (hgd : o.guard = none) (s x : Operand)
    (ho : o.op = .call { callee := .builtin .append, args := #[s, x], argTypes := #[22, 22] })
    (base : Nat) (v : Value) (zs ys : List Int) (hs : a.eval s = v) (hown : Owns w base v zs) (ao : Option Addr) (m c : Nat) (hx : a.eval x = .slice ao m c) (hm : m = ys.length) (hr : Reads w ao ys)
    (hl : zs.length ≤ 4194304) (hl' : ys.length ≤ 4194304) (hbase : base ≤ w.heap.size) (hnil : ao = none → m = 0 ∧ c = 0)
    (h : ∀ v' w', Owns w' base v' (zs ++ ys) → w.grownBy w' v.ownBlock → K (a.put o.dst v') w') : if Region.wanted o (yielded ops a.tmps) = true then Oper.wp Tryd.prog o a w K Q else E := by
  have hw : Region.wanted o (yielded ops a.tmps) = true := by simp [Region.wanted, hgd]
  rw [if_pos hw]
  obtain ⟨i0, hi, hz0, hz1, hz2⟩ := info_parts Tryd.infoB
  cases ao with
  | none =>
    obtain ⟨h0, hc0⟩ := hnil rfl
    have : ys = [] := List.eq_nil_of_length_eq_zero (by omega)
    subst this
    subst hm
    subst hc0
    have hrun := run_append_owned_none (P := Tryd.prog) (w := w) base 22 o.type 5 i0 1 Tryd.underlying22 hi v zs.length (bcells zs) hown
    unfold Oper.wp
    have hx' : a.eval x = .slice none 0 0 := hx
    simp [execOp, ho, resolve, invoke, builtin, hs, hx', hrun, Result.andThen]
    exact h v w (by rw [List.append_nil]; exact hown) ⟨rfl, rfl, rfl, Nat.le_refl _, fun _ _ _ => rfl⟩
  | some ad =>
    refine wp_append_own w s x 22 ho base 5 i0 (.int .u8 0) 1 1 Tryd.underlying22 hi hz0 hz1 hz2 rfl (by decide) v zs.length (bcells zs) hs hown ad m c (bcells ys) hx (by simp [hm]) hr.srcAt (bcells_one ys) (by unfold maxLen; omega) (by omega) hbase ?_
    intro v' w' ho' hg _
    refine h v' w' ?_ hg
    unfold Owns
    rw [List.length_append, ← hm]
    simpa [bcells] using ho'

/-- append(v, x), v a list of bytes of the call's own, x one slice in a block of its own, as one step of a region that draws its order. -/
theorem step_appBB {ops : Array Oper} {o : Oper} {a : Act} {w : World} {K : Act → World → Prop} {Q : Exit → Act → World → Prop} {E : Prop} (hgd : o.guard = none) (s x : Operand)
    (ho : o.op = .call { callee := .builtin .append, args := #[s, x], argTypes := #[23, 23] })
    (base : Nat) (v : Value) (vs : List Value) (hs : a.eval s = v) (hown : w.ownsRow base 22 1 v vs.length vs) (b : Nat) (u : Value) (hx : a.eval x = .slice (some ⟨b, 0, none⟩) 1 1) (hu : w.cell? ⟨b, 0, none⟩ = some u) (h1 : u.oneCell' = true)
    (hl : vs.length ≤ 4194304) (hbase : base ≤ w.heap.size)
    (h : ∀ v' w', w'.ownsRow base 22 1 v' (vs ++ [u]).length (vs ++ [u]) → w.grownBy w' v.ownBlock → K (a.put o.dst v') w') : if Region.wanted o (yielded ops a.tmps) = true then Oper.wp Tryd.prog o a w K Q else E := by
  have hw : Region.wanted o (yielded ops a.tmps) = true := by simp [Region.wanted, hgd]
  rw [if_pos hw]
  obtain ⟨i0, hi, hz0, hz1, hz2⟩ := info_parts Tryd.infoBB
  refine wp_append_own w s x 23 ho base 22 i0 (.slice none 0 0) 1 24 Tryd.underlying23 hi hz0 hz1 hz2 rfl (by decide) v vs.length vs hs hown ⟨b, 0, none⟩ 1 1 [u] hx rfl (fun j q hj => ?_) (fun q hq => by simp at hq; subst hq; exact h1) (by unfold maxLen; omega) (by omega) hbase ?_
  · match j, hj with
    | 0, hj => simp at hj; subst hj; simpa [Addr.add] using hu
  · intro v' w' ho' hg _
    refine h v' w' ?_ hg
    rw [List.length_append]; exact ho'

theorem row_sliced {w : World} {l : Nat} {e : TypeId} {z : Nat} {v : Value} {n : Nat} {xs : List Value} (h : w.ownsRow l e z v n xs) : ∃ a n c, v = .slice a n c := by
  rcases h.2 with ⟨h0, _⟩ | ⟨g, c, cur, h0, _⟩
  · exact ⟨_, _, _, h0⟩
  · exact ⟨_, _, _, h0⟩

/-- append(v, x), v a list of bytes of the call's own, x one slice in a block of its own: where the new list lies. -/
theorem step_appL {ops : Array Oper} {o : Oper} {a : Act} {w : World} {K : Act → World → Prop} {Q : Exit → Act → World → Prop} {E : Prop} (hgd : o.guard = none) (s x : Operand)
    (ho : o.op = .call { callee := .builtin .append, args := #[s, x], argTypes := #[23, 23] })
    (base : Nat) (v : Value) (n : Nat) (vs : List Value) (hs : a.eval s = v) (hown : w.ownsRow base 22 1 v n vs) (b : Nat) (u : Value) (hx : a.eval x = .slice (some ⟨b, 0, none⟩) 1 1) (hu : w.cell? ⟨b, 0, none⟩ = some u) (h1 : u.oneCell' = true)
    (hl : n ≤ 4194304) (hbase : base ≤ w.heap.size)
    (h : ∀ g cap w', w'.ownsRow base 22 1 (.slice (some ⟨g, 0, none⟩) (n + 1) cap) (n + 1) (vs ++ [u]) → w.grownBy w' v.ownBlock → (v.ownBlock = some g ∨ g = w.heap.size) → g < w'.heap.size → K (a.put o.dst (.slice (some ⟨g, 0, none⟩) (n + 1) cap)) w') : if Region.wanted o (yielded ops a.tmps) = true then Oper.wp Tryd.prog o a w K Q else E := by
  obtain ⟨i0, hi, hz0, hz1, hz2⟩ := info_parts Tryd.infoBB
  refine step_append_lies w hgd s x 23 ho base 22 i0 (.slice none 0 0) 1 24 Tryd.underlying23 hi hz0 hz1 hz2 rfl (by decide) v n vs hs hown ⟨b, 0, none⟩ 1 1 [u] hx rfl (fun j q hj => ?_) (fun q hq => by simp at hq; subst hq; exact h1) (by decide) (by unfold maxLen; omega) (by omega) hbase _ rfl h
  match j, hj with
  | 0, hj => simp at hj; subst hj; simpa [Addr.add] using hu

theorem RdB.keep {w w' : World} {l h : Nat} {v : Value} {zs : List Int} {r : Option Nat} (x : RdB w l h v zs) (hg : w.grownBy w' r) (hh : h ≤ w.heap.size) (hne : ∀ g, v.ownBlock = some g → r ≠ some g) : RdB w' l h v zs := by
  obtain ⟨hb, a, len, cap, hv, hl, hd, hc⟩ := x
  refine ⟨hb, a, len, cap, hv, hl, hd, ?_⟩
  rcases hc with h0 | ⟨b, off, ha, h1, h2, hc⟩
  · exact .inl h0
  · refine .inr ⟨b, off, ha, h1, h2, fun i hi => ?_⟩
    rw [hg.cell_far ⟨b, off + i, none⟩ (by show b < _; omega) (fun e => hne b (by rw [hv, ha]; rfl) e.symm)]
    exact hc i hi

/-- A list of bytes of the call's own that may grow: no element lies in the list's own block. -/
def GrBB (w : World) (l : Nat) (v : Value) (zss : List (List Int)) : Prop :=
  ∃ vs : List Value, vs.length = zss.length ∧ w.ownsRow l 22 1 v zss.length vs ∧ ∀ i, i < zss.length → RdB w l w.heap.size (vs[i]?.getD undef) (zss[i]?.getD []) ∧ ∀ g, (vs[i]?.getD undef).ownBlock = some g → g < w.heap.size ∧ v.ownBlock ≠ some g
theorem GrBB_nil (w : World) (l : Nat) : GrBB w l (.slice none 0 0) [] := ⟨[], rfl, World.ownsRow_nil _ _ _ _, fun i hi => absurd hi (Nat.not_lt_zero _)⟩
theorem GrBB.sliced {w : World} {l : Nat} {v : Value} {zss : List (List Int)} (o : GrBB w l v zss) : ∃ a c, v = .slice a zss.length c := by
  obtain ⟨vs, hl, ho, _⟩ := o
  rcases ho.2 with ⟨h0, hz⟩ | ⟨g, c, cur, h0, _⟩
  · exact ⟨none, 0, by rw [h0, hz]⟩
  · exact ⟨_, _, h0⟩
theorem GrBB.rd {w : World} {l : Nat} {v : Value} {zss : List (List Int)} (o : GrBB w l v zss) : RdBB w l w.heap.size v zss := by
  obtain ⟨vs, hl, ho, he⟩ := o
  have hb := ho.lt
  rcases ho.2 with ⟨hv, h0⟩ | ⟨g, c, cur, hv, hg, hh, hnc, hm, _⟩
  · subst hv
    exact ⟨none, 0, 0, fun i => vs[i]?.getD undef, rfl, by omega, ⟨Nat.le_refl _, Nat.zero_le _, fun _ => ⟨rfl, rfl⟩⟩, .inl rfl, fun i hi => absurd hi (Nat.not_lt_zero _)⟩
  · subst hv
    refine ⟨_, zss.length, c, fun i => vs[i]?.getD undef, rfl, rfl, ⟨hnc, hm, fun e => by cases e⟩, .inr ⟨g, 0, rfl, hg, (hb g rfl).2, fun i hi => ?_⟩, fun i hi => (he i hi).1⟩
    rw [Nat.zero_add, World.ownsRow.cellAt ho i (by omega)]
    rw [List.getElem?_eq_getElem (by omega)]
    simp [hl, hi]
theorem GrBB.same {w w' : World} {l : Nat} {v : Value} {zss : List (List Int)} (o : GrBB w l v zss) (t : SameIn l w.heap.size w w') : GrBB w' l v zss := by
  obtain ⟨vs, hl, ho, he⟩ := o
  exact ⟨vs, hl, ownsRow_same ho (fun k hk => (ho.lt k hk).2) t, fun i hi => ⟨((he i hi).1.same t).wide (Nat.le_refl _) t.1, fun g hg => ⟨Nat.lt_of_lt_of_le ((he i hi).2 g hg).1 t.1, ((he i hi).2 g hg).2⟩⟩⟩
theorem slice_block {a : Addr} {n c k : Nat} (h : (Value.slice (some a) n c).ownBlock = some k) : a.block = k := by simpa [Value.ownBlock] using h
/-- One more was appended. -/
theorem GrBB.next {w wa w' : World} {l g cap : Nat} {v u : Value} {zss : List (List Int)} {zs : List Int} {vs : List Value} (hvl : vs.length = zss.length) (hrow : w.ownsRow l 22 1 v zss.length vs)
    (he : ∀ i, i < zss.length → RdB w l w.heap.size (vs[i]?.getD undef) (zss[i]?.getD []) ∧ ∀ g, (vs[i]?.getD undef).ownBlock = some g → g < w.heap.size ∧ v.ownBlock ≠ some g) (hb : Below w.heap.size w wa)
    (hr' : w'.ownsRow l 22 1 (.slice (some ⟨g, 0, none⟩) (zss.length + 1) cap) (zss.length + 1) (vs ++ [u])) (hgr : wa.grownBy w' v.ownBlock) (hat : v.ownBlock = some g ∨ g = wa.heap.size)
    (hu : RdB wa l wa.heap.size u zs) (hua : ∀ q, u.ownBlock = some q → w.heap.size ≤ q ∧ q < wa.heap.size) : GrBB w' l (.slice (some ⟨g, 0, none⟩) (zss.length + 1) cap) (zss ++ [zs]) := by
  have hs := hb.size
  have hs' := hgr.size
  refine ⟨vs ++ [u], by simp [hvl], by simpa using hr', fun i hi => ?_⟩
  rw [List.length_append, List.length_singleton] at hi
  rw [getD_snoc, getD_snoc]
  by_cases h1 : i < zss.length
  · rw [if_pos (by omega), if_pos h1]
    obtain ⟨h2, h3⟩ := he i h1
    have hx : RdB w' l w.heap.size (vs[i]?.getD undef) (zss[i]?.getD []) := (h2.same (SameIn.ofBelow hb (Nat.le_refl _))).keep hgr hs (fun q hq => (h3 q hq).2)
    refine ⟨hx.wide (Nat.le_refl _) (by omega), fun q hq => ⟨by have := (h3 q hq).1; omega, fun e => ?_⟩⟩
    have e' : g = q := by have := slice_block e; simpa using this
    subst e'
    rcases hat with hat | hat
    · exact (h3 g hq).2 hat
    · have := (h3 g hq).1
      omega
  · have h4 : i = zss.length := by omega
    subst h4
    rw [if_neg (by omega), if_pos hvl.symm, if_neg (by omega), if_pos rfl]
    refine ⟨(hu.keep hgr (Nat.le_refl _) (fun q hq e => ?_)).wide (Nat.le_refl _) hs', fun q hq => ⟨by have := hua q hq; omega, fun e => ?_⟩⟩
    · have := (hua q hq).1
      have := (hrow.lt q e).2
      omega
    · have h5 := hua q hq
      have e' : g = q := by have := slice_block e; simpa using this
      subst e'
      rcases hat with hat | hat
      · have := (hrow.lt g hat).2; omega
      · omega

theorem RdD.open {w : World} {l h : Nat} {v : Value} {d : Dk} (r : RdD w l h v d) : ∃ xa xn xc ya yn yc, v = .agg #[.slice xa xn xc, .slice ya yn yc] := by
  obtain ⟨x, y, rfl, r1, r2⟩ := r
  obtain ⟨xa, xn, xc, rfl⟩ := r1.sliced
  obtain ⟨ya, yn, yc, rfl⟩ := r2.sliced
  exact ⟨xa, xn, xc, ya, yn, yc, rfl⟩
/-- A variable that holds a disk. -/
def VarD (w : World) (b : Nat) (x y : Value) : Prop := w.heap[b]? = some (.cells #[x, y] 26 (0, 0))
theorem VarD.c0 {w : World} {b : Nat} {x y : Value} (h : VarD w b x y) : w.cell? ⟨b, 0, none⟩ = some x := by rw [cell_of_row _ _ _ _ _ _ h]; rfl
theorem VarD.c1 {w : World} {b : Nat} {x y : Value} (h : VarD w b x y) : w.cell? ⟨b, 1, none⟩ = some y := by rw [cell_of_row _ _ _ _ _ _ h]; rfl
theorem VarD.f {w : World} {b : Nat} {x y : Value} (h : VarD w b x y) (i : Nat) : w.frozen? ⟨b, i, none⟩ = false := frozen_of_row _ _ _ _ _ h
theorem VarD.lt {w : World} {b : Nat} {x y : Value} (h : VarD w b x y) : b < w.heap.size := lt_of_block h
theorem VarD.step {w w' : World} {b : Nat} {x y : Value} (h : VarD w b x y) (hb : Below w.heap.size w w') : VarD w' b x y := (hb.block b h.lt).trans h
theorem VarD.new (w : World) (x y : Value) : VarD (w.alloc (.cells #[x, y] 26)) w.heap.size x y := heap_alloc_new w _
theorem RdD.step {w w' : World} {l h : Nat} {v : Value} {d : Dk} (r : RdD w l h v d) (hh : h ≤ w.heap.size) (hb : Below w.heap.size w w') : RdD w' l h v d := r.same (SameIn.ofBelow hb hh)
theorem Below.new {w : World} (o : Obj) : Below w.heap.size w (w.alloc o) := (Below.refl _ _).alloc (Nat.le_refl _) _
end Go.Proofs.YtjhaanenkeceiaaDoor
end

section
/- What errors.Is does, for what the program hands it: nil or the very error that is asked for, an error of errors.New's make. No condition. -/
namespace Go.Proofs.YtjhaanenkeceiaaDoor
open Go.RowKit Go.Extern.Stop Go.Stop Go.Extern
set_option linter.unusedVariables false

theorem Tryd.isTypeOf (v : Value) (w : World) : (Extern.ReflectliteType.typeOf #[.iface 131 v]).run Tryd.prog w = .ok (.iface 121 (.agg #[.pointer (some ⟨3, 131, none⟩)])) w := by kernel_rfl
def comparableEntry : Array Value → Sem Value := Extern.ReflectliteType.method fun t => do Extern.Rtype.noPackHeld "Comparable" t; pure (.bool (← typeInfo t).comparable)
theorem Tryd.isComparable (w : World) : (comparableEntry #[.agg #[.pointer (some ⟨3, 131, none⟩)]]).run Tryd.prog w = .ok (.bool true) w := by kernel_rfl
theorem Tryd.isMethodComparable (v : Value) (w : World) : (Go.method 269 121 v "Comparable").run Tryd.prog w = .ok (110, v) w := by kernel_rfl
theorem Tryd.isComp : (Tryd.prog.info? 131).map (·.comparable) = some true := by kernel_rfl
theorem Tryd.isSize : (Tryd.prog.info? 157).map (·.size) = some 1 := by kernel_rfl

/-- errors.Is(nil, x). -/
theorem is_nil (b : Addr) (w : World) :
    Calls Tryd.prog 86 #[.nilIface, .iface 131 (.pointer (some b))] w fun e w' => e = .returned (.bool false) ∧ w' = w := by
  have hn := run_eql_iface_nil_left (P := Tryd.prog) w 131 (.pointer (some b)) Tryd.underlying85
  go_enter Tryd.func86, Tryd.ntmps86
  go_wp2
  go_ret
  exact ⟨rfl, rfl⟩

/-- errors.Is(x, x), x a pointer to an errors.errorString. -/
theorem is_same (a : Addr) (w : World) :
    Calls Tryd.prog 86 #[.iface 131 (.pointer (some a)), .iface 131 (.pointer (some a))] w fun e w' => e = .returned (.bool true) ∧ w' = w := by
  obtain ⟨i, hi, hcmp⟩ := Option.map_eq_some_iff.1 Tryd.isComp
  obtain ⟨j, hj, hjs⟩ := Option.map_eq_some_iff.1 Tryd.isSize
  have h8 := @run_callFunc_extern Tryd.prog 89 _ Extern.ReflectliteType.typeOf Tryd.func89 (by kernel_rfl) (by kernel_rfl) (by kernel_rfl) (by kernel_rfl)
  have h32 := @run_callFunc_extern Tryd.prog 110 _ comparableEntry Tryd.func110 (by kernel_rfl) (by kernel_rfl) (by kernel_rfl) (by kernel_rfl)
  have tT := Tryd.isTypeOf
  have cT := Tryd.isComparable
  have mR := Tryd.isMethodComparable
  have heq := run_eql_iface_ptr_same (P := Tryd.prog) w a Tryd.underlying85 Tryd.underlying131 hi hcmp hj
  go_enter Tryd.func86, Tryd.ntmps86
  go_wp2
  refine wp_loop_rounds 1 ?_
  rw [rounds_succ]
  go_wp2
  go_ret
  exact ⟨rfl, rfl⟩
end Go.Proofs.YtjhaanenkeceiaaDoor
end

section
/- What the verifier's counting of a disk's sizes answers; no condition on the disk. -/
namespace Go.Proofs.YtjhaanenkeceiaaDoor
open Go.RowKit
set_option linter.unusedVariables false

def left (n s : Nat) : Int := if n ≤ s then (s : Int) - n else -1

def SRelB (zss : List (List Int)) (s n : Nat) (q i : Value) : Prop := ∃ j t : Nat, j ≤ n ∧ i = .int .i64 j ∧ q = .int .i64 t ∧ t ≤ s ∧ Hid (t + (n + lenBB (zss.take j)) = s)

def sizeD (d : Dk) : Nat := d.1.length + lenBB d.1 + lenWs d.2
end Go.Proofs.YtjhaanenkeceiaaDoor
end
