/- Joined: LaidH Base Bytes Own Mem Dt Hands Ents Roots Nums Puts PutNum Steps Texts Pure Wires WBy0 PRead PRead2 GetTexts VarL RdC Ents2 RdE SpecD1 Nodes2 SpecD2 SpecD3 Szs SpecT1 Same Strs3 SpecT3 SpecD4 Cls SpecT5 EqH SpecD5 OpenT SpecD6 SpecD7 SpecD8 Names4 RegZ SpecT2 IC1 IC2 WOk WOk2 SortL ImplT1. -/
import Derived.Test.YtnphmhobpmaebaaGreatDoorRows
import Derived.ProofKit
import Derived.ChangeSame
import Derived.ChangeVars
import Derived.JoinedOf
import Derived.LaidLaws
import Derived.LaidHandle
import Derived.Lay
import Derived.Stop.Joined
import Derived.Stop.LaidErr
import Derived.RowKitTokens
import Derived.OpenShut
import Derived.ShutString
import Derived.ChangeOld
import Derived.Below
import Derived.Test.YtnphmhobpmaebaaGreatDoorProg
import Derived.WalkKit
import Derived.Deep.Draws
import Derived.Deep.QuietTactic
import Derived.BigQuiet
import Derived.Laws.CopyOwn
import Derived.WalkSpells
import Derived.Laws.AppendOwnNone
import Derived.Deep.RegionHeld3
import Derived.Deep.MidRow
import Derived.Laws.CopyRow
import Derived.Deep.AppendLies
import Derived.Laws.BytesArg
import Derived.Lib.Bytes
import Derived.Lib.SmallJoins
import Derived.Deep.Slices
import Derived.Deep.Strs
import Derived.Maps.AppendAt
import Derived.Shelf.SlSortCmp.WholeK
import Derived.Shelf.SlSortCmp.NoneTotal

namespace Go.Proofs.YtnphmhobpmaebaaGreatDoor
open Go.RowKit
set_option linter.unusedVariables false
set_option linter.unusedSimpArgs false
set_option maxRecDepth 100000
section
open Go.ChangeShapes Go.WideShapes Go.ChangeAt Go.RowKit
theorem Tryz.own : ownKnob Tryz.prog.godebug = none := by kernel_rfl
theorem Tryz.laidOut : laidOutB Tryz.prog = true := by kernel_rfl
abbrev laidE : List (String × DataW Unit) := [("errors.errorType", Rows.laid_errors_errorType)]
noncomputable def etV : Value := .iface 139 (.agg #[typeHandle Tryz.prog 60])
noncomputable def laidWorld (os : Os) : World :=
  let w0 := World.holding Tryz.prog os ⟨#[], #[], []⟩
  { w0 with heap := w0.heap.modify 0 fun
      | .cells _ t frozen => .cells #[etV] t frozen
      | o => o }
theorem laidWorld_met (os : Os) (args : Array Value) : laidMetH Tryz.prog laidE ((laidWorld os).forCall (fun _ _ => 0) ⟨#[], args, []⟩).memory :=
  laidMetH_of_parts (laidMet_nil _ _) (by kernel_rfl)
end
section
theorem Tryz.infoB : (Tryz.prog.info? 5).map (fun i => (i.zero, i.size, i.bytes)) = some (some (.int .u8 0), 1, 1) := by kernel_rfl

/-- The bytes, as cells. -/
def bcells (zs : List Int) : List Value := zs.map (Value.int .u8)
@[simp] theorem bcells_length (zs : List Int) : (bcells zs).length = zs.length := by simp [bcells]

def isBytes (zs : List Int) : Prop := ∀ j : Nat, 0 ≤ zs[j]?.getD 0 ∧ zs[j]?.getD 0 ≤ 255

/-- In this world a slice that begins at 'a' and has as many elements as 'zs' reads as 'zs'. -/
def Reads (w : World) (a : Option Addr) (zs : List Int) : Prop :=
  isBytes zs ∧ (zs = [] ∨ ∃ b off, a = some ⟨b, off, none⟩ ∧ b < w.heap.size ∧ ∀ i, i < zs.length → w.cell? ⟨b, off + i, none⟩ = some (.int .u8 (zs[i]?.getD 0)))

theorem Reads.below {w w' : World} {a : Option Addr} {zs : List Int} (h : Reads w a zs) (hb : Below w.heap.size w w') : Reads w' a zs := by
  obtain ⟨h1, h2⟩ := h
  refine ⟨h1, ?_⟩
  rcases h2 with h2 | ⟨b, off, ha, hlt, hc⟩
  · exact .inl h2
  · refine .inr ⟨b, off, ha, by have := hb.size; omega, fun i hi => ?_⟩
    rw [hb.cell (p := ⟨b, off + i, none⟩) hlt]; exact hc i hi

/-- A slice that the call made, from 'base' on, with just these bytes. -/
def Owns (w : World) (base : Nat) (v : Value) (zs : List Int) : Prop := w.ownsRow base 5 1 v zs.length (bcells zs)

theorem Owns.reads {w : World} {base : Nat} {a : Option Addr} {n cap : Nat} {zs : List Int} (hz : isBytes zs) (h : Owns w base (.slice a n cap) zs) : n = zs.length ∧ Reads w a zs := by
  rcases h.2 with ⟨hv, h0⟩ | ⟨g, c, cur, hv, hg, hh, hnc, hm, hs, ht⟩
  · simp only [Value.slice.injEq] at hv
    obtain ⟨rfl, rfl, rfl⟩ := hv
    exact ⟨h0.symm, hz, .inl (List.eq_nil_of_length_eq_zero h0)⟩
  · simp only [Value.slice.injEq] at hv
    obtain ⟨rfl, rfl, rfl⟩ := hv
    refine ⟨rfl, hz, .inr ⟨g, 0, rfl, lt_of_block hh, fun i hi => ?_⟩⟩
    have := World.ownsRow.cellAt h i (by omega)
    rw [Nat.zero_add, this]
    simp [bcells, hi]

/-- The first k bytes laid, the others still nought. -/
def laid (zs : List Int) (k : Nat) : List Int := zs.take k ++ List.replicate (zs.length - k) 0
theorem madeCells_bytes (n : Nat) : (madeCells (Value.int .u8 0).cells (n * 1)).toList = bcells (List.replicate n 0) := by
  simp [madeCells, bcells, Value.cells]
  apply List.ext_getElem?
  intro i
  simp [List.getElem?_map, List.getElem?_replicate]
  by_cases h : i < n <;> simp [h, Nat.mod_one]

theorem isBytes_nil : isBytes [] := fun j => by simp
end
section
/-- What 'mark' lays into n bytes, from k on. -/
def marks (n : Nat) (k : Nat) : List Int := (List.range n).map (fun i => ((k + i : Nat) : Int) % 256)
/-- The first j marked, the others as they were. -/
def marked (zs : List Int) (k j : Nat) : List Int := marks j k ++ zs.drop j
end
section
theorem Tryz.sizeB : (Tryz.prog.info? 5).map (·.size) = some 1 := by kernel_rfl

theorem full_heap {w : World} {base : Nat} {e : TypeId} {g n : Nat} {xs : List Value} (h : w.ownsRow base e 1 (.slice (some ⟨g, 0, none⟩) n n) n xs) : w.heap[g]? = some (.cells xs.toArray e (0, 0)) := by
  rcases h.2 with ⟨hv, _⟩ | ⟨g', c, cur, hv, hg, hh, hnc, hm, hs, ht⟩
  · cases hv
  · simp only [Value.slice.injEq, Option.some.injEq, Addr.mk.injEq, and_true, true_and] at hv
    obtain ⟨rfl, rfl⟩ := hv
    rw [hh, ← ht, List.take_of_length_le (by simp; omega)]

theorem full_owns {w : World} {base g : Nat} {zs : List Int} {n : Nat} (hn : n = zs.length) (hg : base ≤ g) (hl : zs.length ≤ 4194304) (h : w.heap[g]? = some (.cells (bcells zs).toArray 5 (0, 0))) : Owns w base (.slice (some ⟨g, 0, none⟩) n n) zs := by
  subst hn
  exact ⟨by simp, .inr ⟨g, zs.length, _, rfl, hg, h, Nat.le_refl _, by unfold maxLen; omega, by simp, by simp [List.take_of_length_le]⟩⟩

theorem Reads.src {w : World} {a : Option Addr} {xs : List Int} (h : Reads w a xs) : 0 < (bcells xs).length → ∃ ad, a = some ad ∧ ∀ j v, (bcells xs)[j]? = some v → w.cell? (ad.add j) = some v := by
  intro h0
  rcases h.2 with rfl | ⟨b, off, rfl, hb, hc⟩
  · simp at h0
  · refine ⟨_, rfl, fun j v hv => ?_⟩
    have hj : j < xs.length := by
      rcases Nat.lt_or_ge j xs.length with h1 | h1
      · exact h1
      · rw [List.getElem?_eq_none (by simpa using h1)] at hv; cases hv
    have := hc j hj
    have e : ((⟨b, off, none⟩ : Addr).add j) = ⟨b, off + j, none⟩ := by
      by_cases h0 : j = 0
      · subst h0; simp [Addr.add]
      · simp [Addr.add, h0]
    rw [e, this, ← hv]
    simp [bcells, hj]

theorem bcells_one (xs : List Int) : ∀ v ∈ bcells xs, v.oneCell' = true := by
  intro v hv
  simp only [bcells, List.mem_map] at hv
  obtain ⟨x, _, rfl⟩ := hv
  rfl

theorem splice_two {α : Type} (Z X Y : List α) (k : Nat) (hk : X.length = k) (hZ : Z.length = k + Y.length) : splice (splice Z 0 X) k Y = X ++ Y := by
  subst hk
  unfold splice
  simp only [List.take_zero, List.nil_append, Nat.zero_add, List.take_left]
  rw [List.drop_append, List.drop_drop]
  have e1 : List.drop (X.length + Y.length) X = [] := List.drop_eq_nil_of_le (by omega)
  have e2 : List.drop (X.length + (X.length + Y.length - X.length)) Z = [] := List.drop_eq_nil_of_le (by omega)
  rw [e1, e2]; simp

theorem Owns.base {w : World} {base b' : Nat} {v : Value} {zs : List Int} (h : Owns w base v zs) (hb : b' ≤ base) : Owns w b' v zs := by
  obtain ⟨h1, h2⟩ := h
  refine ⟨h1, ?_⟩
  rcases h2 with h2 | ⟨g, c, cur, hv, hg, r⟩
  · exact .inl h2
  · exact .inr ⟨g, c, cur, hv, by omega, r⟩

theorem reads_none (w : World) (a : Option Addr) : Reads w a [] := ⟨isBytes_nil, .inl rfl⟩

theorem Owns.shape {w : World} {base : Nat} {v : Value} {zs : List Int} (h : Owns w base v zs) : ∃ a cap, v = .slice a zs.length cap ∧ zs.length ≤ cap ∧ cap ≤ maxLen := by
  rcases h.2 with ⟨rfl, h0⟩ | ⟨g, c, cur, hv, hg, hh, hnc, hm, r⟩
  · exact ⟨none, 0, by rw [h0], by omega, Nat.zero_le _⟩
  · exact ⟨_, c, hv, hnc, hm⟩

theorem Reads.srcAt {w : World} {ad : Addr} {xs : List Int} (h : Reads w (some ad) xs) : ∀ j v, (bcells xs)[j]? = some v → w.cell? (ad.add j) = some v := by
  by_cases h0 : 0 < (bcells xs).length
  · obtain ⟨ad', ha, hc⟩ := h.src h0
    simp only [Option.some.injEq] at ha
    subst ha
    exact hc
  · intro j v hv
    rw [List.getElem?_eq_none (by omega)] at hv; cases hv

theorem Owns.lt {w : World} {base : Nat} {v : Value} {zs : List Int} (h : Owns w base v zs) : ∀ k, v.ownBlock = some k → base ≤ k ∧ k < w.heap.size := World.ownsRow.lt h

/-- Its block lies before b. -/
def Before (v : Value) (b : Nat) : Prop := ∀ k, v.ownBlock = some k → k < b

/-- Its block lies from b on. -/
def From (v : Value) (b : Nat) : Prop := ∀ k, v.ownBlock = some k → b ≤ k

theorem apart {v u : Value} {b : Nat} (h : Before v b) (g : From u b) : ∀ k, v.ownBlock = some k → u.ownBlock ≠ some k := fun k hk e => by have := h k hk; have := g k e; omega
end
section
/-- Only blocks in lo .. hi-1, and new ones, have turned. -/
structure Turns (lo hi : Nat) (w w' : World) : Prop where
  os : w'.os = w.os
  tape : w'.tape = w.tape
  output : w'.output = w.output
  size : w.heap.size ≤ w'.heap.size
  block : ∀ k, k < w.heap.size → (k < lo ∨ hi ≤ k) → w'.heap[k]? = w.heap[k]?
/-- Blocks l .. h-1 are as they were. -/
def SameIn (l h : Nat) (w w' : World) : Prop := w.heap.size ≤ w'.heap.size ∧ ∀ k, l ≤ k → k < h → w'.heap[k]? = w.heap[k]?
/-- A slice's head: nil has no length. -/
def Headed (a : Option Addr) (len cap : Nat) : Prop := len ≤ cap ∧ cap ≤ maxLen ∧ (a = none → len = 0 ∧ cap = 0)

/-- v reads as the bytes zs, which lie in blocks l .. h-1. -/
def RdB (w : World) (l h : Nat) (v : Value) (zs : List Int) : Prop :=
  isBytes zs ∧ ∃ a len cap, v = .slice a len cap ∧ len = zs.length ∧ Headed a len cap ∧
    (zs = [] ∨ ∃ b off, a = some ⟨b, off, none⟩ ∧ l ≤ b ∧ b < h ∧ ∀ i, i < zs.length → w.cell? ⟨b, off + i, none⟩ = some (.int .u8 (zs[i]?.getD 0)))
/-- v is the call's own, with the bytes zs, in a block of l .. h-1. -/
def OwB (w : World) (l h : Nat) (v : Value) (zs : List Int) : Prop := isBytes zs ∧ Owns w l v zs ∧ Before v h
/-- v reads as the list zss of bytes; all of it lies in blocks l .. h-1. -/
def RdBB (w : World) (l h : Nat) (v : Value) (zss : List (List Int)) : Prop :=
  ∃ a len cap, ∃ vs : Nat → Value, v = .slice a len cap ∧ len = zss.length ∧ Headed a len cap ∧
    (len = 0 ∨ ∃ b off, a = some ⟨b, off, none⟩ ∧ l ≤ b ∧ b < h ∧ ∀ i, i < len → w.cell? ⟨b, off + i, none⟩ = some (vs i)) ∧ ∀ i, i < len → RdB w l h (vs i) (zss[i]?.getD [])
/-- v is the call's own, with the list zss of bytes, each in a block of its own, all in blocks l .. h-1. -/
def OwBB (w : World) (l h : Nat) (v : Value) (zss : List (List Int)) : Prop :=
  ∃ vs : List Value, vs.length = zss.length ∧ w.ownsRow l 22 1 v vs.length vs ∧ Before v h ∧ (∀ i, i < vs.length → OwB w l h (vs[i]?.getD undef) (zss[i]?.getD [])) ∧
    ∀ i j k, i < j → j < vs.length → (vs[i]?.getD undef).ownBlock = some k → (vs[j]?.getD undef).ownBlock ≠ some k
end
section
/-- Blocks of S are as they were. -/
def Keeps (S : Nat → Prop) (w w' : World) : Prop := w.heap.size ≤ w'.heap.size ∧ ∀ b, S b → b < w.heap.size → w'.heap[b]? = w.heap[b]?
/-- Only blocks of S, and new ones, have turned. -/
structure Turned (S : Nat → Prop) (w w' : World) : Prop where
  os : w'.os = w.os
  tape : w'.tape = w.tape
  output : w'.output = w.output
  size : w.heap.size ≤ w'.heap.size
  block : ∀ k, k < w.heap.size → ¬ S k → w'.heap[k]? = w.heap[k]?
theorem Turned.refl (S : Nat → Prop) (w : World) : Turned S w w := ⟨rfl, rfl, rfl, Nat.le_refl _, fun _ _ _ => rfl⟩
theorem Turned.trans {S : Nat → Prop} {a b c : World} (h : Turned S a b) (k : Turned S b c) : Turned S a c :=
  ⟨k.os.trans h.os, k.tape.trans h.tape, k.output.trans h.output, Nat.le_trans h.size k.size, fun i hi hr => (k.block i (Nat.lt_of_lt_of_le hi h.size) hr).trans (h.block i hi hr)⟩
theorem Turned.wide {S S' : Nat → Prop} {a b : World} (h : Turned S a b) (hs : ∀ k, S k → S' k) : Turned S' a b := ⟨h.os, h.tape, h.output, h.size, fun i hi hr => h.block i hi (fun e => hr (hs i e))⟩
theorem Turned.ofBelow {S : Nat → Prop} {a b : World} (h : Below a.heap.size a b) : Turned S a b := ⟨h.os, h.tape, h.output, h.size, fun i hi _ => h.block i hi⟩
theorem Turned.ofGrown {S : Nat → Prop} {a b : World} {r : Option Nat} (h : a.grownBy b r) (hr : ∀ k, r = some k → S k) : Turned S a b := ⟨h.os, h.tape, h.output, h.size, fun i hi ho => h.block i hi (fun e => ho (hr i e.symm))⟩
theorem Turned.alloc {S : Nat → Prop} {a b : World} (h : Turned S a b) (o : Obj) : Turned S a (b.alloc o) := h.trans (Turned.ofBelow ((Below.refl _ _).alloc (Nat.le_refl _) _))
theorem Turned.below {S : Nat → Prop} {B : Nat} {a b c : World} (h : Below B a b) (k : Turned S b c) (hB : B ≤ b.heap.size) (hl : ∀ i, S i → B ≤ i) : Below B a c :=
  h.trans ⟨k.os, k.tape, k.output, k.size, fun i hi => k.block i (by omega) (fun e => by have := hl i e; omega)⟩
theorem Turned.keeps {S T : Nat → Prop} {a b : World} (h : Turned S a b) (hd : ∀ k, T k → ¬ S k) : Keeps T a b := ⟨h.size, fun k hk hlt => h.block k hlt (hd k hk)⟩
theorem Keeps.ofBelow {S : Nat → Prop} {a b : World} (h : Below a.heap.size a b) : Keeps S a b := ⟨h.size, fun k _ hlt => h.block k hlt⟩
theorem Keeps.mono {S T : Nat → Prop} {a b : World} (h : Keeps S a b) (hs : ∀ k, T k → S k) : Keeps T a b := ⟨h.1, fun k hk hlt => h.2 k (hs k hk) hlt⟩

/-- v reads as the bytes zs, which lie in a block of S. -/
def RdS (w : World) (S : Nat → Prop) (v : Value) (zs : List Int) : Prop :=
  isBytes zs ∧ ∃ a len cap, v = .slice a len cap ∧ len = zs.length ∧ Headed a len cap ∧
    (zs = [] ∨ ∃ b off, a = some ⟨b, off, none⟩ ∧ S b ∧ b < w.heap.size ∧ ∀ i, i < zs.length → w.cell? ⟨b, off + i, none⟩ = some (.int .u8 (zs[i]?.getD 0)))
theorem RdS.keep {w w' : World} {S : Nat → Prop} {v : Value} {zs : List Int} (r : RdS w S v zs) (t : Keeps S w w') : RdS w' S v zs := by
  obtain ⟨hb, a, len, cap, hv, hl, hh, hc⟩ := r
  refine ⟨hb, a, len, cap, hv, hl, hh, ?_⟩
  rcases hc with h0 | ⟨b, off, ha, h1, h2, hc⟩
  · exact .inl h0
  · exact .inr ⟨b, off, ha, h1, Nat.lt_of_lt_of_le h2 t.1, fun i hi => by rw [World.cell?_of_block (w := w) (t.2 b h1 h2)]; exact hc i hi⟩
theorem RdS.mono {w : World} {S S' : Nat → Prop} {v : Value} {zs : List Int} (r : RdS w S v zs) (t : ∀ b, S b → S' b) : RdS w S' v zs := by
  obtain ⟨hb, a, len, cap, hv, hl, hh, hc⟩ := r
  refine ⟨hb, a, len, cap, hv, hl, hh, ?_⟩
  rcases hc with h0 | ⟨b, off, ha, h1, h2, hc⟩
  · exact .inl h0
  · exact .inr ⟨b, off, ha, t b h1, h2, hc⟩
theorem RdS.reads {w : World} {S : Nat → Prop} {v : Value} {zs : List Int} (r : RdS w S v zs) : ∃ a cap, v = .slice a zs.length cap ∧ Headed a zs.length cap ∧ Reads w a zs := by
  obtain ⟨hb, a, len, cap, hv, hl, hh, hc⟩ := r
  subst hl
  refine ⟨a, cap, hv, hh, hb, ?_⟩
  rcases hc with h0 | ⟨b, off, ha, h3, h4, hc⟩
  · exact .inl h0
  · exact .inr ⟨b, off, ha, h4, hc⟩
theorem ownsRow_keep {w w' : World} {l : Nat} {S : Nat → Prop} {e : TypeId} {size : Nat} {v : Value} {n : Nat} {xs : List Value} (o : w.ownsRow l e size v n xs) (hb : ∀ b, v.ownBlock = some b → S b) (t : Keeps S w w') : w'.ownsRow l e size v n xs := by
  obtain ⟨h1, h2⟩ := o
  refine ⟨h1, ?_⟩
  rcases h2 with h2 | ⟨g, c, cur, hv, hg, hh, r⟩
  · exact .inl h2
  · exact .inr ⟨g, c, cur, hv, hg, by rw [t.2 g (hb g (by rw [hv]; rfl)) (lt_of_block hh)]; exact hh, r⟩
theorem rdS_of_owns {w : World} {S : Nat → Prop} {v : Value} {zs : List Int} (hz : isBytes zs) (ho : Owns w 0 v zs) (hs : ∀ b, v.ownBlock = some b → S b) : RdS w S v zs := by
  obtain ⟨a, cap, rfl, h1, h2⟩ := ho.shape
  refine ⟨hz, a, _, cap, rfl, rfl, ⟨h1, h2, ?_⟩, ?_⟩
  · rintro rfl
    rcases ho.2 with ⟨hv, h0⟩ | ⟨g, c, cur, hv, _⟩
    · simp only [Value.slice.injEq, true_and] at hv; omega
    · cases hv
  · rcases (ho.reads hz).2.2 with h0 | ⟨b, off, ha, hb, hc⟩
    · exact .inl h0
    · subst ha
      exact .inr ⟨b, off, rfl, hs b rfl, hb, hc⟩
theorem place_lt {k n i j : Nat} (hi : i < n) (hj : j < k) : i * k + j < n * k := by
  have : (i + 1) * k ≤ n * k := Nat.mul_le_mul_right k hi
  rw [Nat.add_mul, Nat.one_mul] at this
  omega

/-- What a cell holds, told by how it is read (rd: all of it in blocks of S) and owned (ow: no block of it outside S, none serving twice). -/
structure Dt where
  rd : World → (Nat → Prop) → Value → Prop
  ow : World → (Nat → Prop) → Value → Prop
  rdKeep : ∀ (w w' : World) (S : Nat → Prop) (v : Value), Keeps S w w' → rd w S v → rd w' S v
  rdMono : ∀ (w : World) (S S' : Nat → Prop) (v : Value), (∀ b, S b → S' b) → rd w S v → rd w S' v
  owKeep : ∀ (w w' : World) (S : Nat → Prop) (v : Value), Keeps S w w' → ow w S v → ow w' S v
  owMono : ∀ (w : World) (S S' : Nat → Prop) (v : Value), (∀ b, S b → S' b) → ow w S v → ow w S' v
  owRd : ∀ (w : World) (S : Nat → Prop) (v : Value), ow w S v → rd w S v
/-- v reads as d, and all of it lies in blocks of S. -/
def RdV (w : World) (S : Nat → Prop) (v : Value) (d : Dt) : Prop := d.rd w S v
/-- v is the call's own and holds d; no block of it lies outside S, none serves twice. -/
def OwV (w : World) (S : Nat → Prop) (v : Value) (d : Dt) : Prop := d.ow w S v
def Dt.int (n : Int) : Dt := ⟨fun _ _ v => v = .int .i64 n, fun _ _ v => v = .int .i64 n, fun _ _ _ _ _ h => h, fun _ _ _ _ _ h => h, fun _ _ _ _ _ h => h, fun _ _ _ _ _ h => h, fun _ _ _ h => h⟩
def Dt.bool (b : Bool) : Dt := ⟨fun _ _ v => v = .bool b, fun _ _ v => v = .bool b, fun _ _ _ _ _ h => h, fun _ _ _ _ _ h => h, fun _ _ _ _ _ h => h, fun _ _ _ _ _ h => h, fun _ _ _ h => h⟩
def Dt.bytes (zs : List Int) : Dt := ⟨fun w S v => RdS w S v zs, fun w S v => isBytes zs ∧ Owns w 0 v zs ∧ ∀ b, v.ownBlock = some b → S b,
  fun _ _ _ _ t h => h.keep t, fun _ _ _ _ t h => h.mono t, fun _ _ _ _ t h => ⟨h.1, ownsRow_keep h.2.1 h.2.2 t, h.2.2⟩, fun _ _ _ _ t h => ⟨h.1, h.2.1, fun b hb => t b (h.2.2 b hb)⟩, fun _ _ _ h => rdS_of_owns h.1 h.2.1 h.2.2⟩
/-- n rows of k cells each, of type t. -/
def RowsRd (k n : Nat) (f : Nat → Nat → Dt) (w : World) (S : Nat → Prop) (v : Value) : Prop :=
  ∃ a cap, ∃ V : Nat → Nat → Value, v = .slice a n cap ∧ Headed a n cap ∧
    (n = 0 ∨ ∃ b off, a = some ⟨b, off, none⟩ ∧ S b ∧ b < w.heap.size ∧ ∀ i j, i < n → j < k → w.cell? ⟨b, off + (i * k + j), none⟩ = some (V i j)) ∧ ∀ i j, i < n → j < k → RdV w S (V i j) (f i j)
def RowsOw (t : TypeId) (k n : Nat) (f : Nat → Nat → Dt) (w : World) (S : Nat → Prop) (v : Value) : Prop :=
  ∃ (V : Nat → Nat → Value) (C : List Value) (Q : Nat → Nat → Nat → Prop), w.ownsRow 0 t k v n C ∧ (∀ b, v.ownBlock = some b → S b) ∧
      (∀ i j, i < n → j < k → C[i * k + j]? = some (V i j)) ∧ (∀ i j, i < n → j < k → OwV w (Q i j) (V i j) (f i j)) ∧ (∀ i j b, i < n → j < k → Q i j b → S b ∧ v.ownBlock ≠ some b) ∧
      (∀ i j i' j' b, i < n → j < k → i' < n → j' < k → Q i j b → Q i' j' b → i = i' ∧ j = j')
theorem RowsRd.keep {k n : Nat} {f : Nat → Nat → Dt} (w w' : World) (S : Nat → Prop) (v : Value) (t : Keeps S w w') (r : RowsRd k n f w S v) : RowsRd k n f w' S v := by
  obtain ⟨a, cap, V, hv, hh, hc, he⟩ := r
  refine ⟨a, cap, V, hv, hh, ?_, fun i j hi hj => (f i j).rdKeep w w' S _ t (he i j hi hj)⟩
  rcases hc with h0 | ⟨b, off, ha, h1, h2, hc⟩
  · exact .inl h0
  · exact .inr ⟨b, off, ha, h1, Nat.lt_of_lt_of_le h2 t.1, fun i j hi hj => by rw [World.cell?_of_block (w := w) (t.2 b h1 h2)]; exact hc i j hi hj⟩
theorem RowsRd.mono {k n : Nat} {f : Nat → Nat → Dt} (w : World) (S S' : Nat → Prop) (v : Value) (t : ∀ b, S b → S' b) (r : RowsRd k n f w S v) : RowsRd k n f w S' v := by
  obtain ⟨a, cap, V, hv, hh, hc, he⟩ := r
  refine ⟨a, cap, V, hv, hh, ?_, fun i j hi hj => (f i j).rdMono w S S' _ t (he i j hi hj)⟩
  rcases hc with h0 | ⟨b, off, ha, h1, h2, hc⟩
  · exact .inl h0
  · exact .inr ⟨b, off, ha, t b h1, h2, hc⟩
theorem RowsOw.keep {t : TypeId} {k n : Nat} {f : Nat → Nat → Dt} (w w' : World) (S : Nat → Prop) (v : Value) (hk : Keeps S w w') (r : RowsOw t k n f w S v) : RowsOw t k n f w' S v := by
  obtain ⟨V, C, Q, h1, h2, h3, h4, h5, h6⟩ := r
  exact ⟨V, C, Q, ownsRow_keep h1 h2 hk, h2, h3, fun i j hi hj => (f i j).owKeep w w' _ _ (hk.mono (fun b hb => (h5 i j b hi hj hb).1)) (h4 i j hi hj), h5, h6⟩
theorem RowsOw.mono {t : TypeId} {k n : Nat} {f : Nat → Nat → Dt} (w : World) (S S' : Nat → Prop) (v : Value) (hs : ∀ b, S b → S' b) (r : RowsOw t k n f w S v) : RowsOw t k n f w S' v := by
  obtain ⟨V, C, Q, h1, h2, h3, h4, h5, h6⟩ := r
  exact ⟨V, C, Q, h1, fun b hb => hs b (h2 b hb), h3, h4, fun i j b hi hj hq => ⟨hs b (h5 i j b hi hj hq).1, (h5 i j b hi hj hq).2⟩, h6⟩
theorem RowsOw.rd {t : TypeId} {k n : Nat} {f : Nat → Nat → Dt} (w : World) (S : Nat → Prop) (v : Value) (r : RowsOw t k n f w S v) : RowsRd k n f w S v := by
  obtain ⟨V, C, Q, h1, h2, h3, h4, h5, h6⟩ := r
  rcases h1.2 with ⟨hv, h0⟩ | ⟨g, c, cur, hv, hg, hh, hnc, hm, _⟩
  · subst hv
    subst h0
    exact ⟨none, 0, V, rfl, ⟨Nat.le_refl _, Nat.zero_le _, fun _ => ⟨rfl, rfl⟩⟩, .inl rfl, fun i j hi => absurd hi (Nat.not_lt_zero _)⟩
  · subst hv
    refine ⟨_, c, V, rfl, ⟨hnc, hm, fun e => by cases e⟩, .inr ⟨g, 0, rfl, h2 g rfl, lt_of_block hh, fun i j hi hj => ?_⟩, fun i j hi hj => (f i j).rdMono w _ S _ (fun b hb => (h5 i j b hi hj hb).1) ((f i j).owRd w _ _ (h4 i j hi hj))⟩
    rw [Nat.zero_add, World.ownsRow.cellAt h1 (i * k + j) (place_lt hi hj)]
    exact h3 i j hi hj
def Dt.rows (t : TypeId) (k n : Nat) (f : Nat → Nat → Dt) : Dt := ⟨RowsRd k n f, RowsOw t k n f, RowsRd.keep, RowsRd.mono, RowsOw.keep, RowsOw.mono, RowsOw.rd⟩
theorem RdV.keep {w w' : World} {S : Nat → Prop} {v : Value} {d : Dt} (t : Keeps S w w') (r : RdV w S v d) : RdV w' S v d := d.rdKeep w w' S v t r
theorem RdV.mono {w : World} {S S' : Nat → Prop} {v : Value} {d : Dt} (t : ∀ b, S b → S' b) (r : RdV w S v d) : RdV w S' v d := d.rdMono w S S' v t r
theorem RdV.step {w w' : World} {S : Nat → Prop} {v : Value} {d : Dt} (r : RdV w S v d) (hb : Below w.heap.size w w') : RdV w' S v d := r.keep (Keeps.ofBelow hb)
theorem RdV.b {w : World} {S : Nat → Prop} {v : Value} {zs : List Int} (r : RdV w S v (.bytes zs)) : RdS w S v zs := r
theorem RdV.sliceB {w : World} {S : Nat → Prop} {v : Value} {zs : List Int} (r : RdV w S v (.bytes zs)) : ∃ a cap, v = .slice a zs.length cap := by obtain ⟨a, cap, h, _⟩ := r.b.reads; exact ⟨a, cap, h⟩
theorem RdV.inv {w : World} {S : Nat → Prop} {v : Value} {t : TypeId} {k n : Nat} {f : Nat → Nat → Dt} (r : RdV w S v (.rows t k n f)) : RowsRd k n f w S v := r
theorem RdV.at {w : World} {S : Nat → Prop} {a : Option Addr} {n cap : Nat} {t : TypeId} {k : Nat} {f : Nat → Nat → Dt} (r : RdV w S (.slice a n cap) (.rows t k n f)) {i : Nat} (hi : i < n) :
    ∃ b off, a = some ⟨b, off, none⟩ ∧ b < w.heap.size ∧ S b ∧ ∀ j, j < k → ∃ x, w.cell? ⟨b, off + i * k + j, none⟩ = some x ∧ RdV w S x (f i j) := by
  obtain ⟨a', cap', V, hv, hh, hc, he⟩ := r.inv
  simp only [Value.slice.injEq] at hv
  obtain ⟨rfl, _, rfl⟩ := hv
  rcases hc with h0 | ⟨b, off, ha, h1, h2, hc⟩
  · omega
  · exact ⟨b, off, ha, h2, h1, fun j hj => ⟨V i j, by rw [Nat.add_assoc]; exact hc i j hi hj, he i j hi hj⟩⟩
theorem RdV.sliced {w : World} {S : Nat → Prop} {v : Value} {t : TypeId} {k n : Nat} {f : Nat → Nat → Dt} (r : RdV w S v (.rows t k n f)) : ∃ a cap, v = .slice a n cap ∧ n ≤ maxLen := by
  obtain ⟨a, cap, V, hv, hh, _⟩ := r.inv
  exact ⟨a, cap, hv, Nat.le_trans hh.1 hh.2.1⟩
theorem OwV.inv {w : World} {S : Nat → Prop} {v : Value} {t : TypeId} {k n : Nat} {f : Nat → Nat → Dt} (r : OwV w S v (.rows t k n f)) : RowsOw t k n f w S v := r
theorem OwV.mkRows {w : World} {S : Nat → Prop} {v : Value} {t : TypeId} {k n : Nat} {f : Nat → Nat → Dt} (r : RowsOw t k n f w S v) : OwV w S v (.rows t k n f) := r
theorem OwV.mono {w : World} {S S' : Nat → Prop} {v : Value} {d : Dt} (t : ∀ b, S b → S' b) (r : OwV w S v d) : OwV w S' v d := d.owMono w S S' v t r
theorem OwV.rd {w : World} {S : Nat → Prop} {v : Value} {d : Dt} (r : OwV w S v d) : RdV w S v d := d.owRd w S v r
theorem OwV.keep {w w' : World} {S : Nat → Prop} {v : Value} {d : Dt} (t : Keeps S w w') (r : OwV w S v d) : OwV w' S v d := d.owKeep w w' S v t r
theorem OwV.step {w w' : World} {S : Nat → Prop} {v : Value} {d : Dt} (r : OwV w S v d) (hb : Below w.heap.size w w') : OwV w' S v d := r.keep (Keeps.ofBelow hb)
theorem OwV.nilB (w : World) (S : Nat → Prop) : OwV w S (.slice none 0 0) (.bytes []) := ⟨isBytes_nil, World.ownsRow_nil _ _ _ _, fun b hb => by cases hb⟩
theorem OwV.nilR (w : World) (S : Nat → Prop) (t : TypeId) (k : Nat) (f : Nat → Nat → Dt) : OwV w S (.slice none 0 0) (.rows t k 0 f) :=
  ⟨fun _ _ => undef, [], fun _ _ _ => False, World.ownsRow_nil _ _ _ _, fun b hb => (by cases hb), fun i j hi => absurd hi (Nat.not_lt_zero _), fun i j hi => absurd hi (Nat.not_lt_zero _), fun i j b hi => absurd hi (Nat.not_lt_zero _), fun i j i' j' b hi => absurd hi (Nat.not_lt_zero _)⟩
theorem OwV.ofOwns {w : World} {B : Nat} {v : Value} {zs : List Int} (hz : isBytes zs) (h : Owns w B v zs) : OwV w (fun b => B ≤ b ∧ b < w.heap.size) v (.bytes zs) := ⟨hz, h.base (Nat.zero_le _), fun b hb => h.lt b hb⟩

/-- f, but d at (i, j). -/
def upd (f : Nat → Nat → Dt) (i j : Nat) (d : Dt) : Nat → Nat → Dt := fun i' j' => if i' = i ∧ j' = j then d else f i' j'
/-- A variable of type T that holds the cells cs. -/
def VarA (w : World) (b : Nat) (T : TypeId) (cs : Array Value) : Prop := w.heap[b]? = some (.cells cs T (0, 0))
section
variable {w w' : World} {b : Nat} {T : TypeId} {cs : Array Value}
theorem VarA.c (h : VarA w b T cs) (j : Nat) {u : Value} (hu : cs[j]? = some u) : w.cell? ⟨b, j, none⟩ = some u := by rw [cell_of_row _ _ _ _ _ _ h]; exact hu
theorem VarA.f (h : VarA w b T cs) (j : Nat) : w.frozen? ⟨b, j, none⟩ = false := frozen_of_row _ _ _ _ _ h
theorem VarA.lt (h : VarA w b T cs) : b < w.heap.size := lt_of_block h
theorem VarA.step (h : VarA w b T cs) (hb : Below w.heap.size w w') : VarA w' b T cs := (hb.block b h.lt).trans h
theorem VarA.turn {S : Nat → Prop} (h : VarA w b T cs) (t : Turned S w w') (ho : ¬ S b) : VarA w' b T cs := (t.block b h.lt ho).trans h
theorem VarA.new (w : World) (T : TypeId) (cs : Array Value) : VarA (w.alloc (.cells cs T)) w.heap.size T cs := heap_alloc_new w _
theorem VarA.set (h : VarA w b T cs) (j : Nat) (u : Value) : VarA (w.setCell ⟨b, j, none⟩ u) b T (cs.setIfInBounds j u) := heap_setCell_same w b j cs T u h
theorem VarA.aside (h : VarA w b T cs) {p : Addr} (hp : b ≠ p.block) (u : Value) : VarA (w.setCell p u) b T cs := (heap_setCell_other w p b u hp).trans h
theorem VarA.l1 {x0 : Value} (h : VarA w b T #[x0]) : w.cell? ⟨b, 0, none⟩ = some x0 := h.c 0 rfl
theorem VarA.l3 {x0 x1 x2 : Value} (h : VarA w b T #[x0, x1, x2]) : w.cell? ⟨b, 0, none⟩ = some x0 ∧ w.cell? ⟨b, 1, none⟩ = some x1 ∧ w.cell? ⟨b, 2, none⟩ = some x2 := ⟨h.c 0 rfl, h.c 1 rfl, h.c 2 rfl⟩
theorem VarA.l4 {x0 x1 x2 x3 : Value} (h : VarA w b T #[x0, x1, x2, x3]) : w.cell? ⟨b, 0, none⟩ = some x0 ∧ w.cell? ⟨b, 1, none⟩ = some x1 ∧ w.cell? ⟨b, 2, none⟩ = some x2 ∧ w.cell? ⟨b, 3, none⟩ = some x3 := ⟨h.c 0 rfl, h.c 1 rfl, h.c 2 rfl, h.c 3 rfl⟩
theorem VarA.l9 {x0 x1 x2 x3 x4 x5 x6 x7 x8 : Value} (h : VarA w b T #[x0, x1, x2, x3, x4, x5, x6, x7, x8]) : w.cell? ⟨b, 0, none⟩ = some x0 ∧ w.cell? ⟨b, 1, none⟩ = some x1 ∧ w.cell? ⟨b, 2, none⟩ = some x2 ∧ w.cell? ⟨b, 3, none⟩ = some x3 ∧ w.cell? ⟨b, 4, none⟩ = some x4 ∧ w.cell? ⟨b, 5, none⟩ = some x5 ∧ w.cell? ⟨b, 6, none⟩ = some x6 ∧ w.cell? ⟨b, 7, none⟩ = some x7 ∧ w.cell? ⟨b, 8, none⟩ = some x8 := ⟨h.c 0 rfl, h.c 1 rfl, h.c 2 rfl, h.c 3 rfl, h.c 4 rfl, h.c 5 rfl, h.c 6 rfl, h.c 7 rfl, h.c 8 rfl⟩
theorem VarA.l10 {x0 x1 x2 x3 x4 x5 x6 x7 x8 x9 : Value} (h : VarA w b T #[x0, x1, x2, x3, x4, x5, x6, x7, x8, x9]) : w.cell? ⟨b, 0, none⟩ = some x0 ∧ w.cell? ⟨b, 1, none⟩ = some x1 ∧ w.cell? ⟨b, 2, none⟩ = some x2 ∧ w.cell? ⟨b, 3, none⟩ = some x3 ∧ w.cell? ⟨b, 4, none⟩ = some x4 ∧ w.cell? ⟨b, 5, none⟩ = some x5 ∧ w.cell? ⟨b, 6, none⟩ = some x6 ∧ w.cell? ⟨b, 7, none⟩ = some x7 ∧ w.cell? ⟨b, 8, none⟩ = some x8 ∧ w.cell? ⟨b, 9, none⟩ = some x9 := ⟨h.c 0 rfl, h.c 1 rfl, h.c 2 rfl, h.c 3 rfl, h.c 4 rfl, h.c 5 rfl, h.c 6 rfl, h.c 7 rfl, h.c 8 rfl, h.c 9 rfl⟩
theorem VarA.fz (h : VarA w b T cs) : ∀ j, w.frozen? ⟨b, j, none⟩ = false := fun j => h.f j
theorem VarA.alloc (h : VarA w b T cs) (o : Obj) : VarA (w.alloc o) b T cs := ((World.grownBy_alloc w o none).block b h.lt (by simp)).trans h
end

theorem RdV.old {w : World} {S : Nat → Prop} {v : Value} {d : Dt} (r : RdV w S v d) : ∀ W, Below w.heap.size w W → RdV W S v d := fun W hW => r.step hW
end
section
/-- A handle, as data. -/
abbrev Hd := Int × Int × Bool
abbrev Hd.sh (h : Hd) : Int := h.1
abbrev Hd.ino (h : Hd) : Int := h.2.1
abbrev Hd.dir (h : Hd) : Bool := h.2.2
abbrev Hd.v (h : Hd) : Value := .agg #[.int .i64 h.sh, .int .i64 h.ino, .bool h.dir]

theorem Below.newH {w : World} (o : Obj) : Below w.heap.size w (w.alloc o) := (Below.refl _ _).alloc (Nat.le_refl _) _
theorem Below.newH2 {w : World} (o o' : Obj) : Below w.heap.size w ((w.alloc o).alloc o') := ((Below.refl _ _).alloc (Nat.le_refl _) _).alloc (by simp) _
def HOk (h : Hd) : Bool := decide (0 ≤ h.sh) && (decide (h.sh < 4) && (decide (1 ≤ h.ino) && decide (h.ino ≤ 2147483647)))

theorem specHandleOk_w (h : Hd) (w : World) : Calls Tryz.prog 72 #[h.v] w fun e w' => e = .returned (.bool (HOk h)) ∧ w' = w.alloc (.cells #[.int .i64 h.sh, .int .i64 h.ino, .bool h.dir] 28) := by
  obtain ⟨s, i, d⟩ := h
  go_enter Tryz.func72, Tryz.ntmps72
  go_wp2
  all_goals (go_ret; exact ⟨by first | rfl | (simp_all [HOk] <;> omega), rfl⟩)
theorem specHandleOk_any (h : Hd) (w : World) : Calls Tryz.prog 72 #[h.v] w fun e w' => e = .returned (.bool (HOk h)) ∧ Below w.heap.size w w' :=
  (specHandleOk_w h w).mono fun e w' ⟨he, hw⟩ => ⟨he, by rw [hw]; exact Below.newH _⟩
theorem implHandleOk_w (h : Hd) (w : World) : Calls Tryz.prog 40 #[h.v] w fun e w' => e = .returned (.bool (HOk h)) ∧ w' = w.alloc (.cells #[.int .i64 h.sh, .int .i64 h.ino, .bool h.dir] 28) := by
  obtain ⟨s, i, d⟩ := h
  go_enter Tryz.func40, Tryz.ntmps40
  go_wp2
  all_goals (go_ret; exact ⟨by first | rfl | (simp_all [HOk] <;> omega), rfl⟩)
theorem implHandleOk_any (h : Hd) (w : World) : Calls Tryz.prog 40 #[h.v] w fun e w' => e = .returned (.bool (HOk h)) ∧ Below w.heap.size w w' :=
  (implHandleOk_w h w).mono fun e w' ⟨he, hw⟩ => ⟨he, by rw [hw]; exact Below.newH _⟩
end
section
structure En where
  nm : List Int
  h : Hd
structure Nd where
  h : Hd
  par : Hd
  links : Int
  val : Int
  es : List En
structure OpD where
  kind : Int
  dir : Hd
  nm : List Int
  to : Hd
  asn : List Int
  val : Int

def hd0 : Hd := (0, 0, false)
def en0 : En := ⟨[], hd0⟩
def nd0 : Nd := ⟨hd0, hd0, 0, 0, []⟩
def enCell (e : En) : Nat → Dt
  | 0 => .bytes e.nm
  | 1 => .int e.h.sh
  | 2 => .int e.h.ino
  | _ => .bool e.h.dir
def ensDt (l : List En) : Dt := .rows 114 4 l.length (fun i j => enCell (l[i]?.getD en0) j)
def ndCell (n : Nd) : Nat → Dt
  | 0 => .int n.h.sh
  | 1 => .int n.h.ino
  | 2 => .bool n.h.dir
  | 3 => .int n.par.sh
  | 4 => .int n.par.ino
  | 5 => .bool n.par.dir
  | 6 => .int n.links
  | 7 => .int n.val
  | _ => ensDt n.es
def ndsDt (l : List Nd) : Dt := .rows 51 9 l.length (fun i j => ndCell (l[i]?.getD nd0) j)

/-- An entry's value, its name's bytes at nm. -/
abbrev enV (nm : Value) (h : Hd) : Value := .agg #[nm, .int .i64 h.sh, .int .i64 h.ino, .bool h.dir]
/-- A node's value, its entries at es. -/
abbrev ndV (n : Nd) (es : Value) : Value := .agg #[.int .i64 n.h.sh, .int .i64 n.h.ino, .bool n.h.dir, .int .i64 n.par.sh, .int .i64 n.par.ino, .bool n.par.dir, .int .i64 n.links, .int .i64 n.val, es]
/-- An operation's value, its texts at x, y. -/
abbrev opV (o : OpD) (x y : Value) : Value := .agg #[.int .i64 o.kind, .int .i64 o.dir.sh, .int .i64 o.dir.ino, .bool o.dir.dir, x, .int .i64 o.to.sh, .int .i64 o.to.ino, .bool o.to.dir, y, .int .i64 o.val]

/-- How much there is of it. -/
def szEns (l : List En) : Nat := l.length + (l.map (fun e => e.nm.length)).sum
def szNds (l : List Nd) : Nat := l.length + (l.map (fun n => szEns n.es)).sum
theorem sum_at {α : Type} (f : α → Nat) : ∀ (l : List α) (i : Nat) (a : α), l[i]? = some a → f a ≤ (l.map f).sum
  | [], i, a, h => by simp at h
  | x :: r, 0, a, h => by simp at h; subst h; simp
  | x :: r, i + 1, a, h => by
    have := sum_at f r i a (by simpa using h)
    simp; omega
theorem szEns_at (l : List En) (i : Nat) : (l[i]?.getD en0).nm.length ≤ szEns l := by
  cases h : l[i]? with
  | none => simp [en0]
  | some a => have := sum_at (fun e : En => e.nm.length) l i a h; simp [szEns]; omega
theorem szNds_at (l : List Nd) (i : Nat) : szEns (l[i]?.getD nd0).es ≤ szNds l := by
  cases h : l[i]? with
  | none => simp [nd0, szEns]
  | some a => have := sum_at (fun n : Nd => szEns n.es) l i a h; simp [szNds]; omega
end
section
def rootH : Hd := (0, 1, true)
def rootN : Nd := ⟨rootH, rootH, 1, 0, []⟩
abbrev rootV : Value := .agg #[.int .i64 0, .int .i64 1, .bool true]
theorem implRootH_any (w : World) : Calls Tryz.prog 17 #[] w fun e w' => e = .returned rootV ∧ w' = w.alloc (.cells #[.int .i64 0, .int .i64 1, .bool true] 28) := by
  go_enter Tryz.func17, Tryz.ntmps17
  go_wp2
  refine bodyPost_ret (v := rootV) (by simp [results, Tryz.results17, go_sem]) rfl ⟨rfl, rfl⟩
theorem ow_root (w : World) (B : Nat) (hB : B ≤ w.heap.size) : OwV (w.alloc (.cells #[.int .i64 0, .int .i64 1, .bool true, .int .i64 0, .int .i64 1, .bool true, .int .i64 1, .int .i64 0, .slice none 0 0] 51)) (fun b => B ≤ b ∧ b < (w.alloc (.cells #[.int .i64 0, .int .i64 1, .bool true, .int .i64 0, .int .i64 1, .bool true, .int .i64 1, .int .i64 0, .slice none 0 0] 51)).heap.size) (.slice (some ⟨w.heap.size, 0, none⟩) 1 1) (ndsDt [rootN]) := by
  have h := World.ownsRow_lit (base := 0) (e := 51) (size := 9) w #[.int .i64 0, .int .i64 1, .bool true, .int .i64 0, .int .i64 1, .bool true, .int .i64 1, .int .i64 0, .slice none 0 0] 1 (Nat.zero_le _) (by unfold maxLen; omega) rfl
  refine OwV.mkRows ⟨fun _ j => #[Value.int .i64 0, .int .i64 1, .bool true, .int .i64 0, .int .i64 1, .bool true, .int .i64 1, .int .i64 0, .slice none 0 0][j]?.getD undef, _, fun _ _ _ => False, h, fun b hb => ?_, fun i j hi hj => ?_, fun i j hi hj => ?_, fun i j b _ _ hq => hq.elim, fun i j i' j' b _ _ _ _ hq => hq.elim⟩
  · cases hb
    exact ⟨hB, by simp⟩
  · obtain rfl : i = 0 := by simpa using hi
    match j, hj with
    | 0, _ => rfl
    | 1, _ => rfl
    | 2, _ => rfl
    | 3, _ => rfl
    | 4, _ => rfl
    | 5, _ => rfl
    | 6, _ => rfl
    | 7, _ => rfl
    | 8, _ => rfl
  · obtain rfl : i = 0 := by simpa using hi
    match j, hj with
    | 0, _ => rfl
    | 1, _ => rfl
    | 2, _ => rfl
    | 3, _ => rfl
    | 4, _ => rfl
    | 5, _ => rfl
    | 6, _ => rfl
    | 7, _ => rfl
    | 8, _ => exact OwV.nilR _ _ _ _ _

set_option maxHeartbeats 1000000 in
theorem implRoot_any (w : World) : Calls Tryz.prog 5 #[] w fun e w' => ∃ a n c, e = .returned (.agg #[.slice a n c]) ∧ OwV w' (fun b => w.heap.size ≤ b ∧ b < w'.heap.size) (.slice a n c) (ndsDt [rootN]) ∧ Below w.heap.size w w' := by
  have HH : Hid (∀ W, _) := fun W => implRootH_any W
  go_enter Tryz.func5, Tryz.ntmps5
  go_wp2_with fail
  refine Calls.mono (HH.out _) ?_
  rintro e w2 ⟨rfl, rfl⟩
  go_wp2
  refine bodyPost_ret (v := .agg #[.slice (some ⟨w.heap.size + 1 + 1 + 1, 0, none⟩) 1 1]) (by simp [results, Tryz.results5, go_sem]) rfl ⟨_, _, _, rfl, ?_, ?_⟩
  · have := ow_root (((w.alloc (.cells #[.slice (some ⟨w.heap.size + 1 + 1 + 1, 0, none⟩) 1 1] 25)).alloc (.cells #[.int .i64 0, .int .i64 1, .bool true] 28)).alloc (.cells #[.int .i64 0, .int .i64 1, .bool true] 28)) w.heap.size (by simp; omega)
    simpa using this
  · exact (((((Below.refl _ _).alloc (Nat.le_refl _) _).alloc (by simp) _).alloc (by simp; omega) _).alloc (by simp; omega) _)
end
section
/-- Reads a number from the head of a list of bytes: i bytes were read, n is their sum, sc the next one's weight, f more may come. -/
def getLoop : Nat → List Int → Nat → Int → Int → Option (Int × Nat)
  | 0, _, _, _, _ => none
  | _ + 1, [], _, _, _ => none
  | f + 1, x :: r, i, n, sc =>
    if 128 ≤ x then getLoop f r (i + 1) (n + (x - 128) * sc) (sc * 128)
    else if (0 < i ∧ x = 0) ∨ 2147483647 < n + x * sc then none else some (n + x * sc, i + 1)

def getNum (zs : List Int) (p : Int) : Int × Int :=
  if p < 0 then (0, -1) else match getLoop 5 (zs.drop p.toNat) 0 0 1 with
    | none => (0, -1)
    | some (n, c) => (n, p + c)

/-- The weight behind i bytes. -/
def wt : Nat → Int
  | 0 => 1
  | 1 => 128
  | 2 => 16384
  | 3 => 2097152
  | 4 => 268435456
  | _ => 34359738368
/-- What holds at the head of round k of both loops. -/
def At (zs : List Int) (p k : Nat) (n : Int) : Prop := 0 ≤ n ∧ n ≤ wt k ∧ getLoop 5 (zs.drop p) 0 0 1 = getLoop (5 - k) (zs.drop (p + k)) k n (wt k)
/-- The loops' relation: the sum, the weight, the count. -/
def GRel (zs : List Int) (L p : Nat) (q s i : Value) : Prop :=
  ∃ (k : Nat) (n sc : Int), k ≤ 5 ∧ p + k ≤ L ∧ i = .int .i64 k ∧ q = .int .i64 n ∧ s = .int .i64 sc ∧ Hid (sc = wt k) ∧ Hid (At zs p k n)
end
section
set_option maxHeartbeats 1000000 in
theorem joined_any (a b : Option Addr) (xs ys : List Int) (ca cb : Nat) (w : World) (hx : Reads w a xs) (hy : Reads w b ys) (hl : xs.length ≤ 2097152) (hm : ys.length ≤ 2097152) :
    Calls Tryz.prog 83 #[.slice a xs.length ca, .slice b ys.length cb] w fun e w' => e = .returned (.slice (some ⟨w.heap.size, 0, none⟩) (xs ++ ys).length (xs ++ ys).length) ∧
      Owns w' w.heap.size (.slice (some ⟨w.heap.size, 0, none⟩) (xs ++ ys).length (xs ++ ys).length) (xs ++ ys) ∧ Below w.heap.size w w' ∧ w.heap.size < w'.heap.size := by
  obtain ⟨i0, hi, hz0, hz1, hz2⟩ := info_parts Tryz.infoB
  obtain ⟨m, hm'⟩ : ∃ m, xs.length = m := ⟨_, rfl⟩
  obtain ⟨n, hn'⟩ : ∃ n, ys.length = n := ⟨_, rfl⟩
  have HM : Hid (xs.length = m) := hm'
  have HN : Hid (ys.length = n) := hn'
  rw [List.length_append, hm', hn']
  rw [hm'] at hl
  rw [hn'] at hm
  obtain ⟨X, HX⟩ : ∃ X, Hid (X = bcells xs) := ⟨_, rfl⟩
  obtain ⟨Y, HY⟩ : ∃ Y, Hid (Y = bcells ys) := ⟨_, rfl⟩
  have hXl : X.length = m := by rw [HX.out, bcells_length]; exact hm'
  have hYl : Y.length = n := by rw [HY.out, bcells_length]; exact hn'
  obtain ⟨Z, HZ⟩ : ∃ Z, Hid (Z = bcells (List.replicate (m + n) 0)) := ⟨_, rfl⟩
  have hZl : Z.length = m + n := by rw [HZ.out]; simp
  have hsl : (splice Z 0 X).length = m + n := by rw [length_splice _ _ _ (by omega), hZl]
  have HFIN : Hid (splice (splice Z 0 X) m Y = bcells (xs ++ ys)) := by
    show _ = _
    rw [splice_two Z X Y m hXl (by omega), HX.out, HY.out]; simp [bcells]
  have HX1 : Hid (∀ v ∈ X, v.oneCell' = true) := by show ∀ v ∈ X, v.oneCell' = true; rw [HX.out]; exact bcells_one xs
  have HY1 : Hid (∀ v ∈ Y, v.oneCell' = true) := by show ∀ v ∈ Y, v.oneCell' = true; rw [HY.out]; exact bcells_one ys
  have hXm : X.length = Nat.min m (m + n) := by rw [hXl]; exact (Nat.min_eq_left (by omega)).symm
  have hYm : Y.length = Nat.min n n := by rw [hYl]; exact (Nat.min_self n).symm
  clear hm' hn'
  go_enter Tryz.func83, Tryz.ntmps83
  go_wp2_with (first
    | (at_make; refine wpList_make_full _ rfl _ _ 22 rfl w.heap.size 5 i0 (.int .u8 0) 1 Tryz.underlying22 hi hz0 hz1 .i64 .i64 _ _ (m + n) rfl rfl (by omega) (by omega) (by rw [hz2]; omega) (by unfold maxLen; omega) (Nat.le_refl _) ?_; intro w1 hown hgrow; have hb1 : Below w.heap.size w w1 := (Below.refl _ _).grown hgrow (Nat.le_refl _) (fun k h => by cases h); have hs1 : w.heap.size < w1.heap.size := (hown.lt _ rfl).2; rw [madeCells_bytes, ← HZ.out] at hown; have HG1 : Hid _ := full_heap hown; clear hown hgrow)
    | (refine wpList_copy_splice rfl (.tmp 12) (.tmp 13) 22 22 rfl 5 Tryz.underlying22 Tryz.sizeB _ _ _ _ _ _ rfl rfl w.heap.size 0 Z 5 HG1.out X hXm (fun h0 => ⟨rfl, by rw [HX.out] at h0 ⊢; exact (hx.below hb1).src h0⟩) (by omega) HX1.out w.heap.size w hb1 (Nat.le_refl _) ?_; intro w2 HG2 hb2)
    | (refine wpList_copy_splice rfl (.tmp 18) (.tmp 19) 22 22 rfl 5 Tryz.underlying22 Tryz.sizeB _ _ _ _ _ _ rfl rfl w.heap.size m (splice Z 0 X) 5 HG2.out Y (by rw [hYl]; simp <;> omega) (fun h0 => ⟨by simp <;> omega, by rw [HY.out] at h0 ⊢; exact (hy.below hb2).src h0⟩) (by omega) HY1.out w.heap.size w hb2 (Nat.le_refl _) ?_; intro w3 HG3 hb3))
  all_goals
    go_ret
    have hg3 := HG3.out
    rw [HFIN.out] at hg3
    exact ⟨rfl, full_owns (by have := HM.out; have := HN.out; rw [List.length_append]; omega) (Nat.le_refl _) (by rw [List.length_append, HM.out, HN.out]; omega) hg3, hb3, lt_of_block hg3⟩

/-- The bytes of a number below 128^(f+1). -/
def numB : Nat → Int → List Int
  | 0, n => [n]
  | f + 1, n => if n < 128 then [n] else (n % 128 + 128) :: numB f (n / 128)

def putB (n : Int) : List Int := if n < 0 ∨ 2147483647 < n then [] else numB 4 n
end
section
/-- What holds at the head of each round of the specification's loop. -/
def SRel (xs : List Int) (n : Int) (w : World) (o q : Value) (wr : World) : Prop :=
  ∃ (f : Nat) (m : Int) (pre : List Int), f ≤ 4 ∧ 0 ≤ m ∧ m < wt (f + 1) ∧ q = .int .i64 m ∧ pre.length + f = 4 ∧ numB 4 n = pre ++ numB f m ∧ Owns wr w.heap.size o (xs ++ pre) ∧ Below w.heap.size w wr
end
section
set_option maxRecDepth 100000
end
section
def textB (t : List Int) : List Int := if 40 < t.length then [] else putB t.length ++ t
def getText (zs : List Int) (p : Int) : List Int × Int :=
  if (getNum zs p).2 < 0 ∨ 40 < (getNum zs p).1 ∨ (zs.length : Int) - (getNum zs p).2 < (getNum zs p).1 then ([], -1)
  else ((zs.drop (getNum zs p).2.toNat).take (getNum zs p).1.toNat, (getNum zs p).2 + (getNum zs p).1)
end
section
set_option linter.unusedVariables false
end
section
abbrev TxD := Int × Int × Int
structure PtD where
  kind : Int
  h : Hd
  asn : List Int
  to : Hd
structure RpD where
  code : Int
  h : Hd
  val : Int
  list : List En
structure MsD where
  kind : Int
  fr : Int
  to : Int
  req : Int
  op : OpD
  rp : RpD
  tx : TxD
  pt : PtD
  code : Int
  h : Hd
def tx0 : TxD := (0, 0, 0)
def op0 : OpD := ⟨0, hd0, [], hd0, [], 0⟩
def rp0 : RpD := ⟨0, hd0, 0, []⟩
def pt0 : PtD := ⟨0, hd0, [], hd0⟩
def ms0 : MsD := ⟨0, 0, 0, 0, op0, rp0, tx0, pt0, 0, hd0⟩
abbrev txV (t : TxD) : Value := .agg #[.int .i64 t.1, .int .i64 t.2.1, .int .i64 t.2.2]
abbrev ptV (p : PtD) (u : Value) : Value := .agg #[.int .i64 p.kind, .int .i64 p.h.sh, .int .i64 p.h.ino, .bool p.h.dir, u, .int .i64 p.to.sh, .int .i64 p.to.ino, .bool p.to.dir]
abbrev rpV (r : RpD) (z : Value) : Value := .agg #[.int .i64 r.code, .int .i64 r.h.sh, .int .i64 r.h.ino, .bool r.h.dir, .int .i64 r.val, z]
abbrev msV (m : MsD) (x y z u : Value) : Value := .agg #[.int .i64 m.kind, .int .i64 m.fr, .int .i64 m.to, .int .i64 m.req, .int .i64 m.op.kind, .int .i64 m.op.dir.sh, .int .i64 m.op.dir.ino, .bool m.op.dir.dir, x, .int .i64 m.op.to.sh, .int .i64 m.op.to.ino, .bool m.op.to.dir, y, .int .i64 m.op.val, .int .i64 m.rp.code, .int .i64 m.rp.h.sh, .int .i64 m.rp.h.ino, .bool m.rp.h.dir, .int .i64 m.rp.val, z, .int .i64 m.tx.1, .int .i64 m.tx.2.1, .int .i64 m.tx.2.2, .int .i64 m.pt.kind, .int .i64 m.pt.h.sh, .int .i64 m.pt.h.ino, .bool m.pt.h.dir, u, .int .i64 m.pt.to.sh, .int .i64 m.pt.to.ino, .bool m.pt.to.dir, .int .i64 m.code, .int .i64 m.h.sh, .int .i64 m.h.ino, .bool m.h.dir]
theorem VarA.l6 {w : World} {b : Nat} {T : TypeId} {x0 x1 x2 x3 x4 x5 : Value} (h : VarA w b T #[x0, x1, x2, x3, x4, x5]) : w.cell? ⟨b, 0, none⟩ = some x0 ∧ w.cell? ⟨b, 1, none⟩ = some x1 ∧ w.cell? ⟨b, 2, none⟩ = some x2 ∧ w.cell? ⟨b, 3, none⟩ = some x3 ∧ w.cell? ⟨b, 4, none⟩ = some x4 ∧ w.cell? ⟨b, 5, none⟩ = some x5 := ⟨h.c 0 rfl, h.c 1 rfl, h.c 2 rfl, h.c 3 rfl, h.c 4 rfl, h.c 5 rfl⟩
/-- A message's four lists, read. -/
def RdM (w : World) (S : Nat → Prop) (m : MsD) (x y z u : Value) : Prop := RdV w S x (.bytes m.op.nm) ∧ RdV w S y (.bytes m.op.asn) ∧ RdV w S z (ensDt m.rp.list) ∧ RdV w S u (.bytes m.pt.asn)
/-- A message's four lists are the call's own, none sharing with another, all in S. -/
def OwM (w : World) (S : Nat → Prop) (m : MsD) (x y z u : Value) : Prop :=
  ∃ Q1 Q2 Q3 Q4 : Nat → Prop, OwV w Q1 x (.bytes m.op.nm) ∧ OwV w Q2 y (.bytes m.op.asn) ∧ OwV w Q3 z (ensDt m.rp.list) ∧ OwV w Q4 u (.bytes m.pt.asn) ∧
    (∀ b, Q1 b ∨ Q2 b ∨ Q3 b ∨ Q4 b → S b) ∧ (∀ b, Q1 b → ¬ Q2 b ∧ ¬ Q3 b ∧ ¬ Q4 b) ∧ (∀ b, Q2 b → ¬ Q3 b ∧ ¬ Q4 b) ∧ (∀ b, Q3 b → ¬ Q4 b)
/-- How much there is of a message. -/
def szMs (m : MsD) : Nat := m.op.nm.length + m.op.asn.length + szEns m.rp.list + m.pt.asn.length
end
section
def flagB (b : Bool) : List Int := if b then [1] else [0]
def hdB (h : Hd) : List Int := putB h.sh ++ (putB h.ino ++ flagB h.dir)
def opB (o : OpD) : List Int := putB o.kind ++ (hdB o.dir ++ (textB o.nm ++ (hdB o.to ++ (textB o.asn ++ putB o.val))))
def enB (e : En) : List Int := textB e.nm ++ hdB e.h
def ensB (l : List En) : List Int := l.flatMap enB
def rpB (r : RpD) : List Int := putB r.code ++ (hdB r.h ++ (putB r.val ++ (putB r.list.length ++ ensB r.list)))
def txB (t : TxD) : List Int := putB t.1 ++ (putB t.2.1 ++ putB t.2.2)
def ptB (p : PtD) : List Int := putB p.kind ++ (hdB p.h ++ (textB p.asn ++ hdB p.to))
def msRest (m : MsD) : List Int :=
  if m.kind = 0 then putB m.req ++ opB m.op
  else if m.kind = 1 then putB m.req ++ rpB m.rp
  else if m.kind = 2 then txB m.tx ++ ptB m.pt
  else if m.kind = 3 then txB m.tx ++ (ptB m.pt ++ (putB m.code ++ hdB m.h))
  else if m.kind = 5 then txB m.tx ++ putB m.code
  else if m.kind = 6 then txB m.tx ++ (putB m.req ++ hdB m.h)
  else if m.kind = 7 then txB m.tx ++ (putB m.req ++ (putB m.code ++ hdB m.h))
  else txB m.tx
def msB (m : MsD) : List Int := putB m.kind ++ (putB m.fr ++ (putB m.to ++ msRest m))
theorem Below.al2 {a b : World} (h : Below a.heap.size a b) (o : Obj) : Below a.heap.size a (b.alloc o) := h.alloc h.size _
/-- A call that hands back bytes of its own. -/
abbrev Ap (f : FuncId) (args : Array Value) (w : World) (zs : List Int) : Prop :=
  Calls Tryz.prog f args w fun e w' => ∃ v, e = .returned v ∧ isBytes zs ∧ Owns w' w.heap.size v zs ∧ Below w.heap.size w w'
end
section
/-- What lies between two places of zs is just B. -/
def Took (zs : List Int) (p : Int) (B : List Int) (s : Int) : Prop := 0 ≤ p ∧ p ≤ s ∧ s ≤ zs.length ∧ zs.take p.toNat ++ B = zs.take s.toNat
/-- A flag, as the specification reads it. -/
def rdFlag (zs : List Int) (p : Int) : Bool × Int := if p < 0 ∨ (zs.length : Int) ≤ p ∨ 1 < zs[p.toNat]?.getD 0 then (false, -1) else (zs[p.toNat]?.getD 0 == 1, p + 1)
/-- A handle, an operation, a transaction, a part, read at a place. -/
def rdHd (zs : List Int) (p : Int) : Hd × Int := let a := getNum zs p; let b := getNum zs a.2; let c := rdFlag zs b.2; ((a.1, b.1, c.1), c.2)
def rdOp (zs : List Int) (p : Int) : OpD × Int := let k := getNum zs p; let d := rdHd zs k.2; let n := getText zs d.2; let t := rdHd zs n.2; let s := getText zs t.2; let v := getNum zs s.2; (⟨k.1, d.1, n.1, t.1, s.1, v.1⟩, v.2)
def rdTx (zs : List Int) (p : Int) : TxD × Int := let a := getNum zs p; let b := getNum zs a.2; let c := getNum zs b.2; ((a.1, b.1, c.1), c.2)
def rdPt (zs : List Int) (p : Int) : PtD × Int := let k := getNum zs p; let d := rdHd zs k.2; let n := getText zs d.2; let t := rdHd zs n.2; (⟨k.1, d.1, n.1, t.1⟩, t.2)
/-- Entries: the specification stops where it failed; the program goes on. -/
def rdEns (zs : List Int) : Nat → Int → List En × Int
  | 0, p => ([], p)
  | f + 1, p => if p < 0 then ([], p) else (⟨(getText zs p).1, (rdHd zs (getText zs p).2).1⟩ :: (rdEns zs f (rdHd zs (getText zs p).2).2).1, (rdEns zs f (rdHd zs (getText zs p).2).2).2)
def rdEnsP (zs : List Int) : Nat → Int → List En × Int
  | 0, p => ([], p)
  | f + 1, p => (⟨(getText zs p).1, (rdHd zs (getText zs p).2).1⟩ :: (rdEnsP zs f (rdHd zs (getText zs p).2).2).1, (rdEnsP zs f (rdHd zs (getText zs p).2).2).2)
end
section
def rdEnS (zs : List Int) (p : Int) : List En × Int := rdEns zs (min (getNum zs p).1.toNat 13) (getNum zs p).2
def rdEnP (zs : List Int) (p : Int) : List En × Int := if 12 < (getNum zs p).1 then ([], -1) else rdEnsP zs (getNum zs p).1.toNat (getNum zs p).2
def rdRp (e : Int → List En × Int) (zs : List Int) (p : Int) : RpD × Int := let k := getNum zs p; let h := rdHd zs k.2; let v := getNum zs h.2; let l := e v.2; (⟨k.1, h.1, v.1, l.1⟩, l.2)
def rdMs (e : Int → List En × Int) (zs : List Int) : MsD × Int :=
  let k := getNum zs 0; let f := getNum zs k.2; let t := getNum zs f.2
  if k.1 = 0 then let r := getNum zs t.2; let o := rdOp zs r.2; (⟨k.1, f.1, t.1, r.1, o.1, rp0, tx0, pt0, 0, hd0⟩, o.2)
  else if k.1 = 1 then let r := getNum zs t.2; let o := rdRp e zs r.2; (⟨k.1, f.1, t.1, r.1, op0, o.1, tx0, pt0, 0, hd0⟩, o.2)
  else let x := rdTx zs t.2
    if k.1 = 2 then let o := rdPt zs x.2; (⟨k.1, f.1, t.1, 0, op0, rp0, x.1, o.1, 0, hd0⟩, o.2)
    else if k.1 = 3 then let o := rdPt zs x.2; let c := getNum zs o.2; let h := rdHd zs c.2; (⟨k.1, f.1, t.1, 0, op0, rp0, x.1, o.1, c.1, h.1⟩, h.2)
    else if k.1 = 5 then let c := getNum zs x.2; (⟨k.1, f.1, t.1, 0, op0, rp0, x.1, pt0, c.1, hd0⟩, c.2)
    else if k.1 = 6 then let r := getNum zs x.2; let h := rdHd zs r.2; (⟨k.1, f.1, t.1, r.1, op0, rp0, x.1, pt0, 0, h.1⟩, h.2)
    else if k.1 = 7 then let r := getNum zs x.2; let c := getNum zs r.2; let h := rdHd zs c.2; (⟨k.1, f.1, t.1, r.1, op0, rp0, x.1, pt0, c.1, h.1⟩, h.2)
    else (⟨k.1, f.1, t.1, 0, op0, rp0, x.1, pt0, 0, hd0⟩, x.2)
end
section
set_option linter.unusedVariables false
end
section
theorem storeF_run {P : Program} {w : World} {g off : Nat} {T ty : TypeId} {old vs : Array Value} (hv : VarA w g T old) (hl : off + vs.size ≤ old.size) (hi : (P.info? ty).map (·.size) = some vs.size) (h1 : vs.toList.all (·.oneCell') = true) :
    (storeVar ty ⟨g, off, none⟩ (.agg vs)).run P w = .ok () (w.setRow g (old.toList.take off ++ vs.toList ++ old.toList.drop (off + vs.size)).toArray) := by
  have h := run_storeCells_at (P := P) g off T vs.toList 0 old w hv (by simpa using hl) (fun v hv => (List.all_eq_true.1 h1) v hv)
  cases hq : P.info? ty with
  | none => simp [hq] at hi
  | some i =>
    have hs : vs.size = i.size := by simp [hq] at hi; omega
    simp only [Nat.add_zero, Array.length_toList] at h
    simp [storeVar, sizeOf, typeInfo, hq, Value.cells, hs, h]
theorem VarA.row {w : World} {g : Nat} {T : TypeId} {old new : Array Value} (hv : VarA w g T old) : VarA (w.setRow g new) g T new := setRow_heap w g old new T _ hv
theorem turned_row (w : World) (g : Nat) (new : Array Value) : Turned (fun b => b = g) w (w.setRow g new) := ⟨rfl, rfl, rfl, by simp [World.setRow], fun k _ hk => setRow_other w g k new (fun e => hk e)⟩
/-- A struct stored into a variable, from the cell off on. -/
theorem wpList_storeF {ty t' : TypeId} {dst : Option Tmp} {x y : Operand} {pos : String} {af : Array Edge} {ops : Array Oper} {rest : List Oper} {a : Act} {Q : Exit → Act → World → Prop} {w : World} {g off : Nat} {T : TypeId} {old vs new : Array Value}
    (hv : VarA w g T old) (hx : a.eval x = .pointer (some ⟨g, off, none⟩)) (hy : a.eval y = .agg vs) (hi : (Tryz.prog.info? ty).map (·.size) = some vs.size) (h1 : vs.toList.all (·.oneCell') = true) (hl : off + vs.size ≤ old.size)
    (hnew : (old.toList.take off ++ vs.toList ++ old.toList.drop (off + vs.size)).toArray = new)
    (hK : ∀ w', VarA w' g T new → Turned (fun b => b = g) w w' → wpList Tryz.prog ops Q rest (a.put dst undef) w') :
    wpList Tryz.prog ops Q (⟨dst, .store ty x y, t', pos, af, none⟩ :: rest) a w := by
  refine wpList_plain rfl fun K' hK' => ?_
  unfold Oper.wp execOp
  simp only [hx, hy, Instr.storeAt, Instr.sureAddr, Sem.run_bind, Sem.run_pure, Result.andThen_ok, storeF_run hv hl hi h1]
  rw [hnew]
  exact hK' _ _ (hK _ (VarA.row hv) (turned_row w g new))
theorem guardStore {ty t' : TypeId} {dst : Option Tmp} {x y : Operand} {pos : String} {af : Array Edge} {ops : Array Oper} {rest : List Oper} {a : Act} {Q : Exit → Act → World → Prop} {w : World}
    (h : wpList Tryz.prog ops Q (⟨dst, .store ty x y, t', pos, af, none⟩ :: rest) a w) : wpList Tryz.prog ops Q (⟨dst, .store ty x y, t', pos, af, none⟩ :: rest) a w := h
theorem rangeA {w : World} {g : Nat} {T : TypeId} {cs : Array Value} {off : Nat} {vs : List Value} (hv : VarA w g T cs) (hvs : (cs.toList.drop off).take vs.length = vs) : w.rangeAt g off vs := by
  intro j v hj
  rw [cell_of_row _ _ _ _ _ _ hv]
  rw [← hvs] at hj
  have hj' : j < vs.length := by
    rw [List.getElem?_take] at hj
    split at hj
    · assumption
    · cases hj
  rw [List.getElem?_take, if_pos hj', List.getElem?_drop] at hj
  simpa using hj
/-- The variable of a result, read at the end. -/
theorem loadA_run {w : World} {g : Nat} {T ty : TypeId} {cs : Array Value} {d : TypeDesc} (hv : VarA w g T cs) (hu : Tryz.prog.underlying ty = some d) (hd : d.isRow = true) (hi : (Tryz.prog.info? ty).map (·.size) = some cs.size) : (loadVar ty ⟨g, 0, none⟩).run Tryz.prog w = .ok (.agg cs) w := by
  have h := run_loadVar_mid (P := Tryz.prog) w g 0 ty cs.toList d (rangeA hv (by rw [List.drop_zero, List.take_length])) hu hd (by simpa using hi)
  simpa using h
end
section
/-- A cursor in block pb: it reads zs, which lie in elder blocks, and stands at p. -/
def CurV (T : TypeId) (pb : Nat) (zs : List Int) (v : Value) (p : Int) (w : World) : Prop := VarA w pb T #[v, .int .i64 p] ∧ RdV w (fun b => b < pb) v (.bytes zs) ∧ -1 ≤ p ∧ p ≤ zs.length
section
variable {T : TypeId} {pb : Nat} {zs : List Int} {v : Value} {p : Int} {w w' : World}
end
/-- A value of one or more cells stored into a variable, from the cell off on. -/
theorem storeG_run {P : Program} {w : World} {g off : Nat} {T ty : TypeId} {old vs : Array Value} {u : Value} (hu : u.cells = vs) (hv : VarA w g T old) (hl : off + vs.size ≤ old.size) (hi : (P.info? ty).map (·.size) = some vs.size) (h1 : vs.toList.all (·.oneCell') = true) :
    (storeVar ty ⟨g, off, none⟩ u).run P w = .ok () (w.setRow g (old.toList.take off ++ vs.toList ++ old.toList.drop (off + vs.size)).toArray) := by
  have h := run_storeCells_at (P := P) g off T vs.toList 0 old w hv (by simpa using hl) (fun v hv => (List.all_eq_true.1 h1) v hv)
  cases hq : P.info? ty with
  | none => simp [hq] at hi
  | some i =>
    have hs : vs.size = i.size := by simp [hq] at hi; omega
    simp only [Nat.add_zero, Array.length_toList] at h
    simp [storeVar, sizeOf, typeInfo, hq, hu, hs, h]
theorem wpList_storeG {ty t' : TypeId} {dst : Option Tmp} {x y : Operand} {pos : String} {af : Array Edge} {ops : Array Oper} {rest : List Oper} {a : Act} {Q : Exit → Act → World → Prop} {w : World} {g off : Nat} {T : TypeId} {old vs new : Array Value} {u : Value}
    (hv : VarA w g T old) (hx : a.eval x = .pointer (some ⟨g, off, none⟩)) (hy : a.eval y = u) (hu : u.cells = vs) (hi : (Tryz.prog.info? ty).map (·.size) = some vs.size) (h1 : vs.toList.all (·.oneCell') = true) (hl : off + vs.size ≤ old.size)
    (hnew : (old.toList.take off ++ vs.toList ++ old.toList.drop (off + vs.size)).toArray = new)
    (hK : ∀ w', VarA w' g T new → Turned (fun b => b = g) w w' → wpList Tryz.prog ops Q rest (a.put dst undef) w') :
    wpList Tryz.prog ops Q (⟨dst, .store ty x y, t', pos, af, none⟩ :: rest) a w := by
  refine wpList_plain rfl fun K' hK' => ?_
  unfold Oper.wp execOp
  simp only [hx, hy, Instr.storeAt, Instr.sureAddr, Sem.run_bind, Sem.run_pure, Result.andThen_ok, storeG_run hu hv hl hi h1]
  rw [hnew]
  exact hK' _ _ (hK _ (VarA.row hv) (turned_row w g new))
/-- The cursor has gone from p to q. -/
abbrev Gone (T : TypeId) (pb : Nat) (zs : List Int) (v : Value) (q : Int) (w w' : World) : Prop := CurV T pb zs v q w' ∧ Turned (fun b => b = pb) w w'
end
section
theorem Tryz.infoEn : (Tryz.prog.info? 114).map (fun i => (i.zero, i.size, i.bytes)) = some (some (.agg #[.slice none 0 0, .int .i64 0, .int .i64 0, .bool false]), 4, 48) := by kernel_rfl
/-- The first k of n are copied. -/
def PrtEn (l : List En) (B n k : Nat) (w : World) : Prop := OwV w (fun b => B ≤ b ∧ b < w.heap.size) (.slice (some ⟨B, 0, none⟩) n n) (.rows 114 4 n (fun i j => if i < k then enCell (l[i]?.getD en0) j else enCell en0 j))
end
section
def enVal (e : En) (u : Value) : Nat → Value
  | 0 => u
  | 1 => .int .i64 e.h.sh
  | 2 => .int .i64 e.h.ino
  | _ => .bool e.h.dir
theorem OwV.snocEn {w w' : World} {lo hi hi2 g cap : Nat} {v u : Value} {l : List En} {e : En} (hown : OwV w (fun b => lo ≤ b ∧ b < hi) v (ensDt l)) (hu : OwV w (fun b => hi ≤ b ∧ b < hi2) u (.bytes e.nm)) (h2 : hi2 ≤ w.heap.size) (hh2 : hi ≤ hi2) (hlh : lo ≤ hi)
    (C : List Value) (hC : w.ownsRow 0 114 4 v l.length C) (V : Nat → Nat → Value) (Q : Nat → Nat → Nat → Prop) (hS : ∀ b, v.ownBlock = some b → lo ≤ b ∧ b < hi) (hV : ∀ i j, i < l.length → j < 4 → C[i * 4 + j]? = some (V i j)) (hQ : ∀ i j, i < l.length → j < 4 → OwV w (Q i j) (V i j) (enCell (l[i]?.getD en0) j))
    (hq1 : ∀ i j b, i < l.length → j < 4 → Q i j b → (lo ≤ b ∧ b < hi) ∧ v.ownBlock ≠ some b) (hq2 : ∀ i j i' j' b, i < l.length → j < 4 → i' < l.length → j' < 4 → Q i j b → Q i' j' b → i = i' ∧ j = j')
    (ho : w'.ownsRow 0 114 4 (.slice (some ⟨g, 0, none⟩) (l.length + 1) cap) (l.length + 1) (C ++ [u, .int .i64 e.h.sh, .int .i64 e.h.ino, .bool e.h.dir])) (hg : w.grownBy w' v.ownBlock) (hgg : v.ownBlock = some g ∨ g = w.heap.size) (hgl : g < w'.heap.size) :
    OwV w' (fun b => lo ≤ b ∧ b < w'.heap.size) (.slice (some ⟨g, 0, none⟩) (l.length + 1) cap) (ensDt (l ++ [e])) := by
  have hsz := hg.size
  have hCl : C.length = l.length * 4 := hC.1
  have hkeep : ∀ (R : Nat → Prop), (∀ b, R b → v.ownBlock ≠ some b) → Keeps R w w' := fun R hR => ⟨hsz, fun b hb hlt => hg.block b hlt (fun h => hR b hb h.symm)⟩
  have hln : (l ++ [e]).length = l.length + 1 := by simp
  unfold ensDt
  rw [hln]
  refine OwV.mkRows ⟨fun i j => if i < l.length then V i j else enVal e u j, _, fun i j => if i < l.length then Q i j else if j = 0 then (fun b => hi ≤ b ∧ b < hi2) else (fun _ => False), ho, ?_, ?_, ?_, ?_, ?_⟩
  · intro b hb
    obtain rfl : g = b := by simpa [Value.ownBlock] using hb
    rcases hgg with h | h
    · exact ⟨(hS _ h).1, hgl⟩
    · exact ⟨by omega, hgl⟩
  · intro i j hi' hj
    by_cases hlt : i < l.length
    · simp only [hlt, if_true]
      rw [List.getElem?_append_left (by rw [hCl]; exact place_lt hlt hj)]
      exact hV i j hlt hj
    · obtain rfl : i = l.length := by omega
      simp only [Nat.lt_irrefl, if_false]
      rw [List.getElem?_append_right (by omega), hCl, show l.length * 4 + j - l.length * 4 = j by omega]
      match j, hj with
      | 0, _ => rfl
      | 1, _ => rfl
      | 2, _ => rfl
      | 3, _ => rfl
  · intro i j hi' hj
    by_cases hlt : i < l.length
    · simp only [hlt, if_true]
      rw [show (l ++ [e])[i]?.getD en0 = l[i]?.getD en0 by rw [List.getElem?_append_left hlt]]
      exact OwV.keep (hkeep _ (fun b hb => (hq1 i j b hlt hj hb).2)) (hQ i j hlt hj)
    · obtain rfl : i = l.length := by omega
      simp only [Nat.lt_irrefl, if_false]
      rw [show (l ++ [e])[l.length]?.getD en0 = e by simp]
      match j, hj with
      | 0, _ => exact OwV.keep (hkeep (fun b => hi ≤ b ∧ b < hi2) (fun b hb h => by have := hS b h; omega)) hu
      | 1, _ => rfl
      | 2, _ => rfl
      | 3, _ => rfl
  · intro i j b hi' hj hb
    by_cases hlt : i < l.length
    · simp only [hlt, if_true] at hb
      have h1 := hq1 i j b hlt hj hb
      refine ⟨⟨h1.1.1, by omega⟩, ?_⟩
      intro h
      obtain rfl : g = b := by simpa [Value.ownBlock] using h
      rcases hgg with h3 | h3
      · exact h1.2 h3
      · omega
    · simp only [hlt, if_false] at hb
      by_cases hj0 : j = 0
      · simp only [hj0, if_true] at hb
        refine ⟨⟨by omega, by omega⟩, ?_⟩
        intro h
        obtain rfl : g = b := by simpa [Value.ownBlock] using h
        rcases hgg with h3 | h3
        · have := hS _ h3; omega
        · omega
      · simp only [hj0, if_false] at hb
  · intro i j i' j' b hi' hj hi2' hj' hb hb'
    by_cases hlt : i < l.length <;> by_cases hlt' : i' < l.length
    · simp only [hlt, hlt', if_true] at hb hb'
      exact hq2 i j i' j' b hlt hj hlt' hj' hb hb'
    · simp only [hlt, hlt', if_true, if_false] at hb hb'
      have h1 := hq1 i j b hlt hj hb
      by_cases hj0 : j' = 0
      · simp only [hj0, if_true] at hb'; omega
      · simp only [hj0, if_false] at hb'
    · simp only [hlt, hlt', if_true, if_false] at hb hb'
      have h1 := hq1 i' j' b hlt' hj' hb'
      by_cases hj0 : j = 0
      · simp only [hj0, if_true] at hb; omega
      · simp only [hj0, if_false] at hb
    · simp only [hlt, hlt', if_false] at hb hb'
      by_cases hj0 : j = 0 <;> by_cases hj0' : j' = 0
      · exact ⟨by omega, by omega⟩
      · simp only [hj0', if_false] at hb'
      · simp only [hj0, if_false] at hb
      · simp only [hj0, if_false] at hb
end
section
/-- append(v, e) as a step of a region that draws its order. -/
theorem step_appEn {ops : Array Oper} {o : Oper} {a : Act} {K : Act → World → Prop} {Q : Exit → Act → World → Prop} {E : Prop} (w : World) (hgd : o.guard = none) (s x : Operand)
    (ho : o.op = .call { callee := .builtin .append, args := #[s, x], argTypes := #[29, 29] })
    (v : Value) (hs : a.eval s = v) (l : List En) (e : En) (u : Value) (lo hi hi2 q : Nat) (hx : a.eval x = .slice (some ⟨q, 0, none⟩) 1 1) (hone : u.oneCell' = true) (fr : Nat × Nat) (hq : w.heap[q]? = some (.cells #[u, .int .i64 e.h.sh, .int .i64 e.h.ino, .bool e.h.dir] 114 fr))
    (hown : OwV w (fun b => lo ≤ b ∧ b < hi) v (ensDt l)) (hu : OwV w (fun b => hi ≤ b ∧ b < hi2) u (.bytes e.nm)) (h2 : hi2 ≤ w.heap.size) (hh2 : hi ≤ hi2) (hlh : lo ≤ hi) (hl : l.length ≤ 4000)
    (h : ∀ g n cap w', OwV w' (fun b => lo ≤ b ∧ b < w'.heap.size) (.slice g n cap) (ensDt (l ++ [e])) → Turned (fun b => lo ≤ b ∧ b < hi) w w' → K (a.put o.dst (.slice g n cap)) w') : if Region.wanted o (yielded ops a.tmps) = true then Oper.wp Tryz.prog o a w K Q else E := by
  obtain ⟨i0, hi0, hz0, hz1, hz2⟩ := info_parts Tryz.infoEn
  have hown' := hown
  unfold ensDt at hown'
  obtain ⟨V, C, Qs, h1, hS, h3, h4, h5, h6⟩ := OwV.inv hown'
  refine step_append_lies w hgd s x 29 ho 0 114 i0 (.agg #[.slice none 0 0, .int .i64 0, .int .i64 0, .bool false]) 4 48 Tryz.underlying29 hi0 hz0 hz1 hz2 rfl (by decide) v l.length C hs h1 ⟨q, 0, none⟩ 1 1 [u, .int .i64 e.h.sh, .int .i64 e.h.ino, .bool e.h.dir] hx rfl (World.news_of_block hq) (fun y hy => ?_) (by decide) (by unfold maxLen; omega) (by omega) (Nat.zero_le _) w.heap.size rfl ?_
  · simp only [List.mem_cons, List.not_mem_nil, or_false] at hy
    rcases hy with rfl | rfl | rfl | rfl
    · exact hone
    · rfl
    · rfl
    · rfl
  intro g cap w' ho' hg hgg hgl
  exact h _ _ _ w' (OwV.snocEn hown hu h2 hh2 hlh C h1 V Qs hS h3 h4 h5 h6 ho' hg hgg hgl) (Turned.ofGrown hg (fun k hk => hS k hk))
end
section
theorem Tryz.infoNd : (Tryz.prog.info? 51).map (fun i => (i.zero, i.size, i.bytes)) = some (some (.agg #[.int .i64 0, .int .i64 0, .bool false, .int .i64 0, .int .i64 0, .bool false, .int .i64 0, .int .i64 0, .slice none 0 0]), 9, 88) := by kernel_rfl
/-- The first k of n are copied. -/
def PrtNd (l : List Nd) (B n k : Nat) (w : World) : Prop := OwV w (fun b => B ≤ b ∧ b < w.heap.size) (.slice (some ⟨B, 0, none⟩) n n) (.rows 51 9 n (fun i j => if i < k then ndCell (l[i]?.getD nd0) j else ndCell nd0 j))
end
section
/-- A node's cells, its entries' value being x. -/
def ndVal (n : Nd) (x : Value) : Nat → Value
  | 0 => .int .i64 n.h.sh
  | 1 => .int .i64 n.h.ino
  | 2 => .bool n.h.dir
  | 3 => .int .i64 n.par.sh
  | 4 => .int .i64 n.par.ino
  | 5 => .bool n.par.dir
  | 6 => .int .i64 n.links
  | 7 => .int .i64 n.val
  | _ => x
/-- Blocks from lo on, but for v's own. -/
def Ent (w : World) (lo : Nat) (v : Value) : Nat → Prop := fun b => lo ≤ b ∧ b < w.heap.size ∧ v.ownBlock ≠ some b
/-- v is a row of the call's own, of the nodes l; their entries are read, in other blocks than the row's. -/
def SN (w : World) (lo : Nat) (v : Value) (l : List Nd) : Prop :=
  ∃ (V : Nat → Value) (C : List Value), w.ownsRow lo 51 9 v l.length C ∧ (∀ i j, i < l.length → j < 9 → C[i * 9 + j]? = some (ndVal (l[i]?.getD nd0) (V i) j)) ∧ ∀ i, i < l.length → RdV w (Ent w lo v) (V i) (ensDt (l[i]?.getD nd0).es)
end
section
/-- The copy so far. -/
def CpRel (w : World) (v : Value) (l : List Nd) (i : Value) (wr : World) : Prop :=
  ∃ (k : Nat) (ga : Option Addr) (gn gc : Nat), k ≤ l.length ∧ i = .int .i64 k ∧ VarA wr w.heap.size 25 #[v] ∧ VarA wr (w.heap.size + 1) 25 #[.slice none 0 0] ∧ VarA wr (w.heap.size + 1 + 1) 25 #[.slice ga gn gc] ∧ SN wr (w.heap.size + 3) (.slice ga gn gc) (l.take k) ∧ Below w.heap.size w wr ∧ w.heap.size + 3 ≤ wr.heap.size
end
section
def leftT (n s : Nat) : Int := if n ≤ s then (s : Int) - n else -1

/-- f, summed up over the first j. -/
def psum {α : Type} (f : α → Nat) (l : List α) (j : Nat) : Nat := ((l.take j).map f).sum
theorem psum_all {α : Type} (f : α → Nat) (l : List α) : psum f l l.length = (l.map f).sum := by simp [psum]
end
section
def lessH (a b : Hd) : Bool := decide (a.sh < b.sh) || (decide (a.sh = b.sh) && decide (a.ino < b.ino))
/-- Where the node of a handle lies. -/
def fi (l : List Nd) (h : Hd) : Nat := l.findIdx (fun n => decide (n.h = h))
def findH (l : List Nd) (h : Hd) : Int := if fi l h < l.length then (fi l h : Int) else -1
/-- How many entries of a list lead to a handle; how many of all. -/
def cntE (es : List En) (h : Hd) : Nat := es.countP (fun e => decide (e.h = h))
def cntH (l : List Nd) (h : Hd) : Nat := psum (fun n => cntE n.es h) l l.length
end
section
theorem conv_any (a : Option Addr) (xs : List Int) (len cap : Nat) (w : World) (hx : Reads w a xs) (hl : len = xs.length) : (convert 22 9 (.slice a len cap)).run Tryz.prog w = .ok (.string (strOfNums xs)) w := by
  subst hl
  cases a with
  | none =>
    rcases hx.2 with rfl | ⟨b, off, ha, _⟩
    · exact run_convert_bytes_nil w 22 5 Tryz.underlying22 Tryz.underlying5 _ _ 9 Tryz.underlying9
    · cases ha
  | some ad =>
    by_cases h0 : xs = []
    · subst h0
      rw [run_convert_bytes_string w 22 9 5 _ _ cap Tryz.underlying22 Tryz.underlying5 Tryz.underlying9]
      have hld : (loadCells ad 0).run Tryz.prog w = .ok (([] : List Int).map (Value.int .u8)).toArray w := by
        have := run_loadCells_list (P := Tryz.prog) w ad [] (fun j v hj => by simp at hj)
        simpa using this
      rw [List.length_nil, run_bytesToString w ad 0 cap [] hld]
      rfl
    · rcases hx.2 with h1 | ⟨b, off, ha, hb, hc⟩
      · exact absurd h1 h0
      · cases ha
        exact run_convert_bytes_arg w 22 5 Tryz.underlying22 Tryz.underlying5 b off xs.length cap xs rfl (fun i hi => by rw [hc i hi]; simp) 9 Tryz.underlying9
end
section
open Go.RowKit Go.Lib
theorem bytes_inj : ∀ (xs ys : List Int), isBytes xs → isBytes ys → bytesOf xs = bytesOf ys → xs = ys := by
  intro xs
  induction xs with
  | nil => intro ys _ _ h; cases ys with
    | nil => rfl
    | cons y r => simp [bytesOf] at h
  | cons x r ih =>
    intro ys hx hy h
    cases ys with
    | nil => simp [bytesOf] at h
    | cons y s =>
      have h0 := hx 0
      have k0 := hy 0
      simp only [List.getElem?_cons_zero, Option.getD_some] at h0 k0
      simp only [bytesOf, List.map_cons, List.cons.injEq] at h
      have e : x = y := by
        have h1 := congrArg UInt8.toNat h.1
        simp only [UInt8.toNat_ofNat'] at h1
        omega
      subst e
      rw [ih s (fun j => by have := hx (j + 1); simpa using this) (fun j => by have := hy (j + 1); simpa using this) h.2]
theorem str_eq (xs ys : List Int) (hx : isBytes xs) (hy : isBytes ys) : ((strOfNums xs).toList == (strOfNums ys).toList) = decide (xs = ys) := by
  rw [strOfNums_toList, strOfNums_toList]
  by_cases h : xs = ys
  · subst h; simp
  · simp only [h, decide_false]
    exact beq_eq_false_iff_ne.2 (fun e => h (bytes_inj xs ys hx hy e))
end
section
def ei (es : List En) (nm : List Int) : Nat := es.findIdx (fun e => decide (e.nm = nm))
def findE (es : List En) (nm : List Int) : Int := if ei es nm < es.length then (ei es nm : Int) else -1
theorem ei_at (l : List En) (h : List Int) (k : Nat) (hk : k < l.length) (h1 : (l[k]?.getD en0).nm = h) (h2 : ∀ i, i < k → (l[i]?.getD en0).nm ≠ h) : ei l h = k := by
  unfold ei
  rw [List.findIdx_eq hk]
  refine ⟨by simpa [hk] using h1, fun j hj => ?_⟩
  have := h2 j hj
  have hj' : j < l.length := by omega
  simpa [hj'] using this
theorem ei_none (l : List En) (h : List Int) (h2 : ∀ i, i < l.length → (l[i]?.getD en0).nm ≠ h) : findE l h = -1 := by
  unfold findE ei
  rw [if_neg]
  rw [List.findIdx_lt_length]
  rintro ⟨x, hx, hp⟩
  obtain ⟨i, hi, rfl⟩ := List.getElem_of_mem hx
  exact h2 i hi (by simpa [hi] using hp)
end
section
/-- Why a directory can't take a new entry: 4: it has one of that name; 5: it is full; 0: it can. -/
def refD (es : List En) (nm : List Int) : Int := if 0 ≤ findE es nm then 4 else if 12 ≤ es.length then 5 else 0
end
section
/-- The worlds in which all that w holds is as it was. -/
structure Cls (w : World) where
  W : World
  h : Below w.heap.size w W
theorem Cls.ne (w : World) : Nonempty (Cls w) := ⟨⟨w, Below.refl _ _⟩⟩
theorem wp_region_cls {P : Program} {id : Nat} {Q : Exit → Act → World → Prop} {a : Act} {w : World} {l : List Oper} (hm : P.follows .mixedOrders = true) (hB : Region.lexB .any l.toArray = true)
    (h : wpQuiet P l.toArray (fun w' => ∃ i : Cls w, w' = i.W) (fun a' => ∀ w', (∃ i : Cls w, w' = i.W) → Q .normal a' w') l a) : (Code.region id l.toArray true).wp P Q a w :=
  wp_region_quiet (C := fun w' => ∃ i : Cls w, w' = i.W) hm hB ⟨⟨{ w with drawn := w.drawn + 1 }, ⟨rfl, rfl, rfl, Nat.le_refl _, fun _ _ => rfl⟩⟩, rfl⟩ (by simpa using h)
theorem Calls.cls {P : Program} {f : FuncId} {args : Array Value} {w : World} {i : Cls w} {v : Value} (h : Calls P f args i.W fun e w' => e = .returned v ∧ Below i.W.heap.size i.W w') :
    Calls P f args i.W fun e w'' => e = .returned v ∧ ∃ j : Cls w, w'' = j.W :=
  h.mono fun _ w' ⟨he, hb⟩ => ⟨he, ⟨w', i.h.trans (hb.mono i.h.size)⟩, rfl⟩
theorem Calls.cls_same {P : Program} {f : FuncId} {args : Array Value} {w : World} {i : Cls w} {v : Value} (h : Calls P f args i.W fun e w' => e = .returned v ∧ w' = i.W) :
    Calls P f args i.W fun e w'' => e = .returned v ∧ ∃ j : Cls w, w'' = j.W :=
  h.mono fun _ w' ⟨he, hb⟩ => ⟨he, i, hb⟩
theorem Calls.cls_new {P : Program} {f : FuncId} {args : Array Value} {w : World} {i : Cls w} {v : Value} {o : Obj} (h : Calls P f args i.W fun e w' => e = .returned v ∧ w' = i.W.alloc o) :
    Calls P f args i.W fun e w'' => e = .returned v ∧ ∃ j : Cls w, w'' = j.W :=
  h.mono fun _ w' ⟨he, hb⟩ => ⟨he, ⟨w', by rw [hb]; exact i.h.alloc i.h.size _⟩, rfl⟩
theorem Cls.cell {w : World} {b o : Nat} {u : Value} (hb : b < w.heap.size) (h : w.cell? ⟨b, o, none⟩ = some u) : ∀ i : Cls w, i.W.cell? ⟨b, o, none⟩ = some u := fun i => (i.h.cell (p := ⟨b, o, none⟩) hb).trans h
end
section
def up (n : Nd) : Bool := n.h.dir && !decide (n.h = rootH)
def rch (l : List Nd) : Nat → Nd → Bool
  | 0, n => !up n
  | f + 1, n => if up n then (if fi l n.par < l.length then rch l f (l[fi l n.par]?.getD nd0) else false) else true
end
section
theorem eqH_run (p q s i : Int) (d e : Bool) (w : World) : (binOp .eql 28 (.agg #[.int .i64 p, .int .i64 q, .bool d]) (.agg #[.int .i64 s, .int .i64 i, .bool e])).run Tryz.prog w = .ok (.bool (decide (p = s ∧ q = i ∧ d = e))) w := by
  by_cases h1 : p = s
  · subst h1
    by_cases h2 : q = i
    · subst h2
      by_cases h3 : d = e
      · subst h3
        simp [go_sem]
      · have g : (d == e) = false := by simpa using h3
        simp [go_sem, g, h3]
    · have g : (q == i) = false := by simpa using h2
      simp [go_sem, g, h2]
  · have g : (p == s) = false := by simpa using h1
    simp [go_sem, g, h1]
theorem neH_run (p q s i : Int) (d e : Bool) (w : World) : (binOp .neq 28 (.agg #[.int .i64 p, .int .i64 q, .bool d]) (.agg #[.int .i64 s, .int .i64 i, .bool e])).run Tryz.prog w = .ok (.bool (!decide (p = s ∧ q = i ∧ d = e))) w := by
  by_cases h1 : p = s
  · subst h1
    by_cases h2 : q = i
    · subst h2
      by_cases h3 : d = e
      · subst h3
        simp [go_sem]
      · have g : (d == e) = false := by simpa using h3
        simp [go_sem, g, h3]
    · have g : (q == i) = false := by simpa using h2
      simp [go_sem, g, h2]
  · have g : (p == s) = false := by simpa using h1
    simp [go_sem, g, h1]
end
section
def undN (l : List Nd) (by' : Hd) : Nat → Hd → Int
  | 0, _ => 2
  | f + 1, h => if h = by' then 1 else if h = rootH then 0 else if fi l h < l.length then undN l by' f (l[fi l h]?.getD nd0).par else 0

/-- On the way up. -/
def UnRel (w : World) (v : Value) (l : List Nd) (by' : Hd) (res : Int) (i : Value) (wr : World) : Prop :=
  ∃ (k : Nat) (h : Hd), k ≤ 12 ∧ i = .int .i64 k ∧ VarA wr w.heap.size 25 #[v] ∧ VarA wr (w.heap.size + 1) 28 #[.int .i64 h.sh, .int .i64 h.ino, .bool h.dir] ∧ VarA wr (w.heap.size + 1 + 1) 28 #[.int .i64 by'.sh, .int .i64 by'.ino, .bool by'.dir] ∧ Below w.heap.size w wr ∧ undN l by' (12 - k) h = res
end
section
open Go.RowKit Go.Deep Go.ChangeShapes Go.WideShapes
section
variable {H : Type} {enc : TypeId × Value → H} {w : World} {held : Bool}

abbrev Old (w : World) : Nat → Prop := fun b => b < w.heap.size

end
end
section
/-- Blocks of T, but for v's own. -/
def Nm (w : World) (T : Nat → Prop) (v : Value) : Nat → Prop := fun b => T b ∧ b < w.heap.size ∧ v.ownBlock ≠ some b
/-- v is a row of the call's own, of the entries l; their names are read, in blocks of T other than the row's. -/
def SE (w : World) (lo : Nat) (T : Nat → Prop) (v : Value) (l : List En) : Prop :=
  ∃ (V : Nat → Value) (C : List Value), w.ownsRow lo 114 4 v l.length C ∧ (∀ i j, i < l.length → j < 4 → C[i * 4 + j]? = some (enVal (l[i]?.getD en0) (V i) j)) ∧ ∀ i, i < l.length → RdV w (Nm w T v) (V i) (.bytes (l[i]?.getD en0).nm)
/-- The cells of entries, in a row. -/
def enRow (l : List En) (V : Nat → Value) : List Value := (List.range (l.length * 4)).map (fun t => enVal (l[t / 4]?.getD en0) (V (t / 4)) (t % 4))
end
section
/-- The entries l2 lie where ao says (or there are none and ao says nothing). -/
def Lies (w : World) (ao : Option Addr) (c : Nat) (l2 : List En) (V2 : Nat → Value) : Prop :=
  (ao = none ∧ l2 = [] ∧ c = 0) ∨ ∃ ad, ao = some ad ∧ ∀ t u, (enRow l2 V2)[t]? = some u → w.cell? (ad.add t) = some u
end
section
/-- Blocks of L, but for v's own. -/
def EntL (w : World) (L : Nat → Prop) (v : Value) : Nat → Prop := fun b => L b ∧ b < w.heap.size ∧ v.ownBlock ≠ some b
/-- As SN, the entries in blocks of L. -/
def SG (w : World) (lo : Nat) (L : Nat → Prop) (v : Value) (l : List Nd) : Prop :=
  ∃ (V : Nat → Value) (C : List Value), w.ownsRow lo 51 9 v l.length C ∧ (∀ i j, i < l.length → j < 9 → C[i * 9 + j]? = some (ndVal (l[i]?.getD nd0) (V i) j)) ∧ ∀ i, i < l.length → RdV w (EntL w L v) (V i) (ensDt (l[i]?.getD nd0).es)
/-- A node with other entries. -/
def Nd.setEs (n : Nd) (es : List En) : Nd := ⟨n.h, n.par, n.links, n.val, es⟩
/-- The cells of nodes, in a row. -/
def ndRow (l : List Nd) (V : Nat → Value) : List Value := (List.range (l.length * 9)).map (fun t => ndVal (l[t / 9]?.getD nd0) (V (t / 9)) (t % 9))
/-- The nodes l2 lie where ao says (or there are none and ao says nothing). -/
def LiesN (w : World) (ao : Option Addr) (c : Nat) (l2 : List Nd) (V2 : Nat → Value) : Prop :=
  (ao = none ∧ l2 = [] ∧ c = 0) ∨ ∃ ad, ao = some ad ∧ ∀ t u, (ndRow l2 V2)[t]? = some u → w.cell? (ad.add t) = some u
end
section
def isLow (c : Int) : Bool := decide (97 ≤ c) && decide (c ≤ 122)
def isNm (zs : List Int) : Bool := (decide (1 ≤ zs.length) && decide (zs.length ≤ 6)) && zs.all isLow
theorem all_take_next (zs : List Int) (k : Nat) (hk : k < zs.length) (h : (zs.take k).all isLow = true) : (isLow (zs[k]?.getD 0) = true → (zs.take (k + 1)).all isLow = true) ∧ (isLow (zs[k]?.getD 0) = false → zs.all isLow = false) := by
  constructor
  · intro hc
    rw [List.take_succ_eq_append_getElem hk, List.all_append, h]
    simp [hk] at hc
    simp [hc]
  · intro hc
    simp [hk] at hc
    rw [List.all_eq_false]
    exact ⟨zs[k], List.getElem_mem hk, by simp [hc]⟩

set_option maxHeartbeats 1000000 in
theorem specName_any (v : Value) (zs : List Int) (S : Nat → Prop) (w : World) (r : RdV w S v (.bytes zs)) (hl : zs.length ≤ 2097152) :
    Calls Tryz.prog 108 #[v] w fun e w' => e = .returned (.bool (isNm zs)) ∧ w' = w := by
  obtain ⟨a, cap, rfl, hh, hb, hc⟩ := r.b.reads
  clear r
  obtain ⟨n, hn⟩ : ∃ n, zs.length = n := ⟨_, rfl⟩
  have HC : Hid _ := hc
  have HN : Hid _ := hn
  have HI : Hid (isNm zs = ((decide (1 ≤ n) && decide (n ≤ 6)) && zs.all isLow)) := by show _ = _; unfold isNm; rw [hn]
  rw [hn] at hl ⊢
  rw [HI.out]
  clear hc hn hh hb HI
  by_cases h0 : 1 ≤ n
  case neg =>
    have e1 : decide (1 ≤ n) = false := by simpa using h0
    rw [e1]
    go_enter Tryz.func108, Tryz.ntmps108
    go_wp2
    go_ret
    exact ⟨by simp, rfl⟩
  by_cases h6 : n ≤ 6
  case neg =>
    have e1 : decide (n ≤ 6) = false := by simpa using h6
    rw [e1]
    go_enter Tryz.func108, Tryz.ntmps108
    go_wp2
    go_ret
    exact ⟨by simp, rfl⟩
  have e1 : decide (1 ≤ n) = true := by simpa using h0
  have e2 : decide (n ≤ 6) = true := by simpa using h6
  rw [e1, e2]
  clear e1 e2
  go_enter Tryz.func108, Tryz.ntmps108
  go_wp2
  go_loop [3] (fun i => ∃ k : Nat, k ≤ n ∧ i = .int .i64 k ∧ Hid ((zs.take k).all isLow = true)) (fun i => n - (intOf i).toNat)
  case atStart => exact ⟨0, Nat.zero_le _, rfl, by show _ = _; simp⟩
  case round =>
    obtain ⟨k, hk, rfl, HA⟩ := hrel
    by_cases hlt : k < n
    · obtain ⟨b, off, rfl, hbl, hcell⟩ := HC.out.resolve_left (fun e => by have := HN.out; rw [e] at this; simp at this; omega)
      have c1 := hcell k (by rw [HN.out]; exact hlt)
      have HST : Hid _ := all_take_next zs k (by rw [HN.out]; exact hlt) HA.out
      generalize zs[k]?.getD 0 = c at c1 HST
      clear hcell HA
      go_wp2
      all_goals first
        | (go_ret
           exact ⟨by rw [HST.out.2 (by simp [isLow]; omega)]; rfl, rfl⟩)
        | (go_round
           case rel => exact ⟨k + 1, by omega, by go_num, HST.out.1 (by simp [isLow]; omega)⟩
           case measure => simp [intOf]; omega)
    · have he : k = n := by omega
      subst he
      have HF : Hid (zs.all isLow = true) := by
        have := HA.out
        rwa [List.take_of_length_le (by rw [HN.out]; exact Nat.le_refl _)] at this
      go_wp2
      go_ret
      exact ⟨by rw [HF.out]; rfl, rfl⟩

set_option maxHeartbeats 1000000 in
theorem implName_any (v : Value) (zs : List Int) (S : Nat → Prop) (w : World) (r : RdV w S v (.bytes zs)) (hl : zs.length ≤ 2097152) :
    Calls Tryz.prog 82 #[v] w fun e w' => e = .returned (.bool (isNm zs)) ∧ w' = w := by
  obtain ⟨a, cap, rfl, hh, hb, hc⟩ := r.b.reads
  clear r
  obtain ⟨n, hn⟩ : ∃ n, zs.length = n := ⟨_, rfl⟩
  have HC : Hid _ := hc
  have HN : Hid _ := hn
  have HI : Hid (isNm zs = ((decide (1 ≤ n) && decide (n ≤ 6)) && zs.all isLow)) := by show _ = _; unfold isNm; rw [hn]
  rw [hn] at hl ⊢
  rw [HI.out]
  clear hc hn hh hb HI
  by_cases h0 : 1 ≤ n
  case neg =>
    have e1 : decide (1 ≤ n) = false := by simpa using h0
    rw [e1]
    go_enter Tryz.func82, Tryz.ntmps82
    go_wp2
    go_ret
    exact ⟨by simp, rfl⟩
  by_cases h6 : n ≤ 6
  case neg =>
    have e1 : decide (n ≤ 6) = false := by simpa using h6
    rw [e1]
    go_enter Tryz.func82, Tryz.ntmps82
    go_wp2
    go_ret
    exact ⟨by simp, rfl⟩
  have e1 : decide (1 ≤ n) = true := by simpa using h0
  have e2 : decide (n ≤ 6) = true := by simpa using h6
  rw [e1, e2]
  clear e1 e2
  go_enter Tryz.func82, Tryz.ntmps82
  go_wp2
  go_loop [15] (fun i => ∃ k : Nat, k ≤ n ∧ i = .int .i64 k ∧ Hid ((zs.take k).all isLow = true)) (fun i => n - (intOf i).toNat)
  case atStart => exact ⟨0, Nat.zero_le _, rfl, by show _ = _; simp⟩
  case round =>
    obtain ⟨k, hk, rfl, HA⟩ := hrel
    by_cases hlt : k < n
    · obtain ⟨b, off, rfl, hbl, hcell⟩ := HC.out.resolve_left (fun e => by have := HN.out; rw [e] at this; simp at this; omega)
      have c1 := hcell k (by rw [HN.out]; exact hlt)
      have HST : Hid _ := all_take_next zs k (by rw [HN.out]; exact hlt) HA.out
      generalize zs[k]?.getD 0 = c at c1 HST
      clear hcell HA
      go_wp2
      all_goals first
        | (go_ret
           exact ⟨by rw [HST.out.2 (by simp [isLow]; omega)]; rfl, rfl⟩)
        | (go_round
           case rel => exact ⟨k + 1, by omega, by go_num, HST.out.1 (by simp [isLow]; omega)⟩
           case measure => simp [intOf]; omega)
    · have he : k = n := by omega
      subst he
      have HF : Hid (zs.all isLow = true) := by
        have := HA.out
        rwa [List.take_of_length_le (by rw [HN.out]; exact Nat.le_refl _)] at this
      go_wp2
      go_ret
      exact ⟨by rw [HF.out]; rfl, rfl⟩
end
section
section
variable {P : Program} {ops : Array Oper} {Q : Exit → Act → World → Prop} {md : Region.Mode} {S : World → Prop} {z : Nat}

/-- Whatever order is picked from here on, and S holds behind every operation that is carried out but z. -/
def wpAnyZ (P : Program) (md : Region.Mode) (ops : Array Oper) (Q : Exit → Act → World → Prop) (S : World → Prop) (z : Nat) : Nat → Array Bool → Act → World → Prop
  | 0, listed, a, w => Region.ready md ops listed = [] ∧ Q .normal a w
  | fuel + 1, listed, a, w =>
    (Region.ready md ops listed = [] → Q .normal a w) ∧
    ∀ i ∈ Region.ready md ops listed, wpOp P ops Q i (fun a' w' => (i ≠ z → S w') ∧ wpAnyZ P md ops Q S z fuel (listed.setIfInBounds i true) a' w') a w
theorem wpAny_of_Z : ∀ (fuel : Nat) (listed : Array Bool) (a : Act) (w : World), wpAnyZ P md ops Q S z fuel listed a w → wpAny P md ops Q fuel listed a w
  | 0, _, _, _, h => h
  | fuel + 1, _, _, _, h => ⟨h.1, fun i hi => wpOp_mono (fun a' w' h' => wpAny_of_Z fuel _ a' w' h'.2) (h.2 i hi)⟩
theorem wpAnyZ_first {i : Nat} {oi : Oper} {v : Value} (hi : ops[i]? = some oi) (hsel : ∀ (j : Nat) (o : Oper) cs b, ops[j]? = some o → o.op ≠ .select cs b) (hzi : ∀ oz, ops[z]? = some oz → ∃ e ∈ oz.after, Region.binds md e = true ∧ e.on = i)
    (hQ : ∀ c a w, Q (.panic c) (a.put oi.dst v) w → Q (.panic c) a w) :
    ∀ (fuel : Nat) (listed : Array Bool) (a : Act) (w : World),
      (∀ j oj, ops[j]? = some oj → j ≠ i → listed.getD j true = false → (∀ e ∈ oj.after, Region.binds md e = true → e.on ≠ i) → oi.apart ops oj = true) →
      i ∈ Region.ready md ops listed → YieldsIf P ops S oi v a → S w →
      wpAnyZ P md ops Q S z fuel (listed.setIfInBounds i true) (a.put oi.dst v) w → wpAnyZ P md ops Q S z (fuel + 1) listed a w := by
  intro fuel
  induction fuel with
  | zero =>
    intro listed a w _ hr hy hS H
    refine ⟨fun h => (by rw [h] at hr; cases hr), fun j hj => ?_⟩
    by_cases hji : j = i
    · subst hji; exact hy.wpOp hi hS ⟨fun _ => hS, H⟩
    · have := ready_mono hj hji
      rw [H.1] at this
      cases this
  | succ fuel ih =>
    intro listed a w hfree hr hy hS H
    refine ⟨fun h => (by rw [h] at hr; cases hr), fun j hj => ?_⟩
    by_cases hji : j = i
    · subst hji; exact hy.wpOp hi hS ⟨fun _ => hS, H⟩
    · have h1 := H.2 j (ready_mono hj hji)
      obtain ⟨hjun, oj, hoj, hall⟩ := mem_ready.1 hj
      have hnot : ∀ e ∈ oj.after, Region.binds md e = true → e.on ≠ i := fun e he hb heq => by
        have h1 := hall e he hb
        have h0 := (mem_ready.1 hr).1
        rw [heq] at h1
        rcases Nat.lt_or_ge i listed.size with h' | h'
        · simp [h'] at h0 h1; rw [h0] at h1; cases h1
        · simp [Array.getElem?_eq_none h'] at h1
      have hjz : j ≠ z := fun e => by
        subst e
        obtain ⟨e, he, hb, ho⟩ := hzi oj hoj
        exact hnot e he hb ho
      have h2 := wpOp_putIf hoj (hfree j oj hoj hji hjun hnot) (fun cs b => hsel i oi cs b hi) (fun cs b => hsel j oj cs b hoj) hQ hy h1
      have hfree' : ∀ k ok, ops[k]? = some ok → k ≠ i → (listed.setIfInBounds j true).getD k true = false →
          (∀ e ∈ ok.after, Region.binds md e = true → e.on ≠ i) → oi.apart ops ok = true := fun k ok hk hki hun hno => by
        refine hfree k ok hk hki ?_ hno
        by_cases hjk : j = k
        · subst hjk; exact hjun
        · rw [getD_set_ne true hjk] at hun; exact hun
      refine wpOp_mono (fun a' w' h3 => ⟨h3.2.1, ih (listed.setIfInBounds j true) a' w' hfree' (ready_mono hr (Ne.symm hji)) h3.1 (h3.2.1 hjz) ?_⟩) h2
      rw [Array.setIfInBounds_comm _ _ hji]
      exact h3.2.2
theorem wpAnyZ_take {i : Nat} {oi : Oper} {v : Value} {fuel : Nat} {listed : Array Bool} {a : Act} {w : World} (hi : ops[i]? = some oi)
    (hs : Region.noSelect ops = true) (hf : Region.free md ops listed i = true) (hr : (Region.ready md ops listed).contains i = true) (hz : (ops[z]?.map (fun o => o.after.any (fun e => Region.binds md e && e.on == i))) = some true)
    (hQ : ∀ c a w, Q (.panic c) (a.put oi.dst v) w → Q (.panic c) a w) (hy : YieldsIf P ops S oi v a) (hS : S w)
    (h : wpAnyZ P md ops Q S z fuel (listed.setIfInBounds i true) (a.put oi.dst v) w) : wpAnyZ P md ops Q S z (fuel + 1) listed a w :=
  wpAnyZ_first hi (Region.noSelect_spec hs) (fun oz ho => by
    rw [ho, Option.map_some, Option.some.injEq, Array.any_eq_true] at hz
    obtain ⟨k, hk, h3⟩ := hz
    rw [Bool.and_eq_true, beq_iff_eq] at h3
    exact ⟨_, Array.getElem_mem hk, h3.1, h3.2⟩) hQ fuel listed a w (Region.free_spec hi hf) (by simpa using hr) hy hS h
theorem wpAnyZ_done {listed : Array Bool} {a : Act} {w : World} (hr : Region.ready md ops listed = []) (h : Q .normal a w) :
    ∀ fuel, wpAnyZ P md ops Q S z fuel listed a w
  | 0 => ⟨hr, h⟩
  | _ + 1 => ⟨fun _ => h, by rw [hr]; simp⟩
/-- One operation alone may come up; behind it S holds. -/
theorem wpAnyZ_one {i : Nat} {o : Oper} {fuel : Nat} {listed : Array Bool} {a : Act} {w : World} (hr : Region.ready md ops listed = [i]) (ho : ops[i]? = some o)
    (h : ∀ K' : Act → World → Prop, Shut (∀ a w, S w → (S w → wpAnyZ P md ops Q S z fuel (listed.setIfInBounds i true) a w) → K' a w) → if Region.wanted o (yielded ops a.tmps) = true then Oper.wp P o a w K' Q else K' (a.put o.dst undef) w) : wpAnyZ P md ops Q S z (fuel + 1) listed a w :=
  ⟨fun h0 => (by rw [hr] at h0; cases h0), fun j hj => by
    rw [hr] at hj
    simp only [List.mem_cons, List.not_mem_nil, or_false] at hj
    subst hj
    exact wpOp_step ho (fun K' hK => h K' (fun a w hS hW => hK a w ⟨fun _ => hS, hW hS⟩))⟩
/-- The last one. -/
theorem wpAnyZ_last {o : Oper} {fuel : Nat} {listed : Array Bool} {a : Act} {w : World} (hr : Region.ready md ops listed = [z]) (ho : ops[z]? = some o)
    (h : ∀ K' : Act → World → Prop, Shut (∀ a w, wpAnyZ P md ops Q S z fuel (listed.setIfInBounds z true) a w → K' a w) → if Region.wanted o (yielded ops a.tmps) = true then Oper.wp P o a w K' Q else K' (a.put o.dst undef) w) : wpAnyZ P md ops Q S z (fuel + 1) listed a w :=
  ⟨fun h0 => (by rw [hr] at h0; cases h0), fun j hj => by
    rw [hr] at hj
    simp only [List.mem_cons, List.not_mem_nil, or_false] at hj
    subst hj
    exact wpOp_step ho (fun K' hK => h K' (fun a w hW => hK a w ⟨fun h => absurd rfl h, hW⟩))⟩
theorem wp_region_Z {id : Nat} {a : Act} {w : World} (S : World → Prop) (z : Nat) (hm : P.follows .mixedOrders = true) (hS : S w.drew)
    (h : S w.drew → wpAnyZ P .any ops Q S z ops.size (Array.replicate ops.size false) a w.drew) : (Code.region id ops true).wp P Q a w :=
  wp_region_any hm (wpAny_of_Z _ _ _ _ (h hS))
end
end
section
set_option linter.unusedSimpArgs false
end
section
set_option maxHeartbeats 4000000 in
theorem implCopyEn_any (v : Value) (l : List En) (S : Nat → Prop) (w : World) (r : RdV w S v (ensDt l)) (hl : szEns l ≤ 2097152) (hn : l.length ≤ 4000) :
    Calls Tryz.prog 45 #[v] w fun e w' => ∃ a n c, e = .returned (.slice a n c) ∧ OwV w' (fun b => w.heap.size ≤ b ∧ b < w'.heap.size) (.slice a n c) (ensDt l) ∧ Below w.heap.size w w' := by
  obtain ⟨a, cap, rfl, _⟩ := RdV.sliced r
  have HR : Hid (∀ W, Below w.heap.size w W → RdV W S (.slice a l.length cap) (ensDt l)) := fun W hW => r.step hW
  have HLN : Hid (∀ k, k < l.length → (l[k]?.getD en0).nm.length ≤ 2097152) := fun k hk => Nat.le_trans (szEns_at l k) hl
  clear r hl
  go_enter Tryz.func45, Tryz.ntmps45
  go_wp2
  go_loopw [3, 8] (fun o i wr => ∃ (k : Nat) (ga : Option Addr) (gn gc : Nat), k ≤ l.length ∧ i = .int .i64 k ∧ o = .slice ga gn gc ∧ Hid (OwV wr (fun b => w.heap.size ≤ b ∧ b < wr.heap.size) (.slice ga gn gc) (ensDt (l.take k))) ∧ Hid (Below w.heap.size w wr)) (fun _ i _ => l.length - (intOf i).toNat)
  case atStart => exact ⟨0, none, 0, 0, Nat.zero_le _, rfl, rfl, OwV.nilR _ _ _ _ _, Below.refl _ _⟩
  case round =>
    obtain ⟨k, ga, gn, gc, hk, rfl, rfl, HO, HB⟩ := hrel
    by_cases hlt : k < l.length
    · obtain ⟨b, off, rfl, hbl, hSb, hc⟩ := (HR.out w (Below.refl _ _)).at hlt
      obtain ⟨x0, q0, r0⟩ := hc 0 (by omega)
      obtain ⟨x1, q1, r1⟩ := hc 1 (by omega)
      obtain ⟨x2, q2, r2⟩ := hc 2 (by omega)
      obtain ⟨x3, q3, r3⟩ := hc 3 (by omega)
      have htk : l.take (k + 1) = l.take k ++ [l[k]?.getD en0] := by rw [List.take_succ_eq_append_getElem hlt]; simp [hlt]
      have hnm := HLN.out k hlt
      generalize l[k]?.getD en0 = e at r0 r1 r2 r3 htk hnm
      obtain ⟨nm, ⟨sh, ino, dr⟩⟩ := e
      obtain rfl : x1 = .int .i64 sh := r1
      obtain rfl : x2 = .int .i64 ino := r2
      obtain rfl : x3 = .bool dr := r3
      have r0' : RdV w S x0 (.bytes nm) := r0
      obtain ⟨a0, c0, rfl⟩ := r0'.sliceB
      have p0 := (HB.out.cell (p := ⟨b, off + k * 4 + 0, none⟩) hbl).trans q0
      have p1 := (HB.out.cell (p := ⟨b, off + k * 4 + 1, none⟩) hbl).trans q1
      have p2 := (HB.out.cell (p := ⟨b, off + k * 4 + 2, none⟩) hbl).trans q2
      have p3 := (HB.out.cell (p := ⟨b, off + k * 4 + 3, none⟩) hbl).trans q3
      rw [Nat.add_zero] at p0
      have HRB : Hid (∀ W, Below w.heap.size w W → Reads W a0 nm ∧ Headed a0 nm.length c0) := fun W hW => by
        obtain ⟨a', cap', he, hh, hr⟩ := (r0'.step hW).b.reads
        simp only [Value.slice.injEq, true_and] at he
        obtain ⟨rfl, rfl⟩ := he
        exact ⟨hr, hh⟩
      have HZ : Hid (isBytes nm) := r0'.b.1
      have hix : (k : Int) < (l.length : Int) := by omega
      have HTK : Hid _ := htk
      have hsw := HB.out.size
      clear r0 r0' hc htk q0 q1 q2 q3
      go_wp2
      obtain ⟨w4, hw4⟩ : ∃ W, W = wr.alloc (.cells #[.slice a0 nm.length c0, .int .i64 sh, .int .i64 ino, .bool dr] 114) := ⟨_, rfl⟩
      have b4 : Below wr.heap.size wr w4 := by rw [hw4]; exact Below.newH _
      have V4 : VarA w4 wr.heap.size 114 #[.slice a0 nm.length c0, .int .i64 sh, .int .i64 ino, .bool dr] := by rw [hw4]; exact VarA.new _ _ _
      rw [← hw4]
      clear hw4 p0 p1 p2 p3
      have HS : Hid (∀ W, Below w4.heap.size w4 W → W.cell? ⟨wr.heap.size, 0, none⟩ = some (.slice a0 nm.length c0) ∧ W.cell? ⟨wr.heap.size, 1, none⟩ = some (.int .i64 sh) ∧ W.cell? ⟨wr.heap.size, 2, none⟩ = some (.int .i64 ino) ∧ W.cell? ⟨wr.heap.size, 3, none⟩ = some (.bool dr)) := fun W hW => by
        have V := V4.step hW
        exact ⟨V.c 0 rfl, V.c 1 rfl, V.c 2 rfl, V.c 3 rfl⟩
      refine wp_region_noPanic ?_
      refine wp_region_held_drew (S := fun w' => w'.cell? ⟨wr.heap.size, 0, none⟩ = some (.slice a0 nm.length c0) ∧ w'.cell? ⟨wr.heap.size, 1, none⟩ = some (.int .i64 sh) ∧ w'.cell? ⟨wr.heap.size, 2, none⟩ = some (.int .i64 ino) ∧ w'.cell? ⟨wr.heap.size, 3, none⟩ = some (.bool dr)) (by kernel_rfl) (HS.out _ (Below.drew (Below.refl w4.heap.size w4))) (fun hHeld => ?_)
      refine wpAnyH_take (i := 0) (v := ?_) rfl (by kernel_rfl) (by kernel_rfl) (by kernel_rfl) (fun _ _ _ h => h) (Or.inl ⟨by rfl, ?_⟩) (by assumption) ?_
      rotate_left
      · (intro w_ hSw_; (try dsimp only at hSw_); go_simp; try with_reducible rfl)
      try simp only [Act.put, List.setIfInBounds_toArray, List.set_cons_zero, List.set_cons_succ, List.getElem_toArray, List.getElem_cons_zero, List.getElem_cons_succ]
      refine wpAnyH_take (i := 1) (v := ?_) rfl (by kernel_rfl) (by kernel_rfl) (by kernel_rfl) (fun _ _ _ h => h) (Or.inl ⟨by rfl, ?_⟩) (by assumption) ?_
      rotate_left
      · (intro w_ hSw_; (try dsimp only at hSw_); go_simp; try with_reducible rfl)
      try simp only [Act.put, List.setIfInBounds_toArray, List.set_cons_zero, List.set_cons_succ, List.getElem_toArray, List.getElem_cons_zero, List.getElem_cons_succ]
      refine wpAnyH_take (i := 2) (v := ?_) rfl (by kernel_rfl) (by kernel_rfl) (by kernel_rfl) (fun _ _ _ h => h) (Or.inl ⟨by rfl, ?_⟩) (by assumption) ?_
      rotate_left
      · (intro w_ hSw_; (try dsimp only at hSw_); go_simp; try with_reducible rfl)
      try simp only [Act.put, List.setIfInBounds_toArray, List.set_cons_zero, List.set_cons_succ, List.getElem_toArray, List.getElem_cons_zero, List.getElem_cons_succ]
      refine wpAnyH_take (i := 4) (v := ?_) rfl (by kernel_rfl) (by kernel_rfl) (by kernel_rfl) (fun _ _ _ h => h) (Or.inl ⟨by rfl, ?_⟩) (by assumption) ?_
      rotate_left
      · (intro w_ hSw_; (try dsimp only at hSw_); go_simp; try with_reducible rfl)
      try simp only [Act.put, List.setIfInBounds_toArray, List.set_cons_zero, List.set_cons_succ, List.getElem_toArray, List.getElem_cons_zero, List.getElem_cons_succ]
      refine wpAnyH_take (i := 5) (v := ?_) rfl (by kernel_rfl) (by kernel_rfl) (by kernel_rfl) (fun _ _ _ h => h) (Or.inl ⟨by rfl, ?_⟩) (by assumption) ?_
      rotate_left
      · (intro w_ hSw_; (try dsimp only at hSw_); go_simp; try with_reducible rfl)
      try simp only [Act.put, List.setIfInBounds_toArray, List.set_cons_zero, List.set_cons_succ, List.getElem_toArray, List.getElem_cons_zero, List.getElem_cons_succ]
      refine wpAnyH_ready (rs := [3]) (by kernel_rfl) (by simp) ?_
      refine AllReadyH.cons rfl (fun K hK => ?_) AllReadyH.nil
      go_simp
      refine Calls.mono (joined_any none a0 [] nm 0 c0 w4.drew (reads_none _ _) (HRB.out _ (HB.out.trans ((b4.trans (Below.mono (Below.drew (Below.refl w4.heap.size w4)) b4.size)).mono HB.out.size))).1 (by simp) hnm) ?_
      rintro e6 w6 ⟨rfl, ho6, bb6, z6⟩
      rw [List.nil_append] at ho6
      dsimp only
      simp only [List.nil_append]
      have b46 : Below w4.heap.size w4 w6 := Below.trans (Below.drew (Below.refl w4.heap.size w4)) bb6
      have b6 : Below wr.heap.size wr w6 := b4.trans (b46.mono b4.size)
      have s6 := b46.size
      refine hK.out _ _ (HS.out _ b46) (fun hHeld => ?_)
      clear hK K
      try simp only [Act.put, List.setIfInBounds_toArray, List.set_cons_zero, List.set_cons_succ, List.getElem_toArray, List.getElem_cons_zero, List.getElem_cons_succ]
      refine wpAnyH_take (i := 6) (v := ?_) rfl (by kernel_rfl) (by kernel_rfl) (by kernel_rfl) (fun _ _ _ h => h) (Or.inl ⟨by rfl, ?_⟩) (by assumption) ?_
      rotate_left
      · (intro w_ hSw_; (try dsimp only at hSw_); go_simp; try with_reducible rfl)
      try simp only [Act.put, List.setIfInBounds_toArray, List.set_cons_zero, List.set_cons_succ, List.getElem_toArray, List.getElem_cons_zero, List.getElem_cons_succ]
      refine wpAnyH_ready (rs := [7]) (by kernel_rfl) (by simp) ?_
      refine AllReadyH.cons rfl (fun K hK => ?_) AllReadyH.nil
      go_simp
      have b47 : Below w4.heap.size w4 (w6.alloc (.cells #[.slice (some ⟨w4.heap.size, 0, none⟩) nm.length nm.length, .int .i64 sh, .int .i64 ino, .bool dr] 114)) := Below.alloc b46 b46.size _
      have b7 : Below wr.heap.size wr (w6.alloc (.cells #[.slice (some ⟨w4.heap.size, 0, none⟩) nm.length nm.length, .int .i64 sh, .int .i64 ino, .bool dr] 114)) := b4.trans (b47.mono b4.size)
      refine hK.out _ _ (HS.out _ b47) (fun hHeld => ?_)
      clear hK K
      try simp only [Act.put, List.setIfInBounds_toArray, List.set_cons_zero, List.set_cons_succ, List.getElem_toArray, List.getElem_cons_zero, List.getElem_cons_succ]
      refine wpAnyH_ready (rs := [8]) (by kernel_rfl) (by simp) ?_
      refine AllReadyH.cons rfl (fun K hK => ?_) AllReadyH.nil
      refine step_appEn (w6.alloc (.cells #[.slice (some ⟨w4.heap.size, 0, none⟩) nm.length nm.length, .int .i64 sh, .int .i64 ino, .bool dr] 114)) rfl (.tmp 12) (.tmp 19) (by rfl) _ (by rfl) (l.take k) ⟨nm, (sh, ino, dr)⟩ (.slice (some ⟨w4.heap.size, 0, none⟩) nm.length nm.length) w.heap.size wr.heap.size w6.heap.size w6.heap.size (by rfl) rfl (0, 0) (heap_alloc_new _ _) (OwV.step HO.out b7) (OwV.step (OwV.mono (fun q hq => ⟨by have := b4.size; have := hq.1; simp at this; omega, hq.2⟩) (OwV.ofOwns HZ.out ho6)) (Below.newH _)) (by simp) (by have := b6.size; omega) (by omega) (by rw [List.length_take]; omega) ?_
      intro g8 n8 c8 w8 ho8 t8
      have s8 := t8.size
      rw [World.size_alloc] at s8
      have HB8 : Below w.heap.size w w8 := Turned.below (HB.out.trans (b7.mono HB.out.size)) t8 (by have := HB.out.size; have := b6.size; simp; omega) (fun i hi => hi.1)
      have V8 := (V4.step b47).turn t8 (fun e => by have e2 : wr.heap.size < wr.heap.size := e.2; omega)
      refine hK.out _ _ ⟨V8.c 0 rfl, V8.c 1 rfl, V8.c 2 rfl, V8.c 3 rfl⟩ (fun hHeld => ?_)
      clear hK K
      try simp only [Act.put, List.setIfInBounds_toArray, List.set_cons_zero, List.set_cons_succ, List.getElem_toArray, List.getElem_cons_zero, List.getElem_cons_succ]
      refine wpAnyH_take (i := 9) (v := ?_) rfl (by kernel_rfl) (by kernel_rfl) (by kernel_rfl) (fun _ _ _ h => h) (Or.inl ⟨by rfl, ?_⟩) (by assumption) ?_
      rotate_left
      · (intro w_ hSw_; (try dsimp only at hSw_); go_simp; try with_reducible rfl)
      try simp only [Act.put, List.setIfInBounds_toArray, List.set_cons_zero, List.set_cons_succ, List.getElem_toArray, List.getElem_cons_zero, List.getElem_cons_succ]
      refine wpAnyH_done (by kernel_rfl) (NoPanic.normal ?_) _
      clear hHeld
      rw [← HTK.out] at ho8
      have HO8 : Hid (OwV w8 (fun b => w.heap.size ≤ b ∧ b < w8.heap.size) (.slice g8 n8 c8) (ensDt (l.take (k + 1)))) := ho8
      have HB9 : Hid (Below w.heap.size w w8) := HB8
      clear ho8 HB8 t8 b4 b6 b7 ho6 bb6 V4
      go_wp2
      first
      | exact ⟨⟨k + 1, g8, n8, c8, by omega, by go_num, rfl, HO8, HB9⟩, by simp [intOf]; omega⟩
      | (go_roundw
         case rel => exact ⟨k + 1, g8, n8, c8, by omega, by go_num, rfl, HO8, HB9⟩
         case measure => simp [intOf]; omega)
    · have he : k = l.length := by omega
      subst he
      rw [List.take_length] at HO
      go_wp2
      go_ret
      exact ⟨_, _, _, rfl, HO.out, HB.out⟩
end
section
theorem OwV.snocNd {w w' : World} {lo hi hi2 g cap : Nat} {v u : Value} {l : List Nd} {e : Nd} (hown : OwV w (fun b => lo ≤ b ∧ b < hi) v (ndsDt l)) (hu : OwV w (fun b => hi ≤ b ∧ b < hi2) u (ensDt e.es)) (h2 : hi2 ≤ w.heap.size) (hh2 : hi ≤ hi2) (hlh : lo ≤ hi)
    (C : List Value) (hC : w.ownsRow 0 51 9 v l.length C) (V : Nat → Nat → Value) (Q : Nat → Nat → Nat → Prop) (hS : ∀ b, v.ownBlock = some b → lo ≤ b ∧ b < hi) (hV : ∀ i j, i < l.length → j < 9 → C[i * 9 + j]? = some (V i j)) (hQ : ∀ i j, i < l.length → j < 9 → OwV w (Q i j) (V i j) (ndCell (l[i]?.getD nd0) j))
    (hq1 : ∀ i j b, i < l.length → j < 9 → Q i j b → (lo ≤ b ∧ b < hi) ∧ v.ownBlock ≠ some b) (hq2 : ∀ i j i' j' b, i < l.length → j < 9 → i' < l.length → j' < 9 → Q i j b → Q i' j' b → i = i' ∧ j = j')
    (ho : w'.ownsRow 0 51 9 (.slice (some ⟨g, 0, none⟩) (l.length + 1) cap) (l.length + 1) (C ++ [.int .i64 e.h.sh, .int .i64 e.h.ino, .bool e.h.dir, .int .i64 e.par.sh, .int .i64 e.par.ino, .bool e.par.dir, .int .i64 e.links, .int .i64 e.val, u])) (hg : w.grownBy w' v.ownBlock) (hgg : v.ownBlock = some g ∨ g = w.heap.size) (hgl : g < w'.heap.size) :
    OwV w' (fun b => lo ≤ b ∧ b < w'.heap.size) (.slice (some ⟨g, 0, none⟩) (l.length + 1) cap) (ndsDt (l ++ [e])) := by
  have hsz := hg.size
  have hCl : C.length = l.length * 9 := hC.1
  have hkeep : ∀ (R : Nat → Prop), (∀ b, R b → v.ownBlock ≠ some b) → Keeps R w w' := fun R hR => ⟨hsz, fun b hb hlt => hg.block b hlt (fun h => hR b hb h.symm)⟩
  have hln : (l ++ [e]).length = l.length + 1 := by simp
  unfold ndsDt
  rw [hln]
  refine OwV.mkRows ⟨fun i j => if i < l.length then V i j else ndVal e u j, _, fun i j => if i < l.length then Q i j else if j = 8 then (fun b => hi ≤ b ∧ b < hi2) else (fun _ => False), ho, ?_, ?_, ?_, ?_, ?_⟩
  · intro b hb
    obtain rfl : g = b := by simpa [Value.ownBlock] using hb
    rcases hgg with h | h
    · exact ⟨(hS _ h).1, hgl⟩
    · exact ⟨by omega, hgl⟩
  · intro i j hi' hj
    by_cases hlt : i < l.length
    · simp only [hlt, if_true]
      rw [List.getElem?_append_left (by rw [hCl]; exact place_lt hlt hj)]
      exact hV i j hlt hj
    · obtain rfl : i = l.length := by omega
      simp only [Nat.lt_irrefl, if_false]
      rw [List.getElem?_append_right (by omega), hCl, show l.length * 9 + j - l.length * 9 = j by omega]
      match j, hj with
      | 0, _ => rfl
      | 1, _ => rfl
      | 2, _ => rfl
      | 3, _ => rfl
      | 4, _ => rfl
      | 5, _ => rfl
      | 6, _ => rfl
      | 7, _ => rfl
      | 8, _ => rfl
  · intro i j hi' hj
    by_cases hlt : i < l.length
    · simp only [hlt, if_true]
      rw [show (l ++ [e])[i]?.getD nd0 = l[i]?.getD nd0 by rw [List.getElem?_append_left hlt]]
      exact OwV.keep (hkeep _ (fun b hb => (hq1 i j b hlt hj hb).2)) (hQ i j hlt hj)
    · obtain rfl : i = l.length := by omega
      simp only [Nat.lt_irrefl, if_false]
      rw [show (l ++ [e])[l.length]?.getD nd0 = e by simp]
      match j, hj with
      | 0, _ => rfl
      | 1, _ => rfl
      | 2, _ => rfl
      | 3, _ => rfl
      | 4, _ => rfl
      | 5, _ => rfl
      | 6, _ => rfl
      | 7, _ => rfl
      | 8, _ => exact OwV.keep (hkeep (fun b => hi ≤ b ∧ b < hi2) (fun b hb h => by have := hS b h; omega)) hu
  · intro i j b hi' hj hb
    by_cases hlt : i < l.length
    · simp only [hlt, if_true] at hb
      have h1 := hq1 i j b hlt hj hb
      refine ⟨⟨h1.1.1, by omega⟩, ?_⟩
      intro h
      obtain rfl : g = b := by simpa [Value.ownBlock] using h
      rcases hgg with h3 | h3
      · exact h1.2 h3
      · omega
    · simp only [hlt, if_false] at hb
      by_cases hj0 : j = 8
      · simp only [hj0, if_true] at hb
        refine ⟨⟨by omega, by omega⟩, ?_⟩
        intro h
        obtain rfl : g = b := by simpa [Value.ownBlock] using h
        rcases hgg with h3 | h3
        · have := hS _ h3; omega
        · omega
      · simp only [hj0, if_false] at hb
  · intro i j i' j' b hi' hj hi2' hj' hb hb'
    by_cases hlt : i < l.length <;> by_cases hlt' : i' < l.length
    · simp only [hlt, hlt', if_true] at hb hb'
      exact hq2 i j i' j' b hlt hj hlt' hj' hb hb'
    · simp only [hlt, hlt', if_true, if_false] at hb hb'
      have h1 := hq1 i j b hlt hj hb
      by_cases hj0 : j' = 8
      · simp only [hj0, if_true] at hb'; omega
      · simp only [hj0, if_false] at hb'
    · simp only [hlt, hlt', if_true, if_false] at hb hb'
      have h1 := hq1 i' j' b hlt' hj' hb'
      by_cases hj0 : j = 8
      · simp only [hj0, if_true] at hb; omega
      · simp only [hj0, if_false] at hb
    · simp only [hlt, hlt', if_false] at hb hb'
      by_cases hj0 : j = 8 <;> by_cases hj0' : j' = 8
      · exact ⟨by omega, by omega⟩
      · simp only [hj0', if_false] at hb'
      · simp only [hj0, if_false] at hb
      · simp only [hj0, if_false] at hb
theorem wpList_appNdO {ops : Array Oper} {rest : List Oper} {o : Oper} {a : Act} {Q : Exit → Act → World → Prop} (w : World) (hgd : o.guard = none) (s x : Operand)
    (ho : o.op = .call { callee := .builtin .append, args := #[s, x], argTypes := #[23, 23] })
    (v : Value) (hs : a.eval s = v) (l : List Nd) (e : Nd) (u : Value) (lo hi hi2 q : Nat) (hx : a.eval x = .slice (some ⟨q, 0, none⟩) 1 1) (hone : u.oneCell' = true) (fr : Nat × Nat) (hq : w.heap[q]? = some (.cells #[.int .i64 e.h.sh, .int .i64 e.h.ino, .bool e.h.dir, .int .i64 e.par.sh, .int .i64 e.par.ino, .bool e.par.dir, .int .i64 e.links, .int .i64 e.val, u] 51 fr))
    (hown : OwV w (fun b => lo ≤ b ∧ b < hi) v (ndsDt l)) (hu : OwV w (fun b => hi ≤ b ∧ b < hi2) u (ensDt e.es)) (h2 : hi2 ≤ w.heap.size) (hh2 : hi ≤ hi2) (hlh : lo ≤ hi) (hl : l.length ≤ 4000)
    (h : ∀ g n cap w', OwV w' (fun b => lo ≤ b ∧ b < w'.heap.size) (.slice g n cap) (ndsDt (l ++ [e])) → Turned (fun b => lo ≤ b ∧ b < hi) w w' → wpList Tryz.prog ops Q rest (a.put o.dst (.slice g n cap)) w') : wpList Tryz.prog ops Q (o :: rest) a w := by
  obtain ⟨i0, hi0, hz0, hz1, hz2⟩ := info_parts Tryz.infoNd
  have hown' := hown
  unfold ndsDt at hown'
  obtain ⟨V, C, Qs, h1, hS, h3, h4, h5, h6⟩ := OwV.inv hown'
  refine wpList_append_lies w hgd s x 23 ho 0 51 i0 (.agg #[.int .i64 0, .int .i64 0, .bool false, .int .i64 0, .int .i64 0, .bool false, .int .i64 0, .int .i64 0, .slice none 0 0]) 9 88 Tryz.underlying23 hi0 hz0 hz1 hz2 rfl (by decide) v l.length C hs h1 ⟨q, 0, none⟩ 1 1 [.int .i64 e.h.sh, .int .i64 e.h.ino, .bool e.h.dir, .int .i64 e.par.sh, .int .i64 e.par.ino, .bool e.par.dir, .int .i64 e.links, .int .i64 e.val, u] hx rfl (World.news_of_block hq) (fun y hy => ?_) (by decide) (by unfold maxLen; omega) (by omega) (Nat.zero_le _) w.heap.size rfl ?_
  · simp only [List.mem_cons, List.not_mem_nil, or_false] at hy
    rcases hy with rfl | rfl | rfl | rfl | rfl | rfl | rfl | rfl | rfl
    · rfl
    · rfl
    · rfl
    · rfl
    · rfl
    · rfl
    · rfl
    · rfl
    · exact hone
  intro g cap w' ho' hg hgg hgl
  exact h _ _ _ w' (OwV.snocNd hown hu h2 hh2 hlh C h1 V Qs hS h3 h4 h5 h6 ho' hg hgg hgl) (Turned.ofGrown hg (fun k hk => hS k hk))
set_option maxHeartbeats 4000000 in
theorem implCopyNd_any (v : Value) (l : List Nd) (S : Nat → Prop) (w : World) (r : RdV w S v (ndsDt l)) (hl : szNds l ≤ 2097152) (hn : l.length ≤ 4000) (hes : ∀ i : Nat, (l[i]?.getD nd0).es.length ≤ 4000) :
    Calls Tryz.prog 20 #[v] w fun e w' => ∃ a n c, e = .returned (.slice a n c) ∧ OwV w' (fun b => w.heap.size ≤ b ∧ b < w'.heap.size) (.slice a n c) (ndsDt l) ∧ Below w.heap.size w w' := by
  obtain ⟨a, cap, rfl, _⟩ := RdV.sliced r
  have HR : Hid (∀ W, Below w.heap.size w W → RdV W S (.slice a l.length cap) (ndsDt l)) := fun W hW => r.step hW
  clear r
  go_enter Tryz.func20, Tryz.ntmps20
  go_wp2
  go_loopw [3, 8] (fun o i wr => ∃ (k : Nat) (ga : Option Addr) (gn gc : Nat), k ≤ l.length ∧ i = .int .i64 k ∧ o = .slice ga gn gc ∧ Hid (OwV wr (fun b => w.heap.size ≤ b ∧ b < wr.heap.size) (.slice ga gn gc) (ndsDt (l.take k))) ∧ Hid (Below w.heap.size w wr)) (fun _ i _ => l.length - (intOf i).toNat)
  case atStart => exact ⟨0, none, 0, 0, Nat.zero_le _, rfl, rfl, OwV.nilR _ _ _ _ _, Below.refl _ _⟩
  case round =>
    obtain ⟨k, ga, gn, gc, hk, rfl, rfl, HO, HB⟩ := hrel
    by_cases hlt : k < l.length
    · obtain ⟨b, off, rfl, hbl, hSb, hc⟩ := (HR.out w (Below.refl _ _)).at hlt
      have htk : l.take (k + 1) = l.take k ++ [l[k]?.getD nd0] := by rw [List.take_succ_eq_append_getElem hlt]; simp [hlt]
      have hel := hes k
      have hzn : szEns (l[k]?.getD nd0).es ≤ 2097152 := Nat.le_trans (szNds_at l k) hl
      obtain ⟨x0, cq0, r0⟩ := hc 0 (by omega)
      obtain ⟨x1, cq1, r1⟩ := hc 1 (by omega)
      obtain ⟨x2, cq2, r2⟩ := hc 2 (by omega)
      obtain ⟨x3, cq3, r3⟩ := hc 3 (by omega)
      obtain ⟨x4, cq4, r4⟩ := hc 4 (by omega)
      obtain ⟨x5, cq5, r5⟩ := hc 5 (by omega)
      obtain ⟨x6, cq6, r6⟩ := hc 6 (by omega)
      obtain ⟨x7, cq7, r7⟩ := hc 7 (by omega)
      obtain ⟨x8, cq8, r8⟩ := hc 8 (by omega)
      generalize l[k]?.getD nd0 = nd at r0 r1 r2 r3 r4 r5 r6 r7 r8 htk hel hzn
      obtain ⟨⟨p, q, d⟩, ⟨p2, q2, d2⟩, lk, vl, es⟩ := nd
      dsimp only at hel hzn
      obtain rfl : x0 = .int .i64 p := r0
      obtain rfl : x1 = .int .i64 q := r1
      obtain rfl : x2 = .bool d := r2
      obtain rfl : x3 = .int .i64 p2 := r3
      obtain rfl : x4 = .int .i64 q2 := r4
      obtain rfl : x5 = .bool d2 := r5
      obtain rfl : x6 = .int .i64 lk := r6
      obtain rfl : x7 = .int .i64 vl := r7
      have r8' : RdV w S x8 (ensDt es) := r8
      obtain ⟨xa, xc, rfl, _⟩ := RdV.sliced r8'
      have HCE : Hid (∀ W, Below w.heap.size w W → _) := fun W hW => implCopyEn_any _ es S W (r8'.step hW) hzn hel
      have p0_ := (HB.out.cell (p := ⟨b, off + k * 9 + 0, none⟩) hbl).trans cq0
      have p1_ := (HB.out.cell (p := ⟨b, off + k * 9 + 1, none⟩) hbl).trans cq1
      have p2_ := (HB.out.cell (p := ⟨b, off + k * 9 + 2, none⟩) hbl).trans cq2
      have p3_ := (HB.out.cell (p := ⟨b, off + k * 9 + 3, none⟩) hbl).trans cq3
      have p4_ := (HB.out.cell (p := ⟨b, off + k * 9 + 4, none⟩) hbl).trans cq4
      have p5_ := (HB.out.cell (p := ⟨b, off + k * 9 + 5, none⟩) hbl).trans cq5
      have p6_ := (HB.out.cell (p := ⟨b, off + k * 9 + 6, none⟩) hbl).trans cq6
      have p7_ := (HB.out.cell (p := ⟨b, off + k * 9 + 7, none⟩) hbl).trans cq7
      have p8_ := (HB.out.cell (p := ⟨b, off + k * 9 + 8, none⟩) hbl).trans cq8
      rw [Nat.add_zero] at p0_
      have HTK : Hid _ := htk
      have hix : (k : Int) < (l.length : Int) := by omega
      have hsw := HB.out.size
      clear r8 r8' hc htk
      generalize es.length = xn at *
      go_wp2_with fail
      obtain ⟨w4, hw4⟩ : ∃ W, W = wr.alloc (.cells #[.int .i64 p, .int .i64 q, .bool d, .int .i64 p2, .int .i64 q2, .bool d2, .int .i64 lk, .int .i64 vl, .slice xa xn xc] 51) := ⟨_, rfl⟩
      have b4 : Below wr.heap.size wr w4 := by rw [hw4]; exact Below.newH _
      have V4 : VarA w4 wr.heap.size 51 #[.int .i64 p, .int .i64 q, .bool d, .int .i64 p2, .int .i64 q2, .bool d2, .int .i64 lk, .int .i64 vl, .slice xa xn xc] := by rw [hw4]; exact VarA.new _ _ _
      rw [← hw4]
      have z4 : w4.heap.size = wr.heap.size + 1 := by rw [hw4]; simp
      clear hw4
      refine Calls.mono (HCE.out _ (HB.out.trans (b4.mono HB.out.size))) ?_
      rintro e5 w5 ⟨ea, en, ec, rfl, oe, b5⟩
      have V5 := V4.step b5
      have z5 := b5.size
      have HV5 : Hid (VarA w5 wr.heap.size 51 #[.int .i64 p, .int .i64 q, .bool d, .int .i64 p2, .int .i64 q2, .bool d2, .int .i64 lk, .int .i64 vl, .slice xa xn xc]) := V5
      have HE5 : Hid (OwV w5 (fun b => w4.heap.size ≤ b ∧ b < w5.heap.size) (.slice ea en ec) (ensDt es)) := oe
      have HB5 : Hid (Below wr.heap.size wr w5) := b4.trans (b5.mono b4.size)
      clear V4 V5 oe b5 b4 p0_ p1_ p2_ p3_ p4_ p5_ p6_ p7_ p8_ HCE
      go_wp2_with (first | ((with_reducible refine guardStore (ty := 29) ?_); refine wpList_storeG HV5.out rfl rfl rfl (by kernel_rfl) rfl (of_decide_eq_true rfl) rfl ?_; intro w6 v6 t6; have HV6 : Hid (VarA w6 wr.heap.size 51 #[.int .i64 p, .int .i64 q, .bool d, .int .i64 p2, .int .i64 q2, .bool d2, .int .i64 lk, .int .i64 vl, .slice ea en ec]) := v6; have HU6 : Hid (OwV w6 (fun b => wr.heap.size ≤ b ∧ b < w6.heap.size) (.slice ea en ec) (ensDt es)) := OwV.mono (fun x hx => ⟨by omega, Nat.lt_of_lt_of_le hx.2 t6.size⟩) (OwV.keep (t6.keeps (fun x hx e => by omega)) HE5.out); have HO6 : Hid (OwV w6 (fun b => w.heap.size ≤ b ∧ b < wr.heap.size) (.slice ga gn gc) (ndsDt (l.take k))) := OwV.keep (t6.keeps (fun x hx e => by omega)) (OwV.step HO.out HB5.out); obtain ⟨o0, o1, o2, o3, o4, o5, o6, o7, o8⟩ := v6.l9) | (at_builtin; go_must (refine wpList_appNdO (w6.alloc (.cells #[.int .i64 p, .int .i64 q, .bool d, .int .i64 p2, .int .i64 q2, .bool d2, .int .i64 lk, .int .i64 vl, .slice ea en ec] 51)) rfl (.tmp 16) (.tmp 18) rfl _ rfl (l.take k) ⟨(p, q, d), (p2, q2, d2), lk, vl, es⟩ (.slice ea en ec) w.heap.size wr.heap.size w6.heap.size w6.heap.size rfl rfl (0, 0) (heap_alloc_new _ _) (OwV.step HO6.out (Below.newH _)) (OwV.step HU6.out (Below.newH _)) (by simp) (by have := t6.size; omega) hsw (by rw [List.length_take]; omega) ?_; intro g8 n8 c8 w8 ho8 t8)))
      rw [← HTK.out] at ho8
      have HO8 : Hid (OwV w8 (fun b => w.heap.size ≤ b ∧ b < w8.heap.size) (.slice g8 n8 c8) (ndsDt (l.take (k + 1)))) := ho8
      have HB9 : Hid (Below w.heap.size w w8) := by
        have z6 := t6.size
        have z8 := t8.size
        have hb6 : Below w.heap.size w w6 := Turned.below (HB.out.trans (HB5.out.mono HB.out.size)) t6 (by have := HB5.out.size; omega) (fun i hi => by omega)
        exact Turned.below (hb6.alloc hb6.size _) t8 (by have := hb6.size; simp; omega) (fun i hi => hi.1)
      clear ho8 t8 t6 HO HO6 HU6 HE5 HB5 HV5 HV6 o0 o1 o2 o3 o4 o5 o6 o7 o8
      go_wp2
      first
      | exact ⟨⟨k + 1, g8, n8, c8, by omega, by go_num, rfl, HO8, HB9⟩, by simp [intOf]; omega⟩
      | (go_roundw
         case rel => exact ⟨k + 1, g8, n8, c8, by omega, by go_num, rfl, HO8, HB9⟩
         case measure => simp [intOf]; omega)
    · have he : k = l.length := by omega
      subst he
      rw [List.take_length] at HO
      go_wp2
      go_ret
      exact ⟨_, _, _, rfl, HO.out, HB.out⟩
end
section
def num (n : Int) : Bool := decide (0 ≤ n) && decide (n ≤ 2147483647)
def TOk (t : TxD) : Bool := (decide (0 ≤ t.1) && decide (t.1 < 4)) && (num t.2.1 && num t.2.2)
end
section
def POk (p : PtD) : Bool :=
  if p.kind = 0 then HOk p.h && (decide (p.asn.length = 0) && decide (p.to = hd0))
  else if p.kind = 1 then (HOk p.h && !p.h.dir) && (decide (p.asn.length = 0) && decide (p.to = hd0))
  else if p.kind = 2 then ((decide (0 ≤ p.h.sh) && decide (p.h.sh < 4)) && decide (p.h.ino = 0)) && (decide (p.asn.length = 0) && (HOk p.to && p.to.dir))
  else if p.kind = 3 then (HOk p.h && p.h.dir) && (isNm p.asn && HOk p.to)
  else if p.kind = 4 then (HOk p.h && p.h.dir) && (decide (p.asn.length = 0) && (HOk p.to && p.to.dir))
  else if p.kind = 5 then decide (p.h = hd0) && (decide (p.asn.length = 0) && decide (p.to = hd0))
  else false
end
section
open Go.Shelf
def sortEn_ren : Go.Shelf.Ren := ⟨fun | 6 => 127 | 15 => 91 | 14 => 149 | 28 => 138 | 29 => 139 | 20 => 155 | 21 => 156 | 22 => 157 | 23 => 158 | 24 => 159 | 25 => 160 | 26 => 161 | 27 => 162 | 46 => 164 | 47 => 151 | 48 => 152 | 49 => 165 | 50 => 166 | 57 => 167 | n => n, fun | 22 => 29 | 24 => 114 | 25 => 174 | 3 => 3 | 39 => 136 | 0 => 0 | 53 => 184 | 55 => 186 | 4 => 4 | 46 => 177 | 45 => 176 | 50 => 181 | 5 => 5 | 9 => 9 | 66 => 197 | 70 => 201 | 76 => 208 | 77 => 209 | n => n, fun | n => n⟩
theorem sortEn : Go.Proofs.SlLaysF0.n6 Tryz.prog sortEn_ren := {
  mixed := by kernel_rfl
  f6 := ⟨Tryz.f127.name, by decide, Tryz.func127.trans (congrArg some (by kernel_rfl))⟩
  f14 := ⟨Tryz.f149.name, by decide, Tryz.func149.trans (congrArg some (by kernel_rfl))⟩
  f15 := Tryz.func91.trans (congrArg some (by kernel_rfl))
  f20 := ⟨Tryz.f155.name, by decide, Tryz.func155.trans (congrArg some (by kernel_rfl))⟩
  f21 := ⟨Tryz.f156.name, by decide, Tryz.func156.trans (congrArg some (by kernel_rfl))⟩
  f22 := ⟨Tryz.f157.name, by decide, Tryz.func157.trans (congrArg some (by kernel_rfl))⟩
  f23 := ⟨Tryz.f158.name, by decide, Tryz.func158.trans (congrArg some (by kernel_rfl))⟩
  f24 := ⟨Tryz.f159.name, by decide, Tryz.func159.trans (congrArg some (by kernel_rfl))⟩
  f25 := ⟨Tryz.f160.name, by decide, Tryz.func160.trans (congrArg some (by kernel_rfl))⟩
  f26 := ⟨Tryz.f161.name, by decide, Tryz.func161.trans (congrArg some (by kernel_rfl))⟩
  f27 := ⟨Tryz.f162.name, by decide, Tryz.func162.trans (congrArg some (by kernel_rfl))⟩
  f28 := Tryz.func138.trans (congrArg some (by kernel_rfl))
  f29 := Tryz.func139.trans (congrArg some (by kernel_rfl))
  f46 := ⟨Tryz.f164.name, by decide, Tryz.func164.trans (congrArg some (by kernel_rfl))⟩
  f47 := Tryz.func151.trans (congrArg some (by kernel_rfl))
  f48 := Tryz.func152.trans (congrArg some (by kernel_rfl))
  f49 := ⟨Tryz.f165.name, by decide, Tryz.func165.trans (congrArg some (by kernel_rfl))⟩
  f50 := ⟨Tryz.f166.name, by decide, Tryz.func166.trans (congrArg some (by kernel_rfl))⟩
  f57 := ⟨Tryz.f167.name, by decide, Tryz.func167.trans (congrArg some (by kernel_rfl))⟩
  t0 := Tryz.underlying0
  a0 := Tryz.isAgg0
  z0 := Tryz.sizeOf0
  v0 := Tryz.zeroValue0
  t3 := Tryz.underlying3
  a3 := Tryz.isAgg3
  z3 := Tryz.sizeOf3
  v3 := Tryz.zeroValue3
  t4 := Tryz.underlying4
  a4 := Tryz.isAgg4
  z4 := Tryz.sizeOf4
  v4 := Tryz.zeroValue4
  t5 := Tryz.underlying5
  a5 := Tryz.isAgg5
  z5 := Tryz.sizeOf5
  v5 := Tryz.zeroValue5
  t9 := Tryz.underlying9
  a9 := Tryz.isAgg9
  z9 := Tryz.sizeOf9
  v9 := Tryz.zeroValue9
  t22 := Tryz.underlying29
  a22 := Tryz.isAgg29
  z22 := Tryz.sizeOf29
  v22 := Tryz.zeroValue29
  t25 := Tryz.underlying174
  a25 := Tryz.isAgg174
  z25 := Tryz.sizeOf174
  v25 := Tryz.zeroValue174
  t39 := Tryz.underlying136
  a39 := Tryz.isAgg136
  z39 := Tryz.sizeOf136
  v39 := Tryz.zeroValue136
  t45 := Tryz.underlying176
  a45 := Tryz.isAgg176
  z45 := Tryz.sizeOf176
  v45 := Tryz.zeroValue176
  t46 := Tryz.underlying177
  a46 := Tryz.isAgg177
  z46 := Tryz.sizeOf177
  v46 := Tryz.zeroValue177
  t50 := Tryz.underlying181
  a50 := Tryz.isAgg181
  z50 := Tryz.sizeOf181
  v50 := Tryz.zeroValue181
  t53 := Tryz.underlying184
  a53 := Tryz.isAgg184
  z53 := Tryz.sizeOf184
  v53 := Tryz.zeroValue184
  t55 := Tryz.underlying186
  a55 := Tryz.isAgg186
  z55 := Tryz.sizeOf186
  v55 := Tryz.zeroValue186
  t66 := Tryz.underlying197
  a66 := Tryz.isAgg197
  z66 := Tryz.sizeOf197
  v66 := Tryz.zeroValue197
  t70 := Tryz.underlying201
  a70 := Tryz.isAgg201
  z70 := Tryz.sizeOf201
  v70 := Tryz.zeroValue201
  t76 := Tryz.underlying208
  a76 := Tryz.isAgg208
  z76 := Tryz.sizeOf208
  v76 := Tryz.zeroValue208
  t77 := Tryz.underlying209
  a77 := Tryz.isAgg209
  z77 := Tryz.sizeOf209
  v77 := Tryz.zeroValue209 }
def sortNd_ren : Go.Shelf.Ren := ⟨fun | 6 => 54 | 15 => 91 | 14 => 90 | 28 => 138 | 29 => 139 | 20 => 130 | 21 => 131 | 22 => 132 | 23 => 133 | 24 => 134 | 25 => 135 | 26 => 136 | 27 => 137 | 46 => 150 | 47 => 151 | 48 => 152 | 49 => 153 | 50 => 154 | 57 => 163 | n => n, fun | 22 => 23 | 24 => 51 | 25 => 94 | 3 => 3 | 39 => 136 | 0 => 0 | 53 => 184 | 55 => 186 | 4 => 4 | 46 => 177 | 45 => 176 | 50 => 181 | 5 => 5 | 9 => 9 | 66 => 197 | 70 => 201 | 76 => 208 | 77 => 209 | n => n, fun | n => n⟩
theorem sortNd : Go.Proofs.SlLaysF0.n6 Tryz.prog sortNd_ren := {
  mixed := by kernel_rfl
  f6 := ⟨Tryz.f54.name, by decide, Tryz.func54.trans (congrArg some (by kernel_rfl))⟩
  f14 := ⟨Tryz.f90.name, by decide, Tryz.func90.trans (congrArg some (by kernel_rfl))⟩
  f15 := Tryz.func91.trans (congrArg some (by kernel_rfl))
  f20 := ⟨Tryz.f130.name, by decide, Tryz.func130.trans (congrArg some (by kernel_rfl))⟩
  f21 := ⟨Tryz.f131.name, by decide, Tryz.func131.trans (congrArg some (by kernel_rfl))⟩
  f22 := ⟨Tryz.f132.name, by decide, Tryz.func132.trans (congrArg some (by kernel_rfl))⟩
  f23 := ⟨Tryz.f133.name, by decide, Tryz.func133.trans (congrArg some (by kernel_rfl))⟩
  f24 := ⟨Tryz.f134.name, by decide, Tryz.func134.trans (congrArg some (by kernel_rfl))⟩
  f25 := ⟨Tryz.f135.name, by decide, Tryz.func135.trans (congrArg some (by kernel_rfl))⟩
  f26 := ⟨Tryz.f136.name, by decide, Tryz.func136.trans (congrArg some (by kernel_rfl))⟩
  f27 := ⟨Tryz.f137.name, by decide, Tryz.func137.trans (congrArg some (by kernel_rfl))⟩
  f28 := Tryz.func138.trans (congrArg some (by kernel_rfl))
  f29 := Tryz.func139.trans (congrArg some (by kernel_rfl))
  f46 := ⟨Tryz.f150.name, by decide, Tryz.func150.trans (congrArg some (by kernel_rfl))⟩
  f47 := Tryz.func151.trans (congrArg some (by kernel_rfl))
  f48 := Tryz.func152.trans (congrArg some (by kernel_rfl))
  f49 := ⟨Tryz.f153.name, by decide, Tryz.func153.trans (congrArg some (by kernel_rfl))⟩
  f50 := ⟨Tryz.f154.name, by decide, Tryz.func154.trans (congrArg some (by kernel_rfl))⟩
  f57 := ⟨Tryz.f163.name, by decide, Tryz.func163.trans (congrArg some (by kernel_rfl))⟩
  t0 := Tryz.underlying0
  a0 := Tryz.isAgg0
  z0 := Tryz.sizeOf0
  v0 := Tryz.zeroValue0
  t3 := Tryz.underlying3
  a3 := Tryz.isAgg3
  z3 := Tryz.sizeOf3
  v3 := Tryz.zeroValue3
  t4 := Tryz.underlying4
  a4 := Tryz.isAgg4
  z4 := Tryz.sizeOf4
  v4 := Tryz.zeroValue4
  t5 := Tryz.underlying5
  a5 := Tryz.isAgg5
  z5 := Tryz.sizeOf5
  v5 := Tryz.zeroValue5
  t9 := Tryz.underlying9
  a9 := Tryz.isAgg9
  z9 := Tryz.sizeOf9
  v9 := Tryz.zeroValue9
  t22 := Tryz.underlying23
  a22 := Tryz.isAgg23
  z22 := Tryz.sizeOf23
  v22 := Tryz.zeroValue23
  t25 := Tryz.underlying94
  a25 := Tryz.isAgg94
  z25 := Tryz.sizeOf94
  v25 := Tryz.zeroValue94
  t39 := Tryz.underlying136
  a39 := Tryz.isAgg136
  z39 := Tryz.sizeOf136
  v39 := Tryz.zeroValue136
  t45 := Tryz.underlying176
  a45 := Tryz.isAgg176
  z45 := Tryz.sizeOf176
  v45 := Tryz.zeroValue176
  t46 := Tryz.underlying177
  a46 := Tryz.isAgg177
  z46 := Tryz.sizeOf177
  v46 := Tryz.zeroValue177
  t50 := Tryz.underlying181
  a50 := Tryz.isAgg181
  z50 := Tryz.sizeOf181
  v50 := Tryz.zeroValue181
  t53 := Tryz.underlying184
  a53 := Tryz.isAgg184
  z53 := Tryz.sizeOf184
  v53 := Tryz.zeroValue184
  t55 := Tryz.underlying186
  a55 := Tryz.isAgg186
  z55 := Tryz.sizeOf186
  v55 := Tryz.zeroValue186
  t66 := Tryz.underlying197
  a66 := Tryz.isAgg197
  z66 := Tryz.sizeOf197
  v66 := Tryz.zeroValue197
  t70 := Tryz.underlying201
  a70 := Tryz.isAgg201
  z70 := Tryz.sizeOf201
  v70 := Tryz.zeroValue201
  t76 := Tryz.underlying208
  a76 := Tryz.isAgg208
  z76 := Tryz.sizeOf208
  v76 := Tryz.zeroValue208
  t77 := Tryz.underlying209
  a77 := Tryz.isAgg209
  z77 := Tryz.sizeOf209
  v77 := Tryz.zeroValue209 }
end
section
def cmpI (a b : Int) : Int := if a < b then -1 else if b < a then 1 else 0
theorem isNaN_any (a : Int) (w : World) : Calls Tryz.prog 142 #[.int .i64 a] w fun e w' => e = .returned (.bool false) ∧ w' = w := by
  go_enter Tryz.func142, Tryz.ntmps142
  go_wp2
  go_ret
  exact ⟨by simp, rfl⟩
theorem compare_any (a b : Int) (w : World) : Calls Tryz.prog 99 #[.int .i64 a, .int .i64 b] w fun e w' => e = .returned (.int .i64 (cmpI a b)) ∧ w' = w := by
  have H1 : Hid (∀ W, _) := fun W => isNaN_any a W
  have H2 : Hid (∀ W, _) := fun W => isNaN_any b W
  go_enter Tryz.func99, Tryz.ntmps99
  go_wp2_with fail
  refine Calls.mono (H1.out _) ?_
  rintro e w2 ⟨rfl, rfl⟩
  go_wp2_with fail
  refine Calls.mono (H2.out _) ?_
  rintro e w2 ⟨rfl, rfl⟩
  go_wp2
  all_goals (go_ret; exact ⟨by unfold cmpI; first | (rw [if_pos (by omega)]; rfl) | (rw [if_neg (by omega), if_pos (by omega)]; rfl) | (rw [if_neg (by omega), if_neg (by omega)]; rfl), rfl⟩)
def orI (x y : Int) : Int := if x = 0 then y else x
theorem or_any (B : Nat) (x y : Int) (w : World) (h0 : w.cell? ⟨B, 0, none⟩ = some (.int .i64 x)) (h1 : w.cell? ⟨B, 1, none⟩ = some (.int .i64 y)) :
    Calls Tryz.prog 98 #[.slice (some ⟨B, 0, none⟩) 2 2] w fun e w' => e = .returned (.int .i64 (orI x y)) ∧ w' = w := by
  unfold orI
  by_cases hx : x = 0
  · subst hx
    by_cases hy : y = 0
    · subst hy
      go_enter Tryz.func98, Tryz.ntmps98
      go_wp2
      refine wp_loop_rounds 3 ?_
      rw [rounds_succ]
      go_wp2
      rw [rounds_succ]
      go_wp2
      rw [rounds_succ]
      go_wp2
      go_ret
      exact ⟨rfl, rfl⟩
    · have hd : (y != 0) = true := by simpa using hy
      go_enter Tryz.func98, Tryz.ntmps98
      go_wp2
      refine wp_loop_rounds 2 ?_
      rw [rounds_succ]
      go_wp2
      rw [rounds_succ]
      go_wp2
      go_ret
      exact ⟨rfl, rfl⟩
  · have hd : (x != 0) = true := by simpa using hx
    rw [if_neg hx]
    go_enter Tryz.func98, Tryz.ntmps98
    go_wp2
    refine wp_loop_rounds 1 ?_
    rw [rounds_succ]
    go_wp2
    go_ret
    exact ⟨rfl, rfl⟩
def byP (a b : Hd) : Int := if cmpI a.sh b.sh = 0 then cmpI a.ino b.ino else cmpI a.sh b.sh
theorem byP_less (a b : Hd) : decide (byP a b ≥ 0) = !lessH a b := by
  obtain ⟨s, i, d⟩ := a
  obtain ⟨s2, i2, d2⟩ := b
  simp only [byP, cmpI, lessH, Hd.sh, Hd.ino]
  by_cases h1 : s < s2
  · simp [h1]
  · by_cases h2 : s2 < s
    · have h3 : s ≠ s2 := by omega
      simp [h1, h2, h3]
    · have h3 : s = s2 := by omega
      subst h3
      by_cases h4 : i < i2
      · simp [h4]
      · by_cases h5 : i2 < i
        · simp [h4, h5]
        · simp [h4, h5]

set_option maxHeartbeats 400000 in
theorem byPlace_any (a b : Hd) (w : World) : Calls Tryz.prog 62 #[a.v, b.v] w fun e w' => e = .returned (.int .i64 (byP a b)) ∧ Below w.heap.size w w' := by
  obtain ⟨s, i, d⟩ := a
  obtain ⟨s2, i2, d2⟩ := b
  have HB : Hid (byP (s, i, d) (s2, i2, d2) = orI (cmpI s s2) (cmpI i i2)) := rfl
  rw [HB.out]
  clear HB
  go_enter Tryz.func62, Tryz.ntmps62
  go_wp2
  go_region_held3 (fun w' => w'.cell? ⟨w.heap.size, 0, none⟩ = some (.int .i64 s) ∧ w'.cell? ⟨w.heap.size, 1, none⟩ = some (.int .i64 i) ∧ w'.cell? ⟨w.heap.size + 1, 0, none⟩ = some (.int .i64 s2) ∧ w'.cell? ⟨w.heap.size + 1, 1, none⟩ = some (.int .i64 i2)) (first | go_keep) (first
    | (go_at_call 99; refine Calls.mono (compare_any _ _ _) ?_; rintro e w' ⟨rfl, rfl⟩)
    | (go_at_call 98; refine Calls.mono (or_any _ (cmpI s s2) (cmpI i i2) _ (by simp [go_sem]) (by simp [go_sem])) ?_; rintro e w' ⟨rfl, rfl⟩))
  all_goals go_wp2
  all_goals go_ret
  all_goals exact ⟨rfl, ((Below.newH2 (w := w) _ _).alloc (by simp; omega) _).drew⟩

def ascAt (l : List Nd) (i : Nat) : Bool := decide (i = 0) || lessH (l[i - 1]?.getD nd0).h (l[i]?.getD nd0).h
theorem range_all_nextT (f : Nat → Bool) (k : Nat) (h : (List.range k).all f = true) (hk : f k = true) : (List.range (k + 1)).all f = true := by rw [List.range_succ, List.all_append, h]; simp [hk]
theorem range_all_falseT (f : Nat → Bool) (n k : Nat) (hk : k < n) (h : f k = false) : (List.range n).all f = false := by
  rw [List.all_eq_false]
  exact ⟨k, by simpa using hk, by simp [h]⟩
def ascL (l : List Nd) : Bool := (List.range l.length).all (ascAt l)

set_option maxRecDepth 100000 in
set_option maxHeartbeats 2000000 in
theorem ascending_any (x : Value) (l : List Nd) (S : Nat → Prop) (w : World) (r : RdV w S x (ndsDt l)) (hl : l.length ≤ 2097152) :
    Calls Tryz.prog 25 #[x] w fun e w' => e = .returned (.bool (ascL l)) ∧ Below w.heap.size w w' := by
  obtain ⟨a, cap, rfl, _⟩ := RdV.sliced r
  have HR : Hid (∀ W, Below w.heap.size w W → RdV W S (.slice a l.length cap) (.rows 51 9 l.length (fun i j => ndCell (l[i]?.getD nd0) j))) := RdV.old r
  obtain ⟨n, hn⟩ : ∃ n, l.length = n := ⟨_, rfl⟩
  have HN : Hid _ := hn
  have HAS : Hid (ascL l = (List.range n).all (ascAt l)) := by show _ = _; unfold ascL; rw [hn]
  rw [hn] at hl HR ⊢
  rw [HAS.out]
  clear r hn HAS
  go_enter Tryz.func25, Tryz.ntmps25
  go_wp2
  go_loopw [3] (fun i wr => ∃ k : Nat, 1 ≤ k ∧ i = .int .i64 k ∧ k ≤ n + 1 ∧ Below w.heap.size w wr ∧ Hid ((List.range k).all (ascAt l) = true)) (fun i _ => n - (intOf i).toNat)
  case atStart => exact ⟨1, Nat.le_refl _, rfl, by omega, Below.refl _ _, by show _ = _; simp [ascAt]⟩
  case round =>
    obtain ⟨k, hk1, rfl, hk, hbel, HA⟩ := hrel
    by_cases hlt : k < n
    · obtain ⟨j, rfl⟩ : ∃ j, k = j + 1 := ⟨k - 1, by omega⟩
      obtain ⟨b, off, rfl, hbl, _, hx⟩ := RdV.at (HR.out wr hbel) hlt
      obtain ⟨b9, off9, hbb, hbl9, _, hz⟩ := RdV.at (HR.out wr hbel) (show j < n by omega)
      simp only [Option.some.injEq, Addr.mk.injEq, and_true] at hbb
      obtain ⟨rfl, rfl⟩ := hbb
      obtain ⟨x0, g0, s0⟩ := hx 0 (by omega)
      obtain ⟨x1, g1, s1⟩ := hx 1 (by omega)
      obtain ⟨x2, g2, s2⟩ := hx 2 (by omega)
      obtain ⟨z0, u0, r0⟩ := hz 0 (by omega)
      obtain ⟨z1, u1, r1⟩ := hz 1 (by omega)
      obtain ⟨z2, u2, r2⟩ := hz 2 (by omega)
      have HAT : Hid (ascAt l (j + 1) = lessH (l[j]?.getD nd0).h (l[j + 1]?.getD nd0).h) := by show _ = _; simp [ascAt]
      generalize l[j]?.getD nd0 = ef at r0 r1 r2 HAT
      generalize l[j + 1]?.getD nd0 = eg at s0 s1 s2 HAT
      obtain ⟨⟨pp, qq, dp⟩, parf, lkf, vlf, esf⟩ := ef
      obtain ⟨⟨p, q, d⟩, parg, lkg, vlg, esg⟩ := eg
      obtain rfl : z0 = .int .i64 pp := r0
      obtain rfl : z1 = .int .i64 qq := r1
      obtain rfl : z2 = .bool dp := r2
      obtain rfl : x0 = .int .i64 p := s0
      obtain rfl : x1 = .int .i64 q := s1
      obtain rfl : x2 = .bool d := s2
      simp only [Nat.add_zero] at u0 g0
      dsimp only at HAT
      have HBP : Hid (∀ W, _) := fun W => byPlace_any (pp, qq, dp) (p, q, d) W
      have hbp := byP_less (pp, qq, dp) (p, q, d)
      generalize byP (pp, qq, dp) (p, q, d) = bp at HBP hbp
      haveI : Nonempty (Cls wr) := Cls.ne wr
      have k0 := Cls.cell hbl g0
      have k1 := Cls.cell hbl g1
      have k2 := Cls.cell hbl g2
      have j0 := Cls.cell hbl u0
      have j1 := Cls.cell hbl u1
      have j2 := Cls.cell hbl u2
      clear hx hz g0 g1 g2 u0 u1 u2 hbl9
      have i1 : (0 : Int) ≤ (j : Int) := by omega
      have i2 : (j : Int) < (n : Int) := by omega
      cases hbl : lessH (pp, qq, dp) (p, q, d) with
      | false =>
        rw [hbl] at HAT hbp
        have HF : Hid ((List.range n).all (ascAt l) = false) := range_all_falseT _ _ (j + 1) hlt HAT.out
        have hge : (0 : Int) ≤ bp := by simpa using hbp
        have hge2 : decide ((0 : Int) ≤ bp) = true := by simpa using hge
        clear hbp HAT HA
        go_wp2
        refine wp_region_cls (by kernel_rfl) (by kernel_rfl) ?_
        repeat (go_big_quiet_step (first | (go_at_call 62; exact Calls.cls (HBP.out _))))
        refine wpQuiet_nil ?_
        rintro w' ⟨⟨w', hb'⟩, rfl⟩
        go_wp2
        go_ret
        exact ⟨by rw [HF.out]; rfl, hbel.trans (hb'.mono hbel.size)⟩
      | true =>
        rw [hbl] at HAT hbp
        have HF : Hid ((List.range (j + 1 + 1)).all (ascAt l) = true) := range_all_nextT _ _ HA.out HAT.out
        have hge : bp < 0 := by simpa using hbp
        have hge2 : decide ((0 : Int) ≤ bp) = false := by simpa using hge
        clear hbp HAT HA
        go_wp2
        refine wp_region_cls (by kernel_rfl) (by kernel_rfl) ?_
        repeat (go_big_quiet_step (first | (go_at_call 62; exact Calls.cls (HBP.out _))))
        refine wpQuiet_nil ?_
        rintro w' ⟨⟨w', hb'⟩, rfl⟩
        go_wp2
        go_roundw
        case rel => exact ⟨j + 1 + 1, by omega, by go_num, by omega, hbel.trans (hb'.mono hbel.size), HF.out⟩
        case measure => simp [intOf]; omega
    · have HF : Hid ((List.range n).all (ascAt l) = true) := by
        have := HA.out
        rw [List.all_eq_true] at this
        show _ = _
        rw [List.all_eq_true]
        exact fun i hi => this i (by simp at hi ⊢; omega)
      go_wp2
      go_ret
      exact ⟨by rw [HF.out]; rfl, hbel⟩
end
end Go.Proofs.YtnphmhobpmaebaaGreatDoor
