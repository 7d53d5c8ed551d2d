/- Joined: Bytes Nums Own Puts PutNum Steps Texts Pure Mem Dt Hands Ents Wires WBy0 PRead PRead2 GetTexts VarL RdC Ents2 RdE Tks SpecD1 Nodes2 SpecD2 SpecD3 Roots Szs SpecT1 Same Strs3 SpecT3 SpecD4 Cls SpecT5 EqH SpecD5 SpecD6 SpecD7 SpecD8 Names4 RegZ Tkz Cursor DW1 SpecT2 Draws1 SameR WOk WOk2 IC1 IC2 ImplT1 Rows0. -/
import Derived.Test.YtcicadfhfojdpaaGreatRBase
import Derived.Deep.Draws
import Derived.Deep.QuietTactic
import Derived.BigQuiet
import Derived.Laws.CopyOwn
import Derived.WalkSpells
import Derived.Laws.AppendOwnNone
import Derived.Deep.MidRow
import Derived.Laws.CopyRow
import Derived.Deep.RegionHeld3
import Derived.Deep.AppendLies
import Derived.Laws.BytesArg
import Derived.Lib.Bytes
import Derived.Maps.AppendAt
import Derived.Lib.ConvBytes
import Derived.OpenShut

namespace Go.Proofs.YtcicadfhfojdpaaGreat
open Go.RowKit
set_option linter.unusedVariables false
set_option linter.unusedSimpArgs false
set_option maxRecDepth 100000
section
theorem below_drewN2 {B : Nat} {a w : World} (h : Below B a w) (n : Nat) : Below B a (w.drewN n) := ⟨h.os, h.tape, h.output, h.size, h.block⟩
def marks (n : Nat) (k : Nat) : List Int := (List.range n).map (fun i => ((k + i : Nat) : Int) % 256)
def marked (zs : List Int) (k j : Nat) : List Int := marks j k ++ zs.drop j
end
section
def getLoop : Nat → List Int → Nat → Int → Int → Option (Int × Nat)
 | 0, _, _, _, _ => none
 | _ + 1, [], _, _, _ => none
 | f + 1, x :: r, i, n, sc =>
  if 128 ≤ x then getLoop f r (i + 1) (n + (x - 128) * sc) (sc * 128)
  else if (0 < i ∧ x = 0) ∨ 2147483647 < n + x * sc then none else some (n + x * sc, i + 1)

def getNum (zs : List Int) (p : Int) : Int × Int :=
 if p < 0 then (0, -1) else match getLoop 5 (zs.drop p.toNat) 0 0 1 with
  | none => (0, -1)
  | some (n, c) => (n, p + c)

def wt : Nat → Int
 | 0 => 1
 | 1 => 128
 | 2 => 16384
 | 3 => 2097152
 | 4 => 268435456
 | _ => 34359738368
def At (zs : List Int) (p k : Nat) (n : Int) : Prop := 0 ≤ n ∧ n ≤ wt k ∧ getLoop 5 (zs.drop p) 0 0 1 = getLoop (5 - k) (zs.drop (p + k)) k n (wt k)
def GRel (zs : List Int) (L p : Nat) (q s i : Value) : Prop :=
 ∃ (k : Nat) (n sc : Int), k ≤ 5 ∧ p + k ≤ L ∧ i = .i k ∧ q = .i n ∧ s = .i sc ∧ Hid (sc = wt k) ∧ Hid (At zs p k n)
end
section
theorem Tryz.sizeB : (Tryz.prog.info? 5).map (·.size) = some 1 := by kernel_rfl

theorem full_heap {w : World} {base : Nat} {e : TypeId} {g n : Nat} {xs : List Value} (h : w.ownsRow base e 1 (.slice (some ⟨g, 0, none⟩) n n) n xs) : w.heap[g]? = some (.cells xs.toArray e (0, 0)) := by
 rcases h.2 with ⟨hv, _⟩ | ⟨g', c, cur, hv, hg, hh, hnc, hm, hs, ht⟩
 ·cases hv
 ·simp only [Value.slice.injEq, Option.some.injEq, Addr.mk.injEq, and_true, true_and] at hv
  obtain ⟨rfl, rfl⟩ := hv
  rw [hh, ← ht, List.take_of_length_le (by simp; omega)]

theorem full_owns {w : World} {base g : Nat} {zs : List Int} {n : Nat} (hn : n = zs.length) (hg : base ≤ g) (hl : zs.length ≤ 4194304) (h : w.heap[g]? = some (.cells (bcells zs).toArray 5 (0, 0))) : Owns w base (.slice (some ⟨g, 0, none⟩) n n) zs := by
 subst hn
 exact ⟨by simp, .inr ⟨g, zs.length, _, rfl, hg, h, Nat.le_refl _, by unfold maxLen; omega, by simp, by simp [List.take_of_length_le]⟩⟩

theorem Reads.src {w : World} {a : Option Addr} {xs : List Int} (h : Reads w a xs) : 0 < (bcells xs).length → ∃ ad, a = some ad ∧ ∀ j v, (bcells xs)[j]? = some v → w.cell? (ad.add j) = some v := by
 intro h0
 rcases h.2 with rfl | ⟨b, off, rfl, hb, hc⟩
 ·simp at h0
 ·refine ⟨_, rfl, fun j v hv => ?_⟩
  have hj : j < xs.length := by
   rcases Nat.lt_or_ge j xs.length with h1 | h1
   ·exact h1
   ·rw [List.getElem?_eq_none (by simpa using h1)] at hv; cases hv
  have := hc j hj
  have e : ((⟨b, off, none⟩ : Addr).add j) = ⟨b, off + j, none⟩ := by
   by_cases h0 : j = 0
   ·subst h0; simp [Addr.add]
   ·simp [Addr.add, h0]
  rw [e, this, ← hv]
  simp [bcells, hj]

theorem bcells_one (xs : List Int) : ∀ v ∈ bcells xs, v.oneCell' = true := by
 intro v hv
 simp only [bcells, List.mem_map] at hv
 obtain ⟨x, _, rfl⟩ := hv
 rfl

theorem splice_two {α : Type} (Z X Y : List α) (k : Nat) (hk : X.length = k) (hZ : Z.length = k + Y.length) : splice (splice Z 0 X) k Y = X ++ Y := by
 subst hk
 unfold splice
 simp only [List.take_zero, List.nil_append, Nat.zero_add, List.take_left]
 rw [List.drop_append, List.drop_drop]
 have e1 : List.drop (X.length + Y.length) X = [] := List.drop_eq_nil_of_le (by omega)
 have e2 : List.drop (X.length + (X.length + Y.length - X.length)) Z = [] := List.drop_eq_nil_of_le (by omega)
 rw [e1, e2]; simp

theorem isBytes_cons {x : Int} {xs : List Int} (h0 : 0 ≤ x) (h1 : x ≤ 255) (h : isBytes xs) : isBytes (x :: xs) := by
 intro j
 cases j with
 | zero => simp; omega
 | succ j => simpa using h j

theorem Owns.base {w : World} {base b' : Nat} {v : Value} {zs : List Int} (h : Owns w base v zs) (hb : b' ≤ base) : Owns w b' v zs := by
 obtain ⟨h1, h2⟩ := h
 refine ⟨h1, ?_⟩
 rcases h2 with h2 | ⟨g, c, cur, hv, hg, r⟩
 ·exact .inl h2
 ·exact .inr ⟨g, c, cur, hv, by omega, r⟩

theorem reads_none (w : World) (a : Option Addr) : Reads w a [] := ⟨isBytes_nil, .inl rfl⟩

theorem Owns.shape {w : World} {base : Nat} {v : Value} {zs : List Int} (h : Owns w base v zs) : ∃ a cap, v = .slice a zs.length cap ∧ zs.length ≤ cap ∧ cap ≤ maxLen := by
 rcases h.2 with ⟨rfl, h0⟩ | ⟨g, c, cur, hv, hg, hh, hnc, hm, r⟩
 ·exact ⟨none, 0, by rw [h0], by omega, Nat.zero_le _⟩
 ·exact ⟨_, c, hv, hnc, hm⟩

theorem Reads.srcAt {w : World} {ad : Addr} {xs : List Int} (h : Reads w (some ad) xs) : ∀ j v, (bcells xs)[j]? = some v → w.cell? (ad.add j) = some v := by
 by_cases h0 : 0 < (bcells xs).length
 ·obtain ⟨ad', ha, hc⟩ := h.src h0
  simp only [Option.some.injEq] at ha
  subst ha
  exact hc
 ·intro j v hv
  rw [List.getElem?_eq_none (by omega)] at hv; cases hv

theorem Owns.lt {w : World} {base : Nat} {v : Value} {zs : List Int} (h : Owns w base v zs) : ∀ k, v.ownBlock = some k → base ≤ k ∧ k < w.heap.size := World.ownsRow.lt h

theorem owns_empty (w : World) : Owns (w.alloc (.cells #[] 5)) w.heap.size (.slice (some ⟨w.heap.size, 0, none⟩) 0 0) [] := World.ownsRow_lit w #[] 0 (Nat.le_refl _) (Nat.zero_le _) rfl

def Before (v : Value) (b : Nat) : Prop := ∀ k, v.ownBlock = some k → k < b

def From (v : Value) (b : Nat) : Prop := ∀ k, v.ownBlock = some k → b ≤ k

theorem apart {v u : Value} {b : Nat} (h : Before v b) (g : From u b) : ∀ k, v.ownBlock = some k → u.ownBlock ≠ some k := fun k hk e => by have := h k hk; have := g k e; omega
end
section
set_option maxHeartbeats 1000000 in
theorem joined_any (a b : Option Addr) (xs ys : List Int) (ca cb : Nat) (w : World) (hx : Reads w a xs) (hy : Reads w b ys) (hl : xs.length ≤ 2097152) (hm : ys.length ≤ 2097152) :
  Calls Tryz.prog 113 #[.slice a xs.length ca, .slice b ys.length cb] w fun e w' => e = .returned (.slice (some ⟨w.heap.size, 0, none⟩) (xs ++ ys).length (xs ++ ys).length) ∧
   Owns w' w.heap.size (.slice (some ⟨w.heap.size, 0, none⟩) (xs ++ ys).length (xs ++ ys).length) (xs ++ ys) ∧ Below w.heap.size w w' ∧ w.heap.size < w'.heap.size := by
 obtain ⟨i0, hi, hz0, hz1, hz2⟩ := info_parts Tryz.infoB
 obtain ⟨m, hm'⟩ : ∃ m, xs.length = m := ⟨_, rfl⟩
 obtain ⟨n, hn'⟩ : ∃ n, ys.length = n := ⟨_, rfl⟩
 have HM : Hid (xs.length = m) := hm'
 have HN : Hid (ys.length = n) := hn'
 rw [List.length_append, hm', hn']
 rw [hm'] at hl
 rw [hn'] at hm
 obtain ⟨X, HX⟩ : ∃ X, Hid (X = bcells xs) := ⟨_, rfl⟩
 obtain ⟨Y, HY⟩ : ∃ Y, Hid (Y = bcells ys) := ⟨_, rfl⟩
 have hXl : X.length = m := by rw [HX.out, bcells_length]; exact hm'
 have hYl : Y.length = n := by rw [HY.out, bcells_length]; exact hn'
 obtain ⟨Z, HZ⟩ : ∃ Z, Hid (Z = bcells (List.replicate (m + n) 0)) := ⟨_, rfl⟩
 have hZl : Z.length = m + n := by rw [HZ.out]; simp
 have hsl : (splice Z 0 X).length = m + n := by rw [length_splice _ _ _ (by omega), hZl]
 have HFIN : Hid (splice (splice Z 0 X) m Y = bcells (xs ++ ys)) := by
  show _ = _
  rw [splice_two Z X Y m hXl (by omega), HX.out, HY.out]; simp [bcells]
 have HX1 : Hid (∀ v ∈ X, v.oneCell' = true) := by show ∀ v ∈ X, v.oneCell' = true; rw [HX.out]; exact bcells_one xs
 have HY1 : Hid (∀ v ∈ Y, v.oneCell' = true) := by show ∀ v ∈ Y, v.oneCell' = true; rw [HY.out]; exact bcells_one ys
 have hXm : X.length = Nat.min m (m + n) := by rw [hXl]; exact (Nat.min_eq_left (by omega)).symm
 have hYm : Y.length = Nat.min n n := by rw [hYl]; exact (Nat.min_self n).symm
 clear hm' hn'
 go_enter Tryz.func113, Tryz.ntmps113
 go_wp2_with (first
  | (at_make; refine wpList_make_full _ rfl _ _ 22 rfl w.heap.size 5 i0 (.int .u8 0) 1 Tryz.underlying22 hi hz0 hz1 .i64 .i64 _ _ (m + n) rfl rfl (by omega) (by omega) (by rw [hz2]; omega) (by unfold maxLen; omega) (Nat.le_refl _) ?_; intro w1 hown hgrow; have hb1 : Below w.heap.size w w1 := (Below.refl _ _).grown hgrow (Nat.le_refl _) (fun k h => by cases h); have hs1 : w.heap.size < w1.heap.size := (hown.lt _ rfl).2; rw [madeCells_bytes, ← HZ.out] at hown; have HG1 : Hid _ := full_heap hown; clear hown hgrow)
  | (refine wpList_copy_splice rfl (.tmp 12) (.tmp 13) 22 22 rfl 5 Tryz.underlying22 Tryz.sizeB _ _ _ _ _ _ rfl rfl w.heap.size 0 Z 5 HG1.out X hXm (fun h0 => ⟨rfl, by rw [HX.out] at h0 ⊢; exact (hx.below hb1).src h0⟩) (by omega) HX1.out w.heap.size w hb1 (Nat.le_refl _) ?_; intro w2 HG2 hb2)
  | (refine wpList_copy_splice rfl (.tmp 18) (.tmp 19) 22 22 rfl 5 Tryz.underlying22 Tryz.sizeB _ _ _ _ _ _ rfl rfl w.heap.size m (splice Z 0 X) 5 HG2.out Y (by rw [hYl]; simp <;> omega) (fun h0 => ⟨by simp <;> omega, by rw [HY.out] at h0 ⊢; exact (hy.below hb2).src h0⟩) (by omega) HY1.out w.heap.size w hb2 (Nat.le_refl _) ?_; intro w3 HG3 hb3))
 all_goals
  go_ret
  have hg3 := HG3.out
  rw [HFIN.out] at hg3
  exact ⟨rfl, full_owns (by have := HM.out; have := HN.out; rw [List.length_append]; omega) (Nat.le_refl _) (by rw [List.length_append, HM.out, HN.out]; omega) hg3, hb3, lt_of_block hg3⟩

def numB : Nat → Int → List Int
 | 0, n => [n]
 | f + 1, n => if n < 128 then [n] else (n % 128 + 128) :: numB f (n / 128)

def putB (n : Int) : List Int := if n < 0 ∨ 2147483647 < n then [] else numB 4 n
end
section
def SRel (xs : List Int) (n : Int) (w : World) (o q : Value) (wr : World) : Prop :=
 ∃ (f : Nat) (m : Int) (pre : List Int), f ≤ 4 ∧ 0 ≤ m ∧ m < wt (f + 1) ∧ q = .i m ∧ pre.length + f = 4 ∧ numB 4 n = pre ++ numB f m ∧ Owns wr w.heap.size o (xs ++ pre) ∧ Below w.heap.size w wr
end
section
set_option maxRecDepth 100000
end
section
def textB (t : List Int) : List Int := if 40 < t.length then [] else putB t.length ++ t
def getText (zs : List Int) (p : Int) : List Int × Int :=
 if (getNum zs p).2 < 0 ∨ 40 < (getNum zs p).1 ∨ (zs.length : Int) - (getNum zs p).2 < (getNum zs p).1 then ([], -1)
 else ((zs.drop (getNum zs p).2.toNat).take (getNum zs p).1.toNat, (getNum zs p).2 + (getNum zs p).1)
end
section
set_option linter.unusedVariables false
end
section
structure Turns (lo hi : Nat) (w w' : World) : Prop where
 os : w'.os = w.os
 tape : w'.tape = w.tape
 output : w'.output = w.output
 size : w.heap.size ≤ w'.heap.size
 block : ∀ k, k < w.heap.size → (k < lo ∨ hi ≤ k) → w'.heap[k]? = w.heap[k]?
def SameIn (l h : Nat) (w w' : World) : Prop := w.heap.size ≤ w'.heap.size ∧ ∀ k, l ≤ k → k < h → w'.heap[k]? = w.heap[k]?
def Headed (a : Option Addr) (len cap : Nat) : Prop := len ≤ cap ∧ cap ≤ maxLen ∧ (a = none → len = 0 ∧ cap = 0)

def RdB (w : World) (l h : Nat) (v : Value) (zs : List Int) : Prop :=
 isBytes zs ∧ ∃ a len cap, v = .slice a len cap ∧ len = zs.length ∧ Headed a len cap ∧
  (zs = [] ∨ ∃ b off, a = some ⟨b, off, none⟩ ∧ l ≤ b ∧ b < h ∧ ∀ i, i < zs.length → w.cell? ⟨b, off + i, none⟩ = some (.int .u8 (zs[i]?.getD 0)))
def OwB (w : World) (l h : Nat) (v : Value) (zs : List Int) : Prop := isBytes zs ∧ Owns w l v zs ∧ Before v h
def RdBB (w : World) (l h : Nat) (v : Value) (zss : List (List Int)) : Prop :=
 ∃ a len cap, ∃ vs : Nat → Value, v = .slice a len cap ∧ len = zss.length ∧ Headed a len cap ∧
  (len = 0 ∨ ∃ b off, a = some ⟨b, off, none⟩ ∧ l ≤ b ∧ b < h ∧ ∀ i, i < len → w.cell? ⟨b, off + i, none⟩ = some (vs i)) ∧ ∀ i, i < len → RdB w l h (vs i) (zss[i]?.getD [])
def OwBB (w : World) (l h : Nat) (v : Value) (zss : List (List Int)) : Prop :=
 ∃ vs : List Value, vs.length = zss.length ∧ w.ownsRow l 22 1 v vs.length vs ∧ Before v h ∧ (∀ i, i < vs.length → OwB w l h (vs[i]?.getD undef) (zss[i]?.getD [])) ∧
  ∀ i j k, i < j → j < vs.length → (vs[i]?.getD undef).ownBlock = some k → (vs[j]?.getD undef).ownBlock ≠ some k
end
section
def Keeps (S : Nat → Prop) (w w' : World) : Prop := w.heap.size ≤ w'.heap.size ∧ ∀ b, S b → b < w.heap.size → w'.heap[b]? = w.heap[b]?
structure Turned (S : Nat → Prop) (w w' : World) : Prop where
 os : w'.os = w.os
 tape : w'.tape = w.tape
 output : w'.output = w.output
 size : w.heap.size ≤ w'.heap.size
 block : ∀ k, k < w.heap.size → ¬ S k → w'.heap[k]? = w.heap[k]?
theorem Turned.refl (S : Nat → Prop) (w : World) : Turned S w w := ⟨rfl, rfl, rfl, Nat.le_refl _, fun _ _ _ => rfl⟩
theorem Turned.trans {S : Nat → Prop} {a b c : World} (h : Turned S a b) (k : Turned S b c) : Turned S a c :=
 ⟨k.os.trans h.os, k.tape.trans h.tape, k.output.trans h.output, Nat.le_trans h.size k.size, fun i hi hr => (k.block i (Nat.lt_of_lt_of_le hi h.size) hr).trans (h.block i hi hr)⟩
theorem Turned.wide {S S' : Nat → Prop} {a b : World} (h : Turned S a b) (hs : ∀ k, S k → S' k) : Turned S' a b := ⟨h.os, h.tape, h.output, h.size, fun i hi hr => h.block i hi (fun e => hr (hs i e))⟩
theorem Turned.ofBelow {S : Nat → Prop} {a b : World} (h : Below a.heap.size a b) : Turned S a b := ⟨h.os, h.tape, h.output, h.size, fun i hi _ => h.block i hi⟩
theorem Turned.ofGrown {S : Nat → Prop} {a b : World} {r : Option Nat} (h : a.grownBy b r) (hr : ∀ k, r = some k → S k) : Turned S a b := ⟨h.os, h.tape, h.output, h.size, fun i hi ho => h.block i hi (fun e => ho (hr i e.symm))⟩
theorem Turned.set {S : Nat → Prop} {a b : World} (h : Turned S a b) (p : Addr) (u : Value) (hp : S p.block) : Turned S a (b.setCell p u) :=
 h.trans ⟨rfl, rfl, rfl, by simp, fun k _ hr => heap_setCell_other b p k u (fun e => hr (e ▸ hp))⟩
theorem Turned.alloc {S : Nat → Prop} {a b : World} (h : Turned S a b) (o : Obj) : Turned S a (b.alloc o) := h.trans (Turned.ofBelow ((Below.refl _ _).alloc (Nat.le_refl _) _))
theorem Turned.andThen {S : Nat → Prop} {a b c : World} (h : Turned S a b) (hb : Below b.heap.size b c) : Turned S a c := h.trans (Turned.ofBelow hb)
theorem Turned.below {S : Nat → Prop} {B : Nat} {a b c : World} (h : Below B a b) (k : Turned S b c) (hB : B ≤ b.heap.size) (hl : ∀ i, S i → B ≤ i) : Below B a c :=
 h.trans ⟨k.os, k.tape, k.output, k.size, fun i hi => k.block i (by omega) (fun e => by have := hl i e; omega)⟩
theorem Turned.keeps {S T : Nat → Prop} {a b : World} (h : Turned S a b) (hd : ∀ k, T k → ¬ S k) : Keeps T a b := ⟨h.size, fun k hk hlt => h.block k hlt (hd k hk)⟩
theorem Keeps.ofBelow {S : Nat → Prop} {a b : World} (h : Below a.heap.size a b) : Keeps S a b := ⟨h.size, fun k _ hlt => h.block k hlt⟩
theorem Keeps.mono {S T : Nat → Prop} {a b : World} (h : Keeps S a b) (hs : ∀ k, T k → S k) : Keeps T a b := ⟨h.1, fun k hk hlt => h.2 k (hs k hk) hlt⟩

def RdS (w : World) (S : Nat → Prop) (v : Value) (zs : List Int) : Prop :=
 isBytes zs ∧ ∃ a len cap, v = .slice a len cap ∧ len = zs.length ∧ Headed a len cap ∧
  (zs = [] ∨ ∃ b off, a = some ⟨b, off, none⟩ ∧ S b ∧ b < w.heap.size ∧ (∃ cur p, w.heap[b]? = some (.cells cur 5 p)) ∧ ∀ i, i < zs.length → w.cell? ⟨b, off + i, none⟩ = some (.int .u8 (zs[i]?.getD 0)))
theorem RdS.keep {w w' : World} {S : Nat → Prop} {v : Value} {zs : List Int} (r : RdS w S v zs) (t : Keeps S w w') : RdS w' S v zs := by
 obtain ⟨hb, a, len, cap, hv, hl, hh, hc⟩ := r
 refine ⟨hb, a, len, cap, hv, hl, hh, ?_⟩
 rcases hc with h0 | ⟨b, off, ha, h1, h2, hty, hc⟩
 ·exact .inl h0
 ·exact .inr ⟨b, off, ha, h1, Nat.lt_of_lt_of_le h2 t.1, by rw [t.2 b h1 h2]; exact hty, fun i hi => by rw [World.cell?_of_block (w := w) (t.2 b h1 h2)]; exact hc i hi⟩
theorem RdS.mono {w : World} {S S' : Nat → Prop} {v : Value} {zs : List Int} (r : RdS w S v zs) (t : ∀ b, S b → S' b) : RdS w S' v zs := by
 obtain ⟨hb, a, len, cap, hv, hl, hh, hc⟩ := r
 refine ⟨hb, a, len, cap, hv, hl, hh, ?_⟩
 rcases hc with h0 | ⟨b, off, ha, h1, h2, hty, hc⟩
 ·exact .inl h0
 ·exact .inr ⟨b, off, ha, t b h1, h2, hty, hc⟩
theorem RdS.reads {w : World} {S : Nat → Prop} {v : Value} {zs : List Int} (r : RdS w S v zs) : ∃ a cap, v = .slice a zs.length cap ∧ Headed a zs.length cap ∧ Reads w a zs := by
 obtain ⟨hb, a, len, cap, hv, hl, hh, hc⟩ := r
 subst hl
 refine ⟨a, cap, hv, hh, hb, ?_⟩
 rcases hc with h0 | ⟨b, off, ha, h3, h4, hty, hc⟩
 ·exact .inl h0
 ·exact .inr ⟨b, off, ha, h4, hc⟩
theorem ownsRow_base {w : World} {l : Nat} {e : TypeId} {size : Nat} {v : Value} {n : Nat} {xs : List Value} (o : w.ownsRow l e size v n xs) : w.ownsRow 0 e size v n xs :=
 ⟨o.1, o.2.imp id (fun ⟨g, c, cur, hv, _, r⟩ => ⟨g, c, cur, hv, Nat.zero_le _, r⟩)⟩
theorem ownsRow_keep {w w' : World} {l : Nat} {S : Nat → Prop} {e : TypeId} {size : Nat} {v : Value} {n : Nat} {xs : List Value} (o : w.ownsRow l e size v n xs) (hb : ∀ b, v.ownBlock = some b → S b) (t : Keeps S w w') : w'.ownsRow l e size v n xs := by
 obtain ⟨h1, h2⟩ := o
 refine ⟨h1, ?_⟩
 rcases h2 with h2 | ⟨g, c, cur, hv, hg, hh, r⟩
 ·exact .inl h2
 ·exact .inr ⟨g, c, cur, hv, hg, by rw [t.2 g (hb g (by rw [hv]; rfl)) (lt_of_block hh)]; exact hh, r⟩
theorem rdS_of_owns {w : World} {S : Nat → Prop} {v : Value} {zs : List Int} (hz : isBytes zs) (ho : Owns w 0 v zs) (hs : ∀ b, v.ownBlock = some b → S b) : RdS w S v zs := by
 obtain ⟨a, cap, rfl, h1, h2⟩ := ho.shape
 refine ⟨hz, a, _, cap, rfl, rfl, ⟨h1, h2, ?_⟩, ?_⟩
 ·rintro rfl
  rcases ho.2 with ⟨hv, h0⟩ | ⟨g, c, cur, hv, _⟩
  ·simp only [Value.slice.injEq, true_and] at hv; omega
  ·cases hv
 ·rcases (ho.reads hz).2.2 with h0 | ⟨b, off, ha, hb, hc⟩
  ·exact .inl h0
  ·subst ha
   refine .inr ⟨b, off, rfl, hs b rfl, hb, ?_, hc⟩
   rcases ho.2 with ⟨hv, h0⟩ | ⟨g, c, cur, hv, _, hh, _⟩
   ·cases hv
   ·simp only [Value.slice.injEq, Option.some.injEq, Addr.mk.injEq] at hv
    rw [hv.1.1]; exact ⟨cur, _, hh⟩
theorem place_inj {k i j i' j' : Nat} (hj : j < k) (hj' : j' < k) (h : i * k + j = i' * k + j') : i = i' ∧ j = j' := by
 have h1 : (i * k + j) / k = i := by rw [Nat.add_comm, Nat.mul_comm, Nat.add_mul_div_left _ _ (by omega), Nat.div_eq_of_lt hj]; omega
 have h2 : (i' * k + j') / k = i' := by rw [Nat.add_comm, Nat.mul_comm, Nat.add_mul_div_left _ _ (by omega), Nat.div_eq_of_lt hj']; omega
 have h3 : i = i' := by rw [← h1, ← h2, h]
 subst h3
 exact ⟨rfl, by omega⟩
theorem place_lt {k n i j : Nat} (hi : i < n) (hj : j < k) : i * k + j < n * k := by
 have : (i + 1) * k ≤ n * k := Nat.mul_le_mul_right k hi
 rw [Nat.add_mul, Nat.one_mul] at this
 omega

structure Dt where
 rd : World → (Nat → Prop) → Value → Prop
 ow : World → (Nat → Prop) → Value → Prop
 rdKeep : ∀ (w w' : World) (S : Nat → Prop) (v : Value), Keeps S w w' → rd w S v → rd w' S v
 rdMono : ∀ (w : World) (S S' : Nat → Prop) (v : Value), (∀ b, S b → S' b) → rd w S v → rd w S' v
 owKeep : ∀ (w w' : World) (S : Nat → Prop) (v : Value), Keeps S w w' → ow w S v → ow w' S v
 owMono : ∀ (w : World) (S S' : Nat → Prop) (v : Value), (∀ b, S b → S' b) → ow w S v → ow w S' v
 owRd : ∀ (w : World) (S : Nat → Prop) (v : Value), ow w S v → rd w S v
def RdV (w : World) (S : Nat → Prop) (v : Value) (d : Dt) : Prop := d.rd w S v
def OwV (w : World) (S : Nat → Prop) (v : Value) (d : Dt) : Prop := d.ow w S v
def Dt.int (n : Int) : Dt := ⟨fun _ _ v => v = .i n, fun _ _ v => v = .i n, fun _ _ _ _ _ h => h, fun _ _ _ _ _ h => h, fun _ _ _ _ _ h => h, fun _ _ _ _ _ h => h, fun _ _ _ h => h⟩
def Dt.bool (b : Bool) : Dt := ⟨fun _ _ v => v = .bool b, fun _ _ v => v = .bool b, fun _ _ _ _ _ h => h, fun _ _ _ _ _ h => h, fun _ _ _ _ _ h => h, fun _ _ _ _ _ h => h, fun _ _ _ h => h⟩
def Dt.bytes (zs : List Int) : Dt := ⟨fun w S v => RdS w S v zs, fun w S v => isBytes zs ∧ Owns w 0 v zs ∧ ∀ b, v.ownBlock = some b → S b,
 fun _ _ _ _ t h => h.keep t, fun _ _ _ _ t h => h.mono t, fun _ _ _ _ t h => ⟨h.1, ownsRow_keep h.2.1 h.2.2 t, h.2.2⟩, fun _ _ _ _ t h => ⟨h.1, h.2.1, fun b hb => t b (h.2.2 b hb)⟩, fun _ _ _ h => rdS_of_owns h.1 h.2.1 h.2.2⟩
def RowsRd (k n : Nat) (f : Nat → Nat → Dt) (w : World) (S : Nat → Prop) (v : Value) : Prop :=
 ∃ a cap, ∃ V : Nat → Nat → Value, v = .slice a n cap ∧ Headed a n cap ∧
  (n = 0 ∨ ∃ b off, a = some ⟨b, off, none⟩ ∧ S b ∧ b < w.heap.size ∧ ∀ i j, i < n → j < k → w.cell? ⟨b, off + (i * k + j), none⟩ = some (V i j)) ∧ ∀ i j, i < n → j < k → RdV w S (V i j) (f i j)
def RowsOw (t : TypeId) (k n : Nat) (f : Nat → Nat → Dt) (w : World) (S : Nat → Prop) (v : Value) : Prop :=
 ∃ (V : Nat → Nat → Value) (C : List Value) (Q : Nat → Nat → Nat → Prop), w.ownsRow 0 t k v n C ∧ (∀ b, v.ownBlock = some b → S b) ∧
   (∀ i j, i < n → j < k → C[i * k + j]? = some (V i j)) ∧ (∀ i j, i < n → j < k → OwV w (Q i j) (V i j) (f i j)) ∧ (∀ i j b, i < n → j < k → Q i j b → S b ∧ v.ownBlock ≠ some b) ∧
   (∀ i j i' j' b, i < n → j < k → i' < n → j' < k → Q i j b → Q i' j' b → i = i' ∧ j = j')
theorem RowsRd.keep {k n : Nat} {f : Nat → Nat → Dt} (w w' : World) (S : Nat → Prop) (v : Value) (t : Keeps S w w') (r : RowsRd k n f w S v) : RowsRd k n f w' S v := by
 obtain ⟨a, cap, V, hv, hh, hc, he⟩ := r
 refine ⟨a, cap, V, hv, hh, ?_, fun i j hi hj => (f i j).rdKeep w w' S _ t (he i j hi hj)⟩
 rcases hc with h0 | ⟨b, off, ha, h1, h2, hc⟩
 ·exact .inl h0
 ·exact .inr ⟨b, off, ha, h1, Nat.lt_of_lt_of_le h2 t.1, fun i j hi hj => by rw [World.cell?_of_block (w := w) (t.2 b h1 h2)]; exact hc i j hi hj⟩
theorem RowsRd.mono {k n : Nat} {f : Nat → Nat → Dt} (w : World) (S S' : Nat → Prop) (v : Value) (t : ∀ b, S b → S' b) (r : RowsRd k n f w S v) : RowsRd k n f w S' v := by
 obtain ⟨a, cap, V, hv, hh, hc, he⟩ := r
 refine ⟨a, cap, V, hv, hh, ?_, fun i j hi hj => (f i j).rdMono w S S' _ t (he i j hi hj)⟩
 rcases hc with h0 | ⟨b, off, ha, h1, h2, hc⟩
 ·exact .inl h0
 ·exact .inr ⟨b, off, ha, t b h1, h2, hc⟩
theorem RowsOw.keep {t : TypeId} {k n : Nat} {f : Nat → Nat → Dt} (w w' : World) (S : Nat → Prop) (v : Value) (hk : Keeps S w w') (r : RowsOw t k n f w S v) : RowsOw t k n f w' S v := by
 obtain ⟨V, C, Q, h1, h2, h3, h4, h5, h6⟩ := r
 exact ⟨V, C, Q, ownsRow_keep h1 h2 hk, h2, h3, fun i j hi hj => (f i j).owKeep w w' _ _ (hk.mono (fun b hb => (h5 i j b hi hj hb).1)) (h4 i j hi hj), h5, h6⟩
theorem RowsOw.mono {t : TypeId} {k n : Nat} {f : Nat → Nat → Dt} (w : World) (S S' : Nat → Prop) (v : Value) (hs : ∀ b, S b → S' b) (r : RowsOw t k n f w S v) : RowsOw t k n f w S' v := by
 obtain ⟨V, C, Q, h1, h2, h3, h4, h5, h6⟩ := r
 exact ⟨V, C, Q, h1, fun b hb => hs b (h2 b hb), h3, h4, fun i j b hi hj hq => ⟨hs b (h5 i j b hi hj hq).1, (h5 i j b hi hj hq).2⟩, h6⟩
theorem RowsOw.rd {t : TypeId} {k n : Nat} {f : Nat → Nat → Dt} (w : World) (S : Nat → Prop) (v : Value) (r : RowsOw t k n f w S v) : RowsRd k n f w S v := by
 obtain ⟨V, C, Q, h1, h2, h3, h4, h5, h6⟩ := r
 rcases h1.2 with ⟨hv, h0⟩ | ⟨g, c, cur, hv, hg, hh, hnc, hm, _⟩
 ·subst hv
  subst h0
  exact ⟨none, 0, V, rfl, ⟨Nat.le_refl _, Nat.zero_le _, fun _ => ⟨rfl, rfl⟩⟩, .inl rfl, fun i j hi => absurd hi (Nat.not_lt_zero _)⟩
 ·subst hv
  refine ⟨_, c, V, rfl, ⟨hnc, hm, fun e => by cases e⟩, .inr ⟨g, 0, rfl, h2 g rfl, lt_of_block hh, fun i j hi hj => ?_⟩, fun i j hi hj => (f i j).rdMono w _ S _ (fun b hb => (h5 i j b hi hj hb).1) ((f i j).owRd w _ _ (h4 i j hi hj))⟩
  rw [Nat.zero_add, World.ownsRow.cellAt h1 (i * k + j) (place_lt hi hj)]
  exact h3 i j hi hj
def Dt.rows (t : TypeId) (k n : Nat) (f : Nat → Nat → Dt) : Dt := ⟨RowsRd k n f, RowsOw t k n f, RowsRd.keep, RowsRd.mono, RowsOw.keep, RowsOw.mono, RowsOw.rd⟩
theorem RdV.keep {w w' : World} {S : Nat → Prop} {v : Value} {d : Dt} (t : Keeps S w w') (r : RdV w S v d) : RdV w' S v d := d.rdKeep w w' S v t r
theorem RdV.mono {w : World} {S S' : Nat → Prop} {v : Value} {d : Dt} (t : ∀ b, S b → S' b) (r : RdV w S v d) : RdV w S' v d := d.rdMono w S S' v t r
theorem RdV.step {w w' : World} {S : Nat → Prop} {v : Value} {d : Dt} (r : RdV w S v d) (hb : Below w.heap.size w w') : RdV w' S v d := r.keep (Keeps.ofBelow hb)
theorem RdV.b {w : World} {S : Nat → Prop} {v : Value} {zs : List Int} (r : RdV w S v (.bytes zs)) : RdS w S v zs := r
theorem RdV.sliceB {w : World} {S : Nat → Prop} {v : Value} {zs : List Int} (r : RdV w S v (.bytes zs)) : ∃ a cap, v = .slice a zs.length cap := by obtain ⟨a, cap, h, _⟩ := r.b.reads; exact ⟨a, cap, h⟩
theorem RdV.inv {w : World} {S : Nat → Prop} {v : Value} {t : TypeId} {k n : Nat} {f : Nat → Nat → Dt} (r : RdV w S v (.rows t k n f)) : RowsRd k n f w S v := r
theorem RdV.mkRows {w : World} {S : Nat → Prop} {v : Value} {k n : Nat} {f : Nat → Nat → Dt} (t : TypeId) (r : RowsRd k n f w S v) : RdV w S v (.rows t k n f) := r
theorem RdV.at {w : World} {S : Nat → Prop} {a : Option Addr} {n cap : Nat} {t : TypeId} {k : Nat} {f : Nat → Nat → Dt} (r : RdV w S (.slice a n cap) (.rows t k n f)) {i : Nat} (hi : i < n) :
  ∃ b off, a = some ⟨b, off, none⟩ ∧ b < w.heap.size ∧ S b ∧ ∀ j, j < k → ∃ x, w.cell? ⟨b, off + i * k + j, none⟩ = some x ∧ RdV w S x (f i j) := by
 obtain ⟨a', cap', V, hv, hh, hc, he⟩ := r.inv
 simp only [Value.slice.injEq] at hv
 obtain ⟨rfl, _, rfl⟩ := hv
 rcases hc with h0 | ⟨b, off, ha, h1, h2, hc⟩
 ·omega
 ·exact ⟨b, off, ha, h2, h1, fun j hj => ⟨V i j, by rw [Nat.add_assoc]; exact hc i j hi hj, he i j hi hj⟩⟩
theorem RdV.sliced {w : World} {S : Nat → Prop} {v : Value} {t : TypeId} {k n : Nat} {f : Nat → Nat → Dt} (r : RdV w S v (.rows t k n f)) : ∃ a cap, v = .slice a n cap ∧ n ≤ maxLen := by
 obtain ⟨a, cap, V, hv, hh, _⟩ := r.inv
 exact ⟨a, cap, hv, Nat.le_trans hh.1 hh.2.1⟩
theorem OwV.inv {w : World} {S : Nat → Prop} {v : Value} {t : TypeId} {k n : Nat} {f : Nat → Nat → Dt} (r : OwV w S v (.rows t k n f)) : RowsOw t k n f w S v := r
theorem OwV.mkRows {w : World} {S : Nat → Prop} {v : Value} {t : TypeId} {k n : Nat} {f : Nat → Nat → Dt} (r : RowsOw t k n f w S v) : OwV w S v (.rows t k n f) := r
theorem OwV.mono {w : World} {S S' : Nat → Prop} {v : Value} {d : Dt} (t : ∀ b, S b → S' b) (r : OwV w S v d) : OwV w S' v d := d.owMono w S S' v t r
theorem OwV.rd {w : World} {S : Nat → Prop} {v : Value} {d : Dt} (r : OwV w S v d) : RdV w S v d := d.owRd w S v r
theorem OwV.keep {w w' : World} {S : Nat → Prop} {v : Value} {d : Dt} (t : Keeps S w w') (r : OwV w S v d) : OwV w' S v d := d.owKeep w w' S v t r
theorem OwV.step {w w' : World} {S : Nat → Prop} {v : Value} {d : Dt} (r : OwV w S v d) (hb : Below w.heap.size w w') : OwV w' S v d := r.keep (Keeps.ofBelow hb)
theorem RdV.int {w : World} {S : Nat → Prop} (n : Int) : RdV w S (.i n) (.int n) := rfl
theorem RdV.bool {w : World} {S : Nat → Prop} (b : Bool) : RdV w S (.bool b) (.bool b) := rfl
theorem OwV.nilB (w : World) (S : Nat → Prop) : OwV w S (.n0) (.bytes []) := ⟨isBytes_nil, World.ownsRow_nil _ _ _ _, fun b hb => by cases hb⟩
theorem OwV.nilR (w : World) (S : Nat → Prop) (t : TypeId) (k : Nat) (f : Nat → Nat → Dt) : OwV w S (.n0) (.rows t k 0 f) :=
 ⟨fun _ _ => undef, [], fun _ _ _ => False, World.ownsRow_nil _ _ _ _, fun b hb => (by cases hb), fun i j hi => absurd hi (Nat.not_lt_zero _), fun i j hi => absurd hi (Nat.not_lt_zero _), fun i j b hi => absurd hi (Nat.not_lt_zero _), fun i j i' j' b hi => absurd hi (Nat.not_lt_zero _)⟩
theorem OwV.ofOwns {w : World} {B : Nat} {v : Value} {zs : List Int} (hz : isBytes zs) (h : Owns w B v zs) : OwV w (fun b => B ≤ b ∧ b < w.heap.size) v (.bytes zs) := ⟨hz, h.base (Nat.zero_le _), fun b hb => h.lt b hb⟩

def upd (f : Nat → Nat → Dt) (i j : Nat) (d : Dt) : Nat → Nat → Dt := fun i' j' => if i' = i ∧ j' = j then d else f i' j'
def VarA (w : World) (b : Nat) (T : TypeId) (cs : Array Value) : Prop := w.heap[b]? = some (.cells cs T (0, 0))
section
variable {w w' : World} {b : Nat} {T : TypeId} {cs : Array Value}
theorem VarA.c (h : VarA w b T cs) (j : Nat) {u : Value} (hu : cs[j]? = some u) : w.cell? ⟨b, j, none⟩ = some u := by rw [cell_of_row _ _ _ _ _ _ h]; exact hu
theorem VarA.f (h : VarA w b T cs) (j : Nat) : w.frozen? ⟨b, j, none⟩ = false := frozen_of_row _ _ _ _ _ h
theorem VarA.lt (h : VarA w b T cs) : b < w.heap.size := lt_of_block h
theorem VarA.step (h : VarA w b T cs) (hb : Below w.heap.size w w') : VarA w' b T cs := (hb.block b h.lt).trans h
theorem VarA.turn {S : Nat → Prop} (h : VarA w b T cs) (t : Turned S w w') (ho : ¬ S b) : VarA w' b T cs := (t.block b h.lt ho).trans h
theorem VarA.new (w : World) (T : TypeId) (cs : Array Value) : VarA (w.alloc (.cells cs T)) w.heap.size T cs := heap_alloc_new w _
theorem VarA.set (h : VarA w b T cs) (j : Nat) (u : Value) : VarA (w.setCell ⟨b, j, none⟩ u) b T (cs.setIfInBounds j u) := heap_setCell_same w b j cs T u h
theorem VarA.aside (h : VarA w b T cs) {p : Addr} (hp : b ≠ p.block) (u : Value) : VarA (w.setCell p u) b T cs := (heap_setCell_other w p b u hp).trans h
theorem VarA.l1 {x0 : Value} (h : VarA w b T #[x0]) : w.cell? ⟨b, 0, none⟩ = some x0 := h.c 0 rfl
theorem VarA.l3 {x0 x1 x2 : Value} (h : VarA w b T #[x0, x1, x2]) : w.cell? ⟨b, 0, none⟩ = some x0 ∧ w.cell? ⟨b, 1, none⟩ = some x1 ∧ w.cell? ⟨b, 2, none⟩ = some x2 := ⟨h.c 0 rfl, h.c 1 rfl, h.c 2 rfl⟩
theorem VarA.l4 {x0 x1 x2 x3 : Value} (h : VarA w b T #[x0, x1, x2, x3]) : w.cell? ⟨b, 0, none⟩ = some x0 ∧ w.cell? ⟨b, 1, none⟩ = some x1 ∧ w.cell? ⟨b, 2, none⟩ = some x2 ∧ w.cell? ⟨b, 3, none⟩ = some x3 := ⟨h.c 0 rfl, h.c 1 rfl, h.c 2 rfl, h.c 3 rfl⟩
theorem VarA.l9 {x0 x1 x2 x3 x4 x5 x6 x7 x8 : Value} (h : VarA w b T #[x0, x1, x2, x3, x4, x5, x6, x7, x8]) : w.cell? ⟨b, 0, none⟩ = some x0 ∧ w.cell? ⟨b, 1, none⟩ = some x1 ∧ w.cell? ⟨b, 2, none⟩ = some x2 ∧ w.cell? ⟨b, 3, none⟩ = some x3 ∧ w.cell? ⟨b, 4, none⟩ = some x4 ∧ w.cell? ⟨b, 5, none⟩ = some x5 ∧ w.cell? ⟨b, 6, none⟩ = some x6 ∧ w.cell? ⟨b, 7, none⟩ = some x7 ∧ w.cell? ⟨b, 8, none⟩ = some x8 := ⟨h.c 0 rfl, h.c 1 rfl, h.c 2 rfl, h.c 3 rfl, h.c 4 rfl, h.c 5 rfl, h.c 6 rfl, h.c 7 rfl, h.c 8 rfl⟩
theorem VarA.l10 {x0 x1 x2 x3 x4 x5 x6 x7 x8 x9 : Value} (h : VarA w b T #[x0, x1, x2, x3, x4, x5, x6, x7, x8, x9]) : w.cell? ⟨b, 0, none⟩ = some x0 ∧ w.cell? ⟨b, 1, none⟩ = some x1 ∧ w.cell? ⟨b, 2, none⟩ = some x2 ∧ w.cell? ⟨b, 3, none⟩ = some x3 ∧ w.cell? ⟨b, 4, none⟩ = some x4 ∧ w.cell? ⟨b, 5, none⟩ = some x5 ∧ w.cell? ⟨b, 6, none⟩ = some x6 ∧ w.cell? ⟨b, 7, none⟩ = some x7 ∧ w.cell? ⟨b, 8, none⟩ = some x8 ∧ w.cell? ⟨b, 9, none⟩ = some x9 := ⟨h.c 0 rfl, h.c 1 rfl, h.c 2 rfl, h.c 3 rfl, h.c 4 rfl, h.c 5 rfl, h.c 6 rfl, h.c 7 rfl, h.c 8 rfl, h.c 9 rfl⟩
theorem VarA.fz (h : VarA w b T cs) : ∀ j, w.frozen? ⟨b, j, none⟩ = false := fun j => h.f j
theorem VarA.alloc (h : VarA w b T cs) (o : Obj) : VarA (w.alloc o) b T cs := ((World.grownBy_alloc w o none).block b h.lt (by simp)).trans h
end

theorem RdV.i {w : World} {S : Nat → Prop} {v : Value} {n : Int} (r : RdV w S v (.int n)) : v = .i n := r
theorem RdV.old {w : World} {S : Nat → Prop} {v : Value} {d : Dt} (r : RdV w S v d) : ∀ W, Below w.heap.size w W → RdV W S v d := fun W hW => r.step hW
end
section
abbrev Hd := Int × Int × Bool
abbrev Hd.sh (h : Hd) : Int := h.1
abbrev Hd.ino (h : Hd) : Int := h.2.1
abbrev Hd.dir (h : Hd) : Bool := h.2.2
abbrev Hd.v (h : Hd) : Value := .agg #[.i h.sh, .i h.ino, .bool h.dir]

theorem Below.newH {w : World} (o : Obj) : Below w.heap.size w (w.alloc o) := (Below.refl _ _).alloc (Nat.le_refl _) _
theorem Below.newH2 {w : World} (o o' : Obj) : Below w.heap.size w ((w.alloc o).alloc o') := ((Below.refl _ _).alloc (Nat.le_refl _) _).alloc (by simp) _
def HOk (h : Hd) : Bool := decide (0 ≤ h.sh) && (decide (h.sh < 4) && (decide (1 ≤ h.ino) && decide (h.ino ≤ 2147483647)))

theorem specHandleOk_w (h : Hd) (w : World) : Calls Tryz.prog 45 #[h.v] w fun e w' => e = .returned (.bool (HOk h)) ∧ w' = w.alloc (.cells #[.i h.sh, .i h.ino, .bool h.dir] 27) := by
 obtain ⟨s, i, d⟩ := h
 go_enter Tryz.func45, Tryz.ntmps45
 go_wp2
 all_goals (go_ret; exact ⟨by first | rfl | (simp_all [HOk] <;> omega), rfl⟩)
theorem specHandleOk_any (h : Hd) (w : World) : Calls Tryz.prog 45 #[h.v] w fun e w' => e = .returned (.bool (HOk h)) ∧ Below w.heap.size w w' :=
 (specHandleOk_w h w).mono fun e w' ⟨he, hw⟩ => ⟨he, by rw [hw]; exact Below.newH _⟩
theorem implHandleOk_w (h : Hd) (w : World) : Calls Tryz.prog 57 #[h.v] w fun e w' => e = .returned (.bool (HOk h)) ∧ w' = w.alloc (.cells #[.i h.sh, .i h.ino, .bool h.dir] 27) := by
 obtain ⟨s, i, d⟩ := h
 go_enter Tryz.func57, Tryz.ntmps57
 go_wp2
 all_goals (go_ret; exact ⟨by first | rfl | (simp_all [HOk] <;> omega), rfl⟩)
theorem implHandleOk_any (h : Hd) (w : World) : Calls Tryz.prog 57 #[h.v] w fun e w' => e = .returned (.bool (HOk h)) ∧ Below w.heap.size w w' :=
 (implHandleOk_w h w).mono fun e w' ⟨he, hw⟩ => ⟨he, by rw [hw]; exact Below.newH _⟩
end
section
theorem add_plainT (b off i : Nat) : (⟨b, off, none⟩ : Addr).add i = ⟨b, off + i, none⟩ := by
 unfold Addr.add
 by_cases hi : i = 0
 ·subst hi; simp
 ·simp [hi]

structure En where
 nm : List Int
 h : Hd
structure Nd where
 h : Hd
 par : Hd
 links : Int
 val : Int
 es : List En
structure OpD where
 kind : Int
 dir : Hd
 nm : List Int
 to : Hd
 asn : List Int
 val : Int

def hd0 : Hd := (0, 0, false)
def en0 : En := ⟨[], hd0⟩
def nd0 : Nd := ⟨hd0, hd0, 0, 0, []⟩
def enCell (e : En) : Nat → Dt
 | 0 => .bytes e.nm
 | 1 => .int e.h.sh
 | 2 => .int e.h.ino
 | _ => .bool e.h.dir
def ensDt (l : List En) : Dt := .rows 81 4 l.length (fun i j => enCell (l[i]?.getD en0) j)
def ndCell (n : Nd) : Nat → Dt
 | 0 => .int n.h.sh
 | 1 => .int n.h.ino
 | 2 => .bool n.h.dir
 | 3 => .int n.par.sh
 | 4 => .int n.par.ino
 | 5 => .bool n.par.dir
 | 6 => .int n.links
 | 7 => .int n.val
 | _ => ensDt n.es
def ndsDt (l : List Nd) : Dt := .rows 75 9 l.length (fun i j => ndCell (l[i]?.getD nd0) j)

abbrev enV (nm : Value) (h : Hd) : Value := .agg #[nm, .i h.sh, .i h.ino, .bool h.dir]
abbrev ndV (n : Nd) (es : Value) : Value := .agg #[.i n.h.sh, .i n.h.ino, .bool n.h.dir, .i n.par.sh, .i n.par.ino, .bool n.par.dir, .i n.links, .i n.val, es]
abbrev opV (o : OpD) (x y : Value) : Value := .agg #[.i o.kind, .i o.dir.sh, .i o.dir.ino, .bool o.dir.dir, x, .i o.to.sh, .i o.to.ino, .bool o.to.dir, y, .i o.val]

def szEns (l : List En) : Nat := l.length + (l.map (fun e => e.nm.length)).sum
def szNds (l : List Nd) : Nat := l.length + (l.map (fun n => szEns n.es)).sum
theorem sum_at {α : Type} (f : α → Nat) : ∀ (l : List α) (i : Nat) (a : α), l[i]? = some a → f a ≤ (l.map f).sum
 | [], i, a, h => by simp at h
 | x :: r, 0, a, h => by simp at h; subst h; simp
 | x :: r, i + 1, a, h => by
  have := sum_at f r i a (by simpa using h)
  simp; omega
theorem szEns_at (l : List En) (i : Nat) : (l[i]?.getD en0).nm.length ≤ szEns l := by
 cases h : l[i]? with
 | none => simp [en0]
 | some a => have := sum_at (fun e : En => e.nm.length) l i a h; simp [szEns]; omega
theorem szNds_at (l : List Nd) (i : Nat) : szEns (l[i]?.getD nd0).es ≤ szNds l := by
 cases h : l[i]? with
 | none => simp [nd0, szEns]
 | some a => have := sum_at (fun n : Nd => szEns n.es) l i a h; simp [szNds]; omega
end
section
abbrev TxD := Int × Int × Int
structure PtD where
 kind : Int
 h : Hd
 asn : List Int
 to : Hd
structure RpD where
 code : Int
 h : Hd
 val : Int
 list : List En
structure MsD where
 kind : Int
 fr : Int
 to : Int
 req : Int
 op : OpD
 rp : RpD
 tx : TxD
 pt : PtD
 code : Int
 h : Hd
def tx0 : TxD := (0, 0, 0)
def op0 : OpD := ⟨0, hd0, [], hd0, [], 0⟩
def rp0 : RpD := ⟨0, hd0, 0, []⟩
def pt0 : PtD := ⟨0, hd0, [], hd0⟩
def ms0 : MsD := ⟨0, 0, 0, 0, op0, rp0, tx0, pt0, 0, hd0⟩
abbrev txV (t : TxD) : Value := .agg #[.i t.1, .i t.2.1, .i t.2.2]
abbrev ptV (p : PtD) (u : Value) : Value := .agg #[.i p.kind, .i p.h.sh, .i p.h.ino, .bool p.h.dir, u, .i p.to.sh, .i p.to.ino, .bool p.to.dir]
abbrev rpV (r : RpD) (z : Value) : Value := .agg #[.i r.code, .i r.h.sh, .i r.h.ino, .bool r.h.dir, .i r.val, z]
abbrev msV (m : MsD) (x y z u : Value) : Value := .agg #[.i m.kind, .i m.fr, .i m.to, .i m.req, .i m.op.kind, .i m.op.dir.sh, .i m.op.dir.ino, .bool m.op.dir.dir, x, .i m.op.to.sh, .i m.op.to.ino, .bool m.op.to.dir, y, .i m.op.val, .i m.rp.code, .i m.rp.h.sh, .i m.rp.h.ino, .bool m.rp.h.dir, .i m.rp.val, z, .i m.tx.1, .i m.tx.2.1, .i m.tx.2.2, .i m.pt.kind, .i m.pt.h.sh, .i m.pt.h.ino, .bool m.pt.h.dir, u, .i m.pt.to.sh, .i m.pt.to.ino, .bool m.pt.to.dir, .i m.code, .i m.h.sh, .i m.h.ino, .bool m.h.dir]
theorem VarA.l6 {w : World} {b : Nat} {T : TypeId} {x0 x1 x2 x3 x4 x5 : Value} (h : VarA w b T #[x0, x1, x2, x3, x4, x5]) : w.cell? ⟨b, 0, none⟩ = some x0 ∧ w.cell? ⟨b, 1, none⟩ = some x1 ∧ w.cell? ⟨b, 2, none⟩ = some x2 ∧ w.cell? ⟨b, 3, none⟩ = some x3 ∧ w.cell? ⟨b, 4, none⟩ = some x4 ∧ w.cell? ⟨b, 5, none⟩ = some x5 := ⟨h.c 0 rfl, h.c 1 rfl, h.c 2 rfl, h.c 3 rfl, h.c 4 rfl, h.c 5 rfl⟩
def RdM (w : World) (S : Nat → Prop) (m : MsD) (x y z u : Value) : Prop := RdV w S x (.bytes m.op.nm) ∧ RdV w S y (.bytes m.op.asn) ∧ RdV w S z (ensDt m.rp.list) ∧ RdV w S u (.bytes m.pt.asn)
def OwM (w : World) (S : Nat → Prop) (m : MsD) (x y z u : Value) : Prop :=
 ∃ Q1 Q2 Q3 Q4 : Nat → Prop, OwV w Q1 x (.bytes m.op.nm) ∧ OwV w Q2 y (.bytes m.op.asn) ∧ OwV w Q3 z (ensDt m.rp.list) ∧ OwV w Q4 u (.bytes m.pt.asn) ∧
  (∀ b, Q1 b ∨ Q2 b ∨ Q3 b ∨ Q4 b → S b) ∧ (∀ b, Q1 b → ¬ Q2 b ∧ ¬ Q3 b ∧ ¬ Q4 b) ∧ (∀ b, Q2 b → ¬ Q3 b ∧ ¬ Q4 b) ∧ (∀ b, Q3 b → ¬ Q4 b)
def szMs (m : MsD) : Nat := m.op.nm.length + m.op.asn.length + szEns m.rp.list + m.pt.asn.length
end
section
def flagB (b : Bool) : List Int := if b then [1] else [0]
def hdB (h : Hd) : List Int := putB h.sh ++ (putB h.ino ++ flagB h.dir)
def opB (o : OpD) : List Int := putB o.kind ++ (hdB o.dir ++ (textB o.nm ++ (hdB o.to ++ (textB o.asn ++ putB o.val))))
def enB (e : En) : List Int := textB e.nm ++ hdB e.h
def ensB (l : List En) : List Int := l.flatMap enB
def rpB (r : RpD) : List Int := putB r.code ++ (hdB r.h ++ (putB r.val ++ (putB r.list.length ++ ensB r.list)))
def txB (t : TxD) : List Int := putB t.1 ++ (putB t.2.1 ++ putB t.2.2)
def ptB (p : PtD) : List Int := putB p.kind ++ (hdB p.h ++ (textB p.asn ++ hdB p.to))
def msRest (m : MsD) : List Int :=
 if m.kind = 0 then putB m.req ++ opB m.op
 else if m.kind = 1 then putB m.req ++ rpB m.rp
 else if m.kind = 2 then txB m.tx ++ ptB m.pt
 else if m.kind = 3 then txB m.tx ++ (ptB m.pt ++ (putB m.code ++ hdB m.h))
 else if m.kind = 5 then txB m.tx ++ putB m.code
 else if m.kind = 6 then txB m.tx ++ (putB m.req ++ hdB m.h)
 else if m.kind = 7 then txB m.tx ++ (putB m.req ++ (putB m.code ++ hdB m.h))
 else txB m.tx
def msB (m : MsD) : List Int := putB m.kind ++ (putB m.fr ++ (putB m.to ++ msRest m))
theorem Below.al2 {a b : World} (h : Below a.heap.size a b) (o : Obj) : Below a.heap.size a (b.alloc o) := h.alloc h.size _
abbrev Ap (f : FuncId) (args : Array Value) (w : World) (zs : List Int) : Prop :=
 Calls Tryz.prog f args w fun e w' => ∃ v, e = .returned v ∧ isBytes zs ∧ Owns w' w.heap.size v zs ∧ Below w.heap.size w w'
theorem bl1 (B : Nat) (w : World) : Below B w w := Below.refl B w
theorem bl2 {a b : World} (h : Below a.heap.size a b) (o : Obj) : Below a.heap.size a (b.alloc o) := Below.al2 h o
theorem bl3 {B : Nat} {a b : World} (h : Below B a b) : Below B a b.drew := Below.drew h
theorem bl4 {B : Nat} {a b : World} (h : Below B a b) (n : Nat) : Below B a (b.drewN n) := below_drewN2 h n
end
section
def Took (zs : List Int) (p : Int) (B : List Int) (s : Int) : Prop := 0 ≤ p ∧ p ≤ s ∧ s ≤ zs.length ∧ zs.take p.toNat ++ B = zs.take s.toNat
def rdFlag (zs : List Int) (p : Int) : Bool × Int := if p < 0 ∨ (zs.length : Int) ≤ p ∨ 1 < zs[p.toNat]?.getD 0 then (false, -1) else (zs[p.toNat]?.getD 0 == 1, p + 1)
def rdHd (zs : List Int) (p : Int) : Hd × Int := let a := getNum zs p; let b := getNum zs a.2; let c := rdFlag zs b.2; ((a.1, b.1, c.1), c.2)
def rdOp (zs : List Int) (p : Int) : OpD × Int := let k := getNum zs p; let d := rdHd zs k.2; let n := getText zs d.2; let t := rdHd zs n.2; let s := getText zs t.2; let v := getNum zs s.2; (⟨k.1, d.1, n.1, t.1, s.1, v.1⟩, v.2)
def rdTx (zs : List Int) (p : Int) : TxD × Int := let a := getNum zs p; let b := getNum zs a.2; let c := getNum zs b.2; ((a.1, b.1, c.1), c.2)
def rdPt (zs : List Int) (p : Int) : PtD × Int := let k := getNum zs p; let d := rdHd zs k.2; let n := getText zs d.2; let t := rdHd zs n.2; (⟨k.1, d.1, n.1, t.1⟩, t.2)
def rdEns (zs : List Int) : Nat → Int → List En × Int
 | 0, p => ([], p)
 | f + 1, p => if p < 0 then ([], p) else (⟨(getText zs p).1, (rdHd zs (getText zs p).2).1⟩ :: (rdEns zs f (rdHd zs (getText zs p).2).2).1, (rdEns zs f (rdHd zs (getText zs p).2).2).2)
def rdEnsP (zs : List Int) : Nat → Int → List En × Int
 | 0, p => ([], p)
 | f + 1, p => (⟨(getText zs p).1, (rdHd zs (getText zs p).2).1⟩ :: (rdEnsP zs f (rdHd zs (getText zs p).2).2).1, (rdEnsP zs f (rdHd zs (getText zs p).2).2).2)
end
section
def rdEnS (zs : List Int) (p : Int) : List En × Int := rdEns zs (min (getNum zs p).1.toNat 13) (getNum zs p).2
def rdEnP (zs : List Int) (p : Int) : List En × Int := if 12 < (getNum zs p).1 then ([], -1) else rdEnsP zs (getNum zs p).1.toNat (getNum zs p).2
def rdRp (e : Int → List En × Int) (zs : List Int) (p : Int) : RpD × Int := let k := getNum zs p; let h := rdHd zs k.2; let v := getNum zs h.2; let l := e v.2; (⟨k.1, h.1, v.1, l.1⟩, l.2)
def rdMs (e : Int → List En × Int) (zs : List Int) : MsD × Int :=
 let k := getNum zs 0; let f := getNum zs k.2; let t := getNum zs f.2
 if k.1 = 0 then let r := getNum zs t.2; let o := rdOp zs r.2; (⟨k.1, f.1, t.1, r.1, o.1, rp0, tx0, pt0, 0, hd0⟩, o.2)
 else if k.1 = 1 then let r := getNum zs t.2; let o := rdRp e zs r.2; (⟨k.1, f.1, t.1, r.1, op0, o.1, tx0, pt0, 0, hd0⟩, o.2)
 else let x := rdTx zs t.2
  if k.1 = 2 then let o := rdPt zs x.2; (⟨k.1, f.1, t.1, 0, op0, rp0, x.1, o.1, 0, hd0⟩, o.2)
  else if k.1 = 3 then let o := rdPt zs x.2; let c := getNum zs o.2; let h := rdHd zs c.2; (⟨k.1, f.1, t.1, 0, op0, rp0, x.1, o.1, c.1, h.1⟩, h.2)
  else if k.1 = 5 then let c := getNum zs x.2; (⟨k.1, f.1, t.1, 0, op0, rp0, x.1, pt0, c.1, hd0⟩, c.2)
  else if k.1 = 6 then let r := getNum zs x.2; let h := rdHd zs r.2; (⟨k.1, f.1, t.1, r.1, op0, rp0, x.1, pt0, 0, h.1⟩, h.2)
  else if k.1 = 7 then let r := getNum zs x.2; let c := getNum zs r.2; let h := rdHd zs c.2; (⟨k.1, f.1, t.1, r.1, op0, rp0, x.1, pt0, c.1, h.1⟩, h.2)
  else (⟨k.1, f.1, t.1, 0, op0, rp0, x.1, pt0, 0, hd0⟩, x.2)
end
section
set_option linter.unusedVariables false
end
section
theorem storeF_run {P : Program} {w : World} {g off : Nat} {T ty : TypeId} {old vs : Array Value} (hv : VarA w g T old) (hl : off + vs.size ≤ old.size) (hi : (P.info? ty).map (·.size) = some vs.size) (h1 : vs.toList.all (·.oneCell') = true) :
    (storeVar ty ⟨g, off, none⟩ (.agg vs)).run P w = .ok () (w.setRow g (old.toList.take off ++ vs.toList ++ old.toList.drop (off + vs.size)).toArray) := by
  have h := run_storeCells_at (P := P) g off T vs.toList 0 old w hv (by simpa using hl) (fun v hv => (List.all_eq_true.1 h1) v hv)
  cases hq : P.info? ty with
  | none => simp [hq] at hi
  | some i =>
    have hs : vs.size = i.size := by simp [hq] at hi; omega
    simp only [Nat.add_zero, Array.length_toList] at h
    simp [storeVar, sizeOf, typeInfo, hq, Value.cells, hs, h]
theorem VarA.row {w : World} {g : Nat} {T : TypeId} {old new : Array Value} (hv : VarA w g T old) : VarA (w.setRow g new) g T new := setRow_heap w g old new T _ hv
theorem turned_row (w : World) (g : Nat) (new : Array Value) : Turned (fun b => b = g) w (w.setRow g new) := ⟨rfl, rfl, rfl, by simp [World.setRow], fun k _ hk => setRow_other w g k new (fun e => hk e)⟩
theorem wpList_storeF {ty t' : TypeId} {dst : Option Tmp} {x y : Operand} {pos : String} {af : Array Edge} {ops : Array Oper} {rest : List Oper} {a : Act} {Q : Exit → Act → World → Prop} {w : World} {g off : Nat} {T : TypeId} {old vs new : Array Value}
    (hv : VarA w g T old) (hx : a.eval x = .pointer (some ⟨g, off, none⟩)) (hy : a.eval y = .agg vs) (hi : (Tryz.prog.info? ty).map (·.size) = some vs.size) (h1 : vs.toList.all (·.oneCell') = true) (hl : off + vs.size ≤ old.size)
    (hnew : (old.toList.take off ++ vs.toList ++ old.toList.drop (off + vs.size)).toArray = new)
    (hK : ∀ w', VarA w' g T new → Turned (fun b => b = g) w w' → wpList Tryz.prog ops Q rest (a.put dst undef) w') :
    wpList Tryz.prog ops Q (⟨dst, .store ty x y, t', pos, af, none⟩ :: rest) a w := by
  refine wpList_plain rfl fun K' hK' => ?_
  unfold Oper.wp execOp
  simp only [hx, hy, Instr.storeAt, Instr.sureAddr, Sem.run_bind, Sem.run_pure, Result.andThen_ok, storeF_run hv hl hi h1]
  rw [hnew]
  exact hK' _ _ (hK _ (VarA.row hv) (turned_row w g new))
theorem guardStore {ty t' : TypeId} {dst : Option Tmp} {x y : Operand} {pos : String} {af : Array Edge} {ops : Array Oper} {rest : List Oper} {a : Act} {Q : Exit → Act → World → Prop} {w : World}
    (h : wpList Tryz.prog ops Q (⟨dst, .store ty x y, t', pos, af, none⟩ :: rest) a w) : wpList Tryz.prog ops Q (⟨dst, .store ty x y, t', pos, af, none⟩ :: rest) a w := h
theorem rangeA {w : World} {g : Nat} {T : TypeId} {cs : Array Value} {off : Nat} {vs : List Value} (hv : VarA w g T cs) (hvs : (cs.toList.drop off).take vs.length = vs) : w.rangeAt g off vs := by
  intro j v hj
  rw [cell_of_row _ _ _ _ _ _ hv]
  rw [← hvs] at hj
  have hj' : j < vs.length := by
    rw [List.getElem?_take] at hj
    split at hj
    · assumption
    · cases hj
  rw [List.getElem?_take, if_pos hj', List.getElem?_drop] at hj
  simpa using hj
theorem loadA_run {w : World} {g : Nat} {T ty : TypeId} {cs : Array Value} {d : TypeDesc} (hv : VarA w g T cs) (hu : Tryz.prog.underlying ty = some d) (hd : d.isRow = true) (hi : (Tryz.prog.info? ty).map (·.size) = some cs.size) : (loadVar ty ⟨g, 0, none⟩).run Tryz.prog w = .ok (.agg cs) w := by
  have h := run_loadVar_mid (P := Tryz.prog) w g 0 ty cs.toList d (rangeA hv (by rw [List.drop_zero, List.take_length])) hu hd (by simpa using hi)
  simpa using h
theorem loadAt_run {w : World} {g : Nat} {T ty : TypeId} {cs : Array Value} {d : TypeDesc} (hv : VarA w g T cs) (hu : Tryz.prog.underlying ty = some d) (hd : d.isRow = true) (hi : (Tryz.prog.info? ty).map (·.size) = some cs.size) : (Instr.loadAt ty (.pointer (some ⟨g, 0, none⟩))).run Tryz.prog w = .ok (.agg cs) w := by
  simp only [Instr.loadAt, Instr.sureAddr, Sem.run_bind, Sem.run_pure, Result.andThen_ok, loadA_run hv hu hd hi]
theorem loadOp_run {ty t' : TypeId} {dst : Option Tmp} {x : Operand} {pos : String} {af : Array Edge} {gd : Option (Nat × Bool)} {a : Act} {w : World} {g : Nat} {T : TypeId} {cs : Array Value} {d : TypeDesc}
    (hv : VarA w g T cs) (hx : a.eval x = .pointer (some ⟨g, 0, none⟩)) (hu : Tryz.prog.underlying ty = some d) (hd : d.isRow = true) (hi : (Tryz.prog.info? ty).map (·.size) = some cs.size) :
    (execOp a.eval ⟨dst, .load ty x, t', pos, af, gd⟩).run Tryz.prog w = .ok (.value (.agg cs)) w := by
  unfold execOp
  simp only [hx, Sem.run_bind, loadAt_run hv hu hd hi, Sem.run_pure, Result.andThen_ok]
theorem VarA.dr {w : World} {b : Nat} {T : TypeId} {cs : Array Value} (h : VarA w b T cs) : VarA w.drew b T cs := h
theorem gS (ty : TypeId) {t' : TypeId} {dst : Option Tmp} {x y : Operand} {pos : String} {af : Array Edge} {ops : Array Oper} {rest : List Oper} {a : Act} {Q : Exit → Act → World → Prop} {w : World}
  (h : wpList Tryz.prog ops Q (⟨dst, .store ty x y, t', pos, af, none⟩ :: rest) a w) : wpList Tryz.prog ops Q (⟨dst, .store ty x y, t', pos, af, none⟩ :: rest) a w := h
theorem sF {ty t' : TypeId} {dst : Option Tmp} {x y : Operand} {pos : String} {af : Array Edge} {ops : Array Oper} {rest : List Oper} {a : Act} {Q : Exit → Act → World → Prop} {w : World} {g off : Nat} {T : TypeId} {old vs new : Array Value}
  (hv : VarA w g T old) (hx : a.eval x = .pointer (some ⟨g, off, none⟩)) (hy : a.eval y = .agg vs) (hi : (Tryz.prog.info? ty).map (·.size) = some vs.size) (hb : (vs.toList.all (·.oneCell') && decide (off + vs.size ≤ old.size)) = true)
  (hnew : (old.toList.take off ++ vs.toList ++ old.toList.drop (off + vs.size)).toArray = new)
  (hK : ∀ w', VarA w' g T new → Turned (fun b => b = g) w w' → wpList Tryz.prog ops Q rest (a.put dst undef) w') : wpList Tryz.prog ops Q (⟨dst, .store ty x y, t', pos, af, none⟩ :: rest) a w := by
 rw [Bool.and_eq_true, decide_eq_true_eq] at hb
 exact wpList_storeF hv hx hy hi hb.1 hb.2 hnew hK
theorem vaB {w w2 : World} {T : TypeId} {cs : Array Value} (h : Below (w.alloc (.cells cs T)).drew.heap.size (w.alloc (.cells cs T)).drew w2) : VarA w2 w.heap.size T cs := VarA.step (VarA.dr (VarA.new w T cs)) h
theorem vaC {w w2 : World} {T : TypeId} {cs : Array Value} (h : Below (w.alloc (.cells cs T)).heap.size (w.alloc (.cells cs T)) w2) : VarA w2 w.heap.size T cs := VarA.step (VarA.new w T cs) h
end
section
def CurV (T : TypeId) (pb : Nat) (zs : List Int) (v : Value) (p : Int) (w : World) : Prop := VarA w pb T #[v, .i p] ∧ RdV w (fun b => b < pb) v (.bytes zs) ∧ -1 ≤ p ∧ p ≤ zs.length
section
variable {T : TypeId} {pb : Nat} {zs : List Int} {v : Value} {p : Int} {w w' : World}
end
theorem storeG_run {P : Program} {w : World} {g off : Nat} {T ty : TypeId} {old vs : Array Value} {u : Value} (hu : u.cells = vs) (hv : VarA w g T old) (hl : off + vs.size ≤ old.size) (hi : (P.info? ty).map (·.size) = some vs.size) (h1 : vs.toList.all (·.oneCell') = true) :
  (storeVar ty ⟨g, off, none⟩ u).run P w = .ok () (w.setRow g (old.toList.take off ++ vs.toList ++ old.toList.drop (off + vs.size)).toArray) := by
 have h := run_storeCells_at (P := P) g off T vs.toList 0 old w hv (by simpa using hl) (fun v hv => (List.all_eq_true.1 h1) v hv)
 cases hq : P.info? ty with
 | none => simp [hq] at hi
 | some i =>
  have hs : vs.size = i.size := by simp [hq] at hi; omega
  simp only [Nat.add_zero, Array.length_toList] at h
  simp [storeVar, sizeOf, typeInfo, hq, hu, hs, h]
theorem wpList_storeG {ty t' : TypeId} {dst : Option Tmp} {x y : Operand} {pos : String} {af : Array Edge} {ops : Array Oper} {rest : List Oper} {a : Act} {Q : Exit → Act → World → Prop} {w : World} {g off : Nat} {T : TypeId} {old vs new : Array Value} {u : Value}
  (hv : VarA w g T old) (hx : a.eval x = .pointer (some ⟨g, off, none⟩)) (hy : a.eval y = u) (hu : u.cells = vs) (hi : (Tryz.prog.info? ty).map (·.size) = some vs.size) (h1 : vs.toList.all (·.oneCell') = true) (hl : off + vs.size ≤ old.size)
  (hnew : (old.toList.take off ++ vs.toList ++ old.toList.drop (off + vs.size)).toArray = new)
  (hK : ∀ w', VarA w' g T new → Turned (fun b => b = g) w w' → wpList Tryz.prog ops Q rest (a.put dst undef) w') :
  wpList Tryz.prog ops Q (⟨dst, .store ty x y, t', pos, af, none⟩ :: rest) a w := by
 refine wpList_plain rfl fun K' hK' => ?_
 unfold Oper.wp execOp
 simp only [hx, hy, Instr.storeAt, Instr.sureAddr, Sem.run_bind, Sem.run_pure, Result.andThen_ok, storeG_run hu hv hl hi h1]
 rw [hnew]
 exact hK' _ _ (hK _ (VarA.row hv) (turned_row w g new))
abbrev Gone (T : TypeId) (pb : Nat) (zs : List Int) (v : Value) (q : Int) (w w' : World) : Prop := CurV T pb zs v q w' ∧ Turned (fun b => b = pb) w w'
end
section
theorem Tryz.infoEn : (Tryz.prog.info? 81).map (fun i => (i.zero, i.size, i.bytes)) = some (some (.agg #[.n0, .i 0, .i 0, .bool false]), 4, 48) := by kernel_rfl
def PrtEn (l : List En) (B n k : Nat) (w : World) : Prop := OwV w (fun b => B ≤ b ∧ b < w.heap.size) (.slice (some ⟨B, 0, none⟩) n n) (.rows 81 4 n (fun i j => if i < k then enCell (l[i]?.getD en0) j else enCell en0 j))
end
section
def enVal (e : En) (u : Value) : Nat → Value
 | 0 => u
 | 1 => .i e.h.sh
 | 2 => .i e.h.ino
 | _ => .bool e.h.dir
theorem OwV.snocEn {w w' : World} {lo hi hi2 g cap : Nat} {v u : Value} {l : List En} {e : En} (hown : OwV w (fun b => lo ≤ b ∧ b < hi) v (ensDt l)) (hu : OwV w (fun b => hi ≤ b ∧ b < hi2) u (.bytes e.nm)) (h2 : hi2 ≤ w.heap.size) (hh2 : hi ≤ hi2) (hlh : lo ≤ hi)
  (C : List Value) (hC : w.ownsRow 0 81 4 v l.length C) (V : Nat → Nat → Value) (Q : Nat → Nat → Nat → Prop) (hS : ∀ b, v.ownBlock = some b → lo ≤ b ∧ b < hi) (hV : ∀ i j, i < l.length → j < 4 → C[i * 4 + j]? = some (V i j)) (hQ : ∀ i j, i < l.length → j < 4 → OwV w (Q i j) (V i j) (enCell (l[i]?.getD en0) j))
  (hq1 : ∀ i j b, i < l.length → j < 4 → Q i j b → (lo ≤ b ∧ b < hi) ∧ v.ownBlock ≠ some b) (hq2 : ∀ i j i' j' b, i < l.length → j < 4 → i' < l.length → j' < 4 → Q i j b → Q i' j' b → i = i' ∧ j = j')
  (ho : w'.ownsRow 0 81 4 (.slice (some ⟨g, 0, none⟩) (l.length + 1) cap) (l.length + 1) (C ++ [u, .i e.h.sh, .i e.h.ino, .bool e.h.dir])) (hg : w.grownBy w' v.ownBlock) (hgg : v.ownBlock = some g ∨ g = w.heap.size) (hgl : g < w'.heap.size) :
  OwV w' (fun b => lo ≤ b ∧ b < w'.heap.size) (.slice (some ⟨g, 0, none⟩) (l.length + 1) cap) (ensDt (l ++ [e])) := by
 have hsz := hg.size
 have hCl : C.length = l.length * 4 := hC.1
 have hkeep : ∀ (R : Nat → Prop), (∀ b, R b → v.ownBlock ≠ some b) → Keeps R w w' := fun R hR => ⟨hsz, fun b hb hlt => hg.block b hlt (fun h => hR b hb h.symm)⟩
 have hln : (l ++ [e]).length = l.length + 1 := by simp
 unfold ensDt
 rw [hln]
 refine OwV.mkRows ⟨fun i j => if i < l.length then V i j else enVal e u j, _, fun i j => if i < l.length then Q i j else if j = 0 then (fun b => hi ≤ b ∧ b < hi2) else (fun _ => False), ho, ?_, ?_, ?_, ?_, ?_⟩
 ·intro b hb
  obtain rfl : g = b := by simpa [Value.ownBlock] using hb
  rcases hgg with h | h
  ·exact ⟨(hS _ h).1, hgl⟩
  ·exact ⟨by omega, hgl⟩
 ·intro i j hi' hj
  by_cases hlt : i < l.length
  ·simp only [hlt, if_true]
   rw [List.getElem?_append_left (by rw [hCl]; exact place_lt hlt hj)]
   exact hV i j hlt hj
  ·obtain rfl : i = l.length := by omega
   simp only [Nat.lt_irrefl, if_false]
   rw [List.getElem?_append_right (by omega), hCl, show l.length * 4 + j - l.length * 4 = j by omega]
   match j, hj with
   | 0, _ => rfl
   | 1, _ => rfl
   | 2, _ => rfl
   | 3, _ => rfl
 ·intro i j hi' hj
  by_cases hlt : i < l.length
  ·simp only [hlt, if_true]
   rw [show (l ++ [e])[i]?.getD en0 = l[i]?.getD en0 by rw [List.getElem?_append_left hlt]]
   exact OwV.keep (hkeep _ (fun b hb => (hq1 i j b hlt hj hb).2)) (hQ i j hlt hj)
  ·obtain rfl : i = l.length := by omega
   simp only [Nat.lt_irrefl, if_false]
   rw [show (l ++ [e])[l.length]?.getD en0 = e by simp]
   match j, hj with
   | 0, _ => exact OwV.keep (hkeep (fun b => hi ≤ b ∧ b < hi2) (fun b hb h => by have := hS b h; omega)) hu
   | 1, _ => rfl
   | 2, _ => rfl
   | 3, _ => rfl
 ·intro i j b hi' hj hb
  by_cases hlt : i < l.length
  ·simp only [hlt, if_true] at hb
   have h1 := hq1 i j b hlt hj hb
   refine ⟨⟨h1.1.1, by omega⟩, ?_⟩
   intro h
   obtain rfl : g = b := by simpa [Value.ownBlock] using h
   rcases hgg with h3 | h3
   ·exact h1.2 h3
   ·omega
  ·simp only [hlt, if_false] at hb
   by_cases hj0 : j = 0
   ·simp only [hj0, if_true] at hb
    refine ⟨⟨by omega, by omega⟩, ?_⟩
    intro h
    obtain rfl : g = b := by simpa [Value.ownBlock] using h
    rcases hgg with h3 | h3
    ·have := hS _ h3; omega
    ·omega
   ·simp only [hj0, if_false] at hb
 ·intro i j i' j' b hi' hj hi2' hj' hb hb'
  by_cases hlt : i < l.length <;> by_cases hlt' : i' < l.length
  ·simp only [hlt, hlt', if_true] at hb hb'
   exact hq2 i j i' j' b hlt hj hlt' hj' hb hb'
  ·simp only [hlt, hlt', if_true, if_false] at hb hb'
   have h1 := hq1 i j b hlt hj hb
   by_cases hj0 : j' = 0
   ·simp only [hj0, if_true] at hb'; omega
   ·simp only [hj0, if_false] at hb'
  ·simp only [hlt, hlt', if_true, if_false] at hb hb'
   have h1 := hq1 i' j' b hlt' hj' hb'
   by_cases hj0 : j = 0
   ·simp only [hj0, if_true] at hb; omega
   ·simp only [hj0, if_false] at hb
  ·simp only [hlt, hlt', if_false] at hb hb'
   by_cases hj0 : j = 0 <;> by_cases hj0' : j' = 0
   ·exact ⟨by omega, by omega⟩
   ·simp only [hj0', if_false] at hb'
   ·simp only [hj0, if_false] at hb
   ·simp only [hj0, if_false] at hb
end
section
theorem tkh {P : Program} {md : Region.Mode} {ops : Array Oper} {Q : Exit → Act → World → Prop} {S : World → Prop} {oi : Oper} {fuel : Nat} {listed : Array Bool} {a : Act} {w : World} (i : Nat) (v : Value) (hi : ops[i]? = some oi)
    (hb : (Region.noSelect ops && (Region.free md ops listed i && (Region.ready md ops listed).contains i)) = true) (hw : Region.wanted oi (yielded ops a.tmps) = true) (hS : S w) (hy : ∀ w, S w → (execOp a.eval oi).run P w = .ok (.value v) w)
    (h : wpAnyH P md ops (NoPanic Q) S fuel (listed.setIfInBounds i true) (a.put oi.dst v) w) : wpAnyH P md ops (NoPanic Q) S (fuel + 1) listed a w := by
  simp only [Bool.and_eq_true] at hb
  exact wpAnyH_take hi hb.1 hb.2.1 hb.2.2 (fun _ _ _ h => h) (Or.inl ⟨hw, hy⟩) hS h
theorem doH {P : Program} {md : Region.Mode} {ops : Array Oper} {Q : Exit → Act → World → Prop} {S : World → Prop} {fuel : Nat} {listed : Array Bool} {a : Act} {w : World} {o : Oper} (i : Nat) (hr : Region.ready md ops listed = [i]) (ho : ops[i]? = some o)
    (h : ∀ K' : Act → World → Prop, Shut (∀ a w, S w → (S w → wpAnyH P md ops Q S fuel (listed.setIfInBounds i true) a w) → K' a w) → if Region.wanted o (yielded ops a.tmps) = true then Oper.wp P o a w K' Q else K' (a.put o.dst undef) w) : wpAnyH P md ops Q S (fuel + 1) listed a w :=
  wpAnyH_ready hr (by simp) (AllReadyH.cons ho h AllReadyH.nil)
theorem bpR {P : Program} {fn : Func} {R : Ending → World → Prop} {a : Act} {w : World} {p : Tmp} {ty : TypeId} {g : Nat} {t : TypeId} {cs : Array Value} {fr : Nat × Nat} {d : TypeDesc} (h : fn.results = #[.cell p ty]) (hg : w.heap[g]? = some (.cells cs t fr)) (hu : P.underlying ty = some d)
    (hp : a.tmps.getD p undef = .pointer (some ⟨g, 0, none⟩)) (hd : (match d with | .struct _ | .array _ _ => true | _ => false) = true) (hi : (P.info? ty).map (·.size) = some cs.size) (hf : a.defers = []) (hR : R (.returned (.agg cs)) w) : bodyPost P fn R .ret a w :=
  bodyPost_ret (results_cell_row h _ _ _ _ _ _ _ hp hg hu hd hi) hf hR
end
section
theorem step_appS {ops : Array Oper} {o : Oper} {a : Act} {w : World} {K : Act → World → Prop} {Q : Exit → Act → World → Prop} {E : Prop} (hgd : o.guard = none) (s x : Operand)
  (ho : o.op = .call { callee := .builtin .append, args := #[s, x], argTypes := #[22, 22] })
  (base : Nat) (v : Value) (zs ys : List Int) (hs : a.eval s = v) (hown : Owns w base v zs) (ao : Option Addr) (m c : Nat) (hx : a.eval x = .slice ao m c) (hm : m = ys.length) (hr : Reads w ao ys)
  (hl : zs.length ≤ 4194304) (hl' : ys.length ≤ 4194304) (hbase : base ≤ w.heap.size) (hnil : ao = none → m = 0 ∧ c = 0)
  (h : ∀ v' w', Owns w' base v' (zs ++ ys) → w.grownBy w' v.ownBlock → K (a.put o.dst v') w') : if Region.wanted o (yielded ops a.tmps) = true then Oper.wp Tryz.prog o a w K Q else E := by
 have hw : Region.wanted o (yielded ops a.tmps) = true := by simp [Region.wanted, hgd]
 rw [if_pos hw]
 obtain ⟨i0, hi, hz0, hz1, hz2⟩ := info_parts Tryz.infoB
 cases ao with
 | none =>
  obtain ⟨h0, hc0⟩ := hnil rfl
  have : ys = [] := List.eq_nil_of_length_eq_zero (by omega)
  subst this
  subst hm
  subst hc0
  have hrun := run_append_owned_none (P := Tryz.prog) (w := w) base 22 o.type 5 i0 1 Tryz.underlying22 hi v zs.length (bcells zs) hown
  unfold Oper.wp
  have hx' : a.eval x = .n0 := hx
  simp [execOp, ho, resolve, invoke, builtin, hs, hx', hrun, Result.andThen]
  exact h v w (by rw [List.append_nil]; exact hown) ⟨rfl, rfl, rfl, Nat.le_refl _, fun _ _ _ => rfl⟩
 | some ad =>
  refine wp_append_own w s x 22 ho base 5 i0 (.int .u8 0) 1 1 Tryz.underlying22 hi hz0 hz1 hz2 rfl (by decide) v zs.length (bcells zs) hs hown ad m c (bcells ys) hx (by simp [hm]) hr.srcAt (bcells_one ys) (by unfold maxLen; omega) (by omega) hbase ?_
  intro v' w' ho' hg _
  refine h v' w' ?_ hg
  unfold Owns
  rw [List.length_append, ← hm]
  simpa [bcells] using ho'
theorem step_appEn {ops : Array Oper} {o : Oper} {a : Act} {K : Act → World → Prop} {Q : Exit → Act → World → Prop} {E : Prop} (w : World) (hgd : o.guard = none) (s x : Operand)
  (ho : o.op = .call { callee := .builtin .append, args := #[s, x], argTypes := #[32, 32] })
  (v : Value) (hs : a.eval s = v) (l : List En) (e : En) (u : Value) (lo hi hi2 q : Nat) (hx : a.eval x = .slice (some ⟨q, 0, none⟩) 1 1) (hone : u.oneCell' = true) (fr : Nat × Nat) (hq : w.heap[q]? = some (.cells #[u, .i e.h.sh, .i e.h.ino, .bool e.h.dir] 81 fr))
  (hown : OwV w (fun b => lo ≤ b ∧ b < hi) v (ensDt l)) (hu : OwV w (fun b => hi ≤ b ∧ b < hi2) u (.bytes e.nm)) (h2 : hi2 ≤ w.heap.size) (hh2 : hi ≤ hi2) (hlh : lo ≤ hi) (hl : l.length ≤ 4000)
  (h : ∀ g n cap w', OwV w' (fun b => lo ≤ b ∧ b < w'.heap.size) (.slice g n cap) (ensDt (l ++ [e])) → Turned (fun b => lo ≤ b ∧ b < hi) w w' → K (a.put o.dst (.slice g n cap)) w') : if Region.wanted o (yielded ops a.tmps) = true then Oper.wp Tryz.prog o a w K Q else E := by
 obtain ⟨i0, hi0, hz0, hz1, hz2⟩ := info_parts Tryz.infoEn
 have hown' := hown
 unfold ensDt at hown'
 obtain ⟨V, C, Qs, h1, hS, h3, h4, h5, h6⟩ := OwV.inv hown'
 refine step_append_lies w hgd s x 32 ho 0 81 i0 (.agg #[.n0, .i 0, .i 0, .bool false]) 4 48 Tryz.underlying32 hi0 hz0 hz1 hz2 rfl (by decide) v l.length C hs h1 ⟨q, 0, none⟩ 1 1 [u, .i e.h.sh, .i e.h.ino, .bool e.h.dir] hx rfl (World.news_of_block hq) (fun y hy => ?_) (by decide) (by unfold maxLen; omega) (by omega) (Nat.zero_le _) w.heap.size rfl ?_
 ·simp only [List.mem_cons, List.not_mem_nil, or_false] at hy
  rcases hy with rfl | rfl | rfl | rfl
  ·exact hone
  ·rfl
  ·rfl
  ·rfl
 intro g cap w' ho' hg hgg hgl
 exact h _ _ _ w' (OwV.snocEn hown hu h2 hh2 hlh C h1 V Qs hS h3 h4 h5 h6 ho' hg hgg hgl) (Turned.ofGrown hg (fun k hk => hS k hk))

set_option maxHeartbeats 4000000 in
theorem specCopyEn_any (v : Value) (l : List En) (S : Nat → Prop) (w : World) (r : RdV w S v (ensDt l)) (hl : szEns l ≤ 2097152) (hn : l.length ≤ 4000) :
  Calls Tryz.prog 102 #[v] w fun e w' => ∃ a n c, e = .returned (.slice a n c) ∧ OwV w' (fun b => w.heap.size ≤ b ∧ b < w'.heap.size) (.slice a n c) (ensDt l) ∧ Below w.heap.size w w' := by
 obtain ⟨a, cap, rfl, _⟩ := RdV.sliced r
 have HR : Hid (∀ W, Below w.heap.size w W → RdV W S (.slice a l.length cap) (ensDt l)) := fun W hW => r.step hW
 have HLN : Hid (∀ k, k < l.length → (l[k]?.getD en0).nm.length ≤ 2097152) := fun k hk => Nat.le_trans (szEns_at l k) hl
 clear r hl
 go_enter Tryz.func102, Tryz.ntmps102
 go_wp2
 go_loopw [3, 4] (fun o i wr => ∃ (k : Nat) (ga : Option Addr) (gn gc : Nat), k ≤ l.length ∧ i = .i k ∧ o = .slice ga gn gc ∧ Hid (OwV wr (fun b => w.heap.size ≤ b ∧ b < wr.heap.size) (.slice ga gn gc) (ensDt (l.take k))) ∧ Hid (Below w.heap.size w wr)) (fun _ i _ => l.length - (intOf i).toNat)
 case atStart => exact ⟨0, none, 0, 0, Nat.zero_le _, rfl, rfl, OwV.nilR _ _ _ _ _, Below.refl _ _⟩
 case round =>
  obtain ⟨k, ga, gn, gc, hk, rfl, rfl, HO, HB⟩ := hrel
  by_cases hlt : k < l.length
  ·obtain ⟨b, off, rfl, hbl, hSb, hc⟩ := (HR.out w (Below.refl _ _)).at hlt
   obtain ⟨x0, q0, r0⟩ := hc 0 (by omega)
   obtain ⟨x1, q1, r1⟩ := hc 1 (by omega)
   obtain ⟨x2, q2, r2⟩ := hc 2 (by omega)
   obtain ⟨x3, q3, r3⟩ := hc 3 (by omega)
   have htk : l.take (k + 1) = l.take k ++ [l[k]?.getD en0] := by rw [List.take_succ_eq_append_getElem hlt]; simp [hlt]
   have hnm := HLN.out k hlt
   generalize l[k]?.getD en0 = e at r0 r1 r2 r3 htk hnm
   obtain ⟨nm, ⟨sh, ino, dr⟩⟩ := e
   obtain rfl : x1 = .i sh := r1
   obtain rfl : x2 = .i ino := r2
   obtain rfl : x3 = .bool dr := r3
   have r0' : RdV w S x0 (.bytes nm) := r0
   obtain ⟨a0, c0, rfl⟩ := r0'.sliceB
   have HS : Hid (∀ W, Below w.heap.size w W → W.cell? ⟨b, off + k * 4, none⟩ = some (.slice a0 nm.length c0) ∧ W.cell? ⟨b, off + k * 4 + 1, none⟩ = some (.i sh) ∧ W.cell? ⟨b, off + k * 4 + 2, none⟩ = some (.i ino) ∧ W.cell? ⟨b, off + k * 4 + 3, none⟩ = some (.bool dr)) := fun W hW => ⟨(hW.cell (p := ⟨b, off + k * 4, none⟩) hbl).trans (by simpa using q0), (hW.cell (p := ⟨b, off + k * 4 + 1, none⟩) hbl).trans q1, (hW.cell (p := ⟨b, off + k * 4 + 2, none⟩) hbl).trans q2, (hW.cell (p := ⟨b, off + k * 4 + 3, none⟩) hbl).trans q3⟩
   have HRB : Hid (∀ W, Below w.heap.size w W → Reads W a0 nm ∧ Headed a0 nm.length c0) := fun W hW => by
    obtain ⟨a', cap', he, hh, hr⟩ := (r0'.step hW).b.reads
    simp only [Value.slice.injEq, true_and] at he
    obtain ⟨rfl, rfl⟩ := he
    exact ⟨hr, hh⟩
   have HZ : Hid (isBytes nm) := r0'.b.1
   have hix : (k : Int) < (l.length : Int) := by omega
   have HTK : Hid _ := htk
   have hsw := HB.out.size
   clear r0 r0' hc htk
   go_wp2
   refine wp_region_noPanic ?_
   refine wp_region_held_drew (S := fun w' => w'.cell? ⟨b, off + k * 4, none⟩ = some (.slice a0 nm.length c0) ∧ w'.cell? ⟨b, off + k * 4 + 1, none⟩ = some (.i sh) ∧ w'.cell? ⟨b, off + k * 4 + 2, none⟩ = some (.i ino) ∧ w'.cell? ⟨b, off + k * 4 + 3, none⟩ = some (.bool dr)) (by kernel_rfl) (HS.out _ (HB.out.trans ((Below.drew (Below.refl wr.heap.size wr)).mono HB.out.size))) (fun hHeld => ?_)
   apply tkh 0 _ rfl (by kernel_rfl) rfl (by assumption)
   ·(intro _ h; (try dsimp only at h); go_simp; try with_reducible rfl)
   try simp only [qz]
   apply tkh 2 _ rfl (by kernel_rfl) rfl (by assumption)
   ·(intro _ h; (try dsimp only at h); go_simp; try with_reducible rfl)
   try simp only [qz]
   apply tkh 3 _ rfl (by kernel_rfl) rfl (by assumption)
   ·(intro _ h; (try dsimp only at h); go_simp; try with_reducible rfl)
   try simp only [qz]
   apply tkh 4 _ rfl (by kernel_rfl) rfl (by assumption)
   ·(intro _ h; (try dsimp only at h); go_simp; try with_reducible rfl)
   try simp only [qz]
   apply tkh 5 _ rfl (by kernel_rfl) rfl (by assumption)
   ·(intro _ h; (try dsimp only at h); go_simp; try with_reducible rfl)
   try simp only [qz]
   apply tkh 6 _ rfl (by kernel_rfl) rfl (by assumption)
   ·(intro _ h; (try dsimp only at h); go_simp; try with_reducible rfl)
   try simp only [qz]
   apply tkh 8 _ rfl (by kernel_rfl) rfl (by assumption)
   ·(intro _ h; (try dsimp only at h); go_simp; try with_reducible rfl)
   try simp only [qz]
   apply tkh 9 _ rfl (by kernel_rfl) rfl (by assumption)
   ·(intro _ h; (try dsimp only at h); go_simp; try with_reducible rfl)
   try simp only [qz]
   apply tkh 10 _ rfl (by kernel_rfl) rfl (by assumption)
   ·(intro _ h; (try dsimp only at h); go_simp; try with_reducible rfl)
   try simp only [qz]
   apply tkh 11 _ rfl (by kernel_rfl) rfl (by assumption)
   ·(intro _ h; (try dsimp only at h); go_simp; try with_reducible rfl)
   try simp only [qz]
   apply tkh 12 _ rfl (by kernel_rfl) rfl (by assumption)
   ·(intro _ h; (try dsimp only at h); go_simp; try with_reducible rfl)
   try simp only [qz]
   refine doH 1 (by kernel_rfl) rfl fun K hK => ?_
   go_simp
   have b5 : Below wr.heap.size wr (wr.drew.alloc (.cells #[] 5)) := Below.alloc (Below.drew (Below.refl wr.heap.size wr)) (Nat.le_refl _) _
   refine hK.out _ _ (HS.out _ (HB.out.trans (b5.mono HB.out.size))) (fun hHeld => ?_)
   clear hK K
   try simp only [qz]
   refine doH 7 (by kernel_rfl) rfl fun K hK => ?_
   refine step_appS rfl (.tmp 12) (.tmp 17) (by rfl) wr.heap.size _ [] nm (by rfl) (owns_empty wr.drew) a0 nm.length c0 (by rfl) rfl (HRB.out _ (HB.out.trans (b5.mono HB.out.size))).1 (by simp) (by omega) (by simp) (fun h => (HRB.out _ (HB.out.trans (b5.mono HB.out.size))).2.2.2 h) ?_
   intro v6 w6 ho6 hg6
   rw [List.nil_append] at ho6
   obtain ⟨ua, uc, rfl, _⟩ := ho6.shape
   have b6 : Below wr.heap.size wr w6 := Below.grown b5 hg6 (by simp) (fun q hq => ((owns_empty wr.drew).lt q hq).1)
   have s6 := b6.size
   refine hK.out _ _ (HS.out _ (HB.out.trans (b6.mono HB.out.size))) (fun hHeld => ?_)
   clear hK K
   try simp only [qz]
   apply tkh 13 _ rfl (by kernel_rfl) rfl (by assumption)
   ·(intro _ h; (try dsimp only at h); go_simp; try with_reducible rfl)
   try simp only [qz]
   refine doH 14 (by kernel_rfl) rfl fun K hK => ?_
   go_simp
   have b7 : Below wr.heap.size wr (w6.alloc (.cells #[.slice ua nm.length uc, .i sh, .i ino, .bool dr] 81)) := Below.alloc b6 s6 _
   refine hK.out _ _ (HS.out _ (HB.out.trans (b7.mono HB.out.size))) (fun hHeld => ?_)
   clear hK K
   try simp only [qz]
   refine doH 15 (by kernel_rfl) rfl fun K hK => ?_
   refine step_appEn (w6.alloc (.cells #[.slice ua nm.length uc, .i sh, .i ino, .bool dr] 81)) rfl (.tmp 11) (.tmp 25) (by rfl) _ (by rfl) (l.take k) ⟨nm, (sh, ino, dr)⟩ (.slice ua nm.length uc) w.heap.size wr.heap.size w6.heap.size w6.heap.size (by rfl) rfl (0, 0) (heap_alloc_new _ _) (OwV.step HO.out b7) (OwV.step (OwV.mono (fun q hq => hq) (OwV.ofOwns HZ.out ho6)) (Below.newH _)) (by simp) s6 hsw (by rw [List.length_take]; omega) ?_
   intro g8 n8 c8 w8 ho8 t8
   have s8 := t8.size
   rw [World.size_alloc] at s8
   have HB8 : Below w.heap.size w w8 := Turned.below (HB.out.trans (b7.mono HB.out.size)) t8 (by have := HB.out.size; simp; omega) (fun i hi => hi.1)
   refine hK.out _ _ (HS.out _ HB8) (fun hHeld => ?_)
   clear hK K
   try simp only [qz]
   apply tkh 16 _ rfl (by kernel_rfl) rfl (by assumption)
   ·(intro _ h; (try dsimp only at h); go_simp; try with_reducible rfl)
   try simp only [qz]
   refine wpAnyH_done (by kernel_rfl) (NoPanic.normal ?_) _
   clear hHeld
   rw [← HTK.out] at ho8
   have HO8 : Hid (OwV w8 _ _ _) := ho8
   have HB9 : Hid (Below w.heap.size w w8) := HB8
   clear ho8 HB8 t8 b5 b6 b7 ho6 hg6
   go_wp2
   refine ⟨⟨k + 1, g8, n8, c8, by omega, by go_num, rfl, HO8, HB9⟩, by simp [intOf]; omega⟩
  ·have he : k = l.length := by omega
   subst he
   rw [List.take_length] at HO
   go_wp2
   go_ret
   exact ⟨_, _, _, rfl, HO.out, HB.out⟩
end
section
theorem Tryz.infoNd : (Tryz.prog.info? 75).map (fun i => (i.zero, i.size, i.bytes)) = some (some (.agg #[.i 0, .i 0, .bool false, .i 0, .i 0, .bool false, .i 0, .i 0, .n0]), 9, 88) := by kernel_rfl
def PrtNd (l : List Nd) (B n k : Nat) (w : World) : Prop := OwV w (fun b => B ≤ b ∧ b < w.heap.size) (.slice (some ⟨B, 0, none⟩) n n) (.rows 75 9 n (fun i j => if i < k then ndCell (l[i]?.getD nd0) j else ndCell nd0 j))
end
section
def ndVal (n : Nd) (x : Value) : Nat → Value
 | 0 => .i n.h.sh
 | 1 => .i n.h.ino
 | 2 => .bool n.h.dir
 | 3 => .i n.par.sh
 | 4 => .i n.par.ino
 | 5 => .bool n.par.dir
 | 6 => .i n.links
 | 7 => .i n.val
 | _ => x
def Ent (w : World) (lo : Nat) (v : Value) : Nat → Prop := fun b => lo ≤ b ∧ b < w.heap.size ∧ v.ownBlock ≠ some b
def ensO (l : List En) : Dt :=
 ⟨fun w S v => RdV w S v (ensDt l) ∧ (∃ C, w.ownsRow 0 81 4 v l.length C) ∧ ∀ b, v.ownBlock = some b → S b,
  fun w S v => RdV w S v (ensDt l) ∧ (∃ C, w.ownsRow 0 81 4 v l.length C) ∧ ∀ b, v.ownBlock = some b → S b,
  fun w w' S v t h => ⟨h.1.keep t, h.2.1.imp (fun C hc => ownsRow_keep hc h.2.2 t), h.2.2⟩, fun w S S' v t h => ⟨h.1.mono t, h.2.1, fun b hb => t b (h.2.2 b hb)⟩,
  fun w w' S v t h => ⟨h.1.keep t, h.2.1.imp (fun C hc => ownsRow_keep hc h.2.2 t), h.2.2⟩, fun w S S' v t h => ⟨h.1.mono t, h.2.1, fun b hb => t b (h.2.2 b hb)⟩, fun w S v h => h⟩
theorem RdV.en {w : World} {S : Nat → Prop} {v : Value} {l : List En} (r : RdV w S v (ensO l)) : RdV w S v (ensDt l) := r.1
theorem RdV.row4 {w : World} {S : Nat → Prop} {v : Value} {l : List En} (r : RdV w S v (ensO l)) : ∃ C, w.ownsRow 0 81 4 v l.length C := r.2.1
theorem RdV.own4 {w : World} {S : Nat → Prop} {v : Value} {l : List En} (r : RdV w S v (ensO l)) : ∀ b, v.ownBlock = some b → S b := r.2.2
theorem ensO.mk {w : World} {S : Nat → Prop} {v : Value} {l : List En} {C : List Value} {lo : Nat} (r : RdV w S v (ensDt l)) (h : w.ownsRow lo 81 4 v l.length C) (hb : ∀ b, v.ownBlock = some b → S b) : RdV w S v (ensO l) := ⟨r, ⟨C, ownsRow_base h⟩, hb⟩
theorem OwV.en {w : World} {S : Nat → Prop} {v : Value} {l : List En} (o : OwV w S v (ensDt l)) : RdV w S v (ensO l) := by
 obtain ⟨V, C, Q, h1, h2, _⟩ := OwV.inv o
 exact ensO.mk (OwV.rd o) h1 h2
def SN (w : World) (lo : Nat) (v : Value) (l : List Nd) : Prop :=
 ∃ (V : Nat → Value) (C : List Value), w.ownsRow lo 75 9 v l.length C ∧ (∀ i j, i < l.length → j < 9 → C[i * 9 + j]? = some (ndVal (l[i]?.getD nd0) (V i) j)) ∧ ∀ i, i < l.length → RdV w (Ent w lo v) (V i) (ensO (l[i]?.getD nd0).es)
theorem SN.nil (w : World) (lo : Nat) : SN w lo (.n0) [] :=
 ⟨fun _ => undef, [], World.ownsRow_nil _ _ _ _, fun i j hi => absurd hi (Nat.not_lt_zero _), fun i hi => absurd hi (Nat.not_lt_zero _)⟩
theorem SN.lt {w : World} {lo : Nat} {v : Value} {l : List Nd} (s : SN w lo v l) : ∀ b, v.ownBlock = some b → lo ≤ b ∧ b < w.heap.size := by
 obtain ⟨V, C, h1, h2, h3⟩ := s
 exact fun b hb => h1.lt b hb
theorem SN.keep {w w' : World} {lo : Nat} {v : Value} {l : List Nd} (s : SN w lo v l) (t : Keeps (fun b => lo ≤ b ∧ b < w.heap.size) w w') : SN w' lo v l := by
 have hb := s.lt
 obtain ⟨V, C, h1, h2, h3⟩ := s
 exact ⟨V, C, ownsRow_keep h1 hb t, h2, fun i hi => RdV.mono (fun b hb => ⟨hb.1, Nat.lt_of_lt_of_le hb.2.1 t.1, hb.2.2⟩) (RdV.keep (t.mono (fun b hb => ⟨hb.1, hb.2.1⟩)) (h3 i hi))⟩
theorem SN.step {w w' : World} {lo : Nat} {v : Value} {l : List Nd} (s : SN w lo v l) (hb : Below w.heap.size w w') : SN w' lo v l := s.keep (Keeps.ofBelow hb)
theorem SN.grow {w w' : World} {lo g cap : Nat} {v x : Value} {l : List Nd} {n : Nd} (hx : RdV w (Ent w lo v) x (ensO n.es)) (V : Nat → Value) (C : List Value) (h1 : w.ownsRow lo 75 9 v l.length C)
  (h2 : ∀ i j, i < l.length → j < 9 → C[i * 9 + j]? = some (ndVal (l[i]?.getD nd0) (V i) j)) (h3 : ∀ i, i < l.length → RdV w (Ent w lo v) (V i) (ensO (l[i]?.getD nd0).es))
  (ho : w'.ownsRow lo 75 9 (.slice (some ⟨g, 0, none⟩) (l.length + 1) cap) (l.length + 1) (C ++ [.i n.h.sh, .i n.h.ino, .bool n.h.dir, .i n.par.sh, .i n.par.ino, .bool n.par.dir, .i n.links, .i n.val, x]))
  (hg : w.grownBy w' v.ownBlock) (hgg : v.ownBlock = some g ∨ g = w.heap.size) : SN w' lo (.slice (some ⟨g, 0, none⟩) (l.length + 1) cap) (l ++ [n]) := by
 have hsz := hg.size
 have hCl : C.length = l.length * 9 := h1.1
 have hln : (l ++ [n]).length = l.length + 1 := by simp
 have hrd : ∀ (y : Value) (es : List En), RdV w (Ent w lo v) y (ensO es) → RdV w' (Ent w' lo (.slice (some ⟨g, 0, none⟩) (l.length + 1) cap)) y (ensO es) := fun y es r =>
  RdV.mono (fun b hb => ⟨hb.1, by have := hb.2.1; omega, fun e => by
   have e' : g = b := by simpa [Value.ownBlock] using e
   rcases hgg with h | h
   ·exact hb.2.2 (by rw [h, e'])
   ·have := hb.2.1; omega⟩) (RdV.keep ⟨hsz, fun b hb hlt => hg.block b hlt (fun h => hb.2.2 h.symm)⟩ r)
 refine ⟨fun i => if i < l.length then V i else x, _, by rw [hln]; exact ho, fun i j hi hj => ?_, fun i hi => ?_⟩
 ·rw [hln] at hi
  by_cases hlt : i < l.length
  ·simp only [hlt, if_true]
   rw [List.getElem?_append_left (by rw [hCl]; exact place_lt hlt hj), List.getElem?_append_left hlt]
   exact h2 i j hlt hj
  ·obtain rfl : i = l.length := by omega
   simp only [Nat.lt_irrefl, if_false]
   rw [List.getElem?_append_right (by omega), hCl, show l.length * 9 + j - l.length * 9 = j by omega, show (l ++ [n])[l.length]?.getD nd0 = n by simp]
   match j, hj with
   | 0, _ => rfl
   | 1, _ => rfl
   | 2, _ => rfl
   | 3, _ => rfl
   | 4, _ => rfl
   | 5, _ => rfl
   | 6, _ => rfl
   | 7, _ => rfl
   | 8, _ => rfl
 ·rw [hln] at hi
  by_cases hlt : i < l.length
  ·simp only [hlt, if_true]
   rw [List.getElem?_append_left hlt]
   exact hrd _ _ (h3 i hlt)
  ·obtain rfl : i = l.length := by omega
   simp only [Nat.lt_irrefl, if_false]
   rw [show (l ++ [n])[l.length]?.getD nd0 = n by simp]
   exact hrd _ _ hx
theorem step_appNd {ops : Array Oper} {o : Oper} {a : Act} {K : Act → World → Prop} {Q : Exit → Act → World → Prop} {E : Prop} (w : World) (hgd : o.guard = none) (s x : Operand)
  (ho : o.op = .call { callee := .builtin .append, args := #[s, x], argTypes := #[23, 23] })
  (v : Value) (hs : a.eval s = v) (l : List Nd) (n : Nd) (u : Value) (lo q : Nat) (hx : a.eval x = .slice (some ⟨q, 0, none⟩) 1 1) (hone : u.oneCell' = true) (fr : Nat × Nat)
  (hq : w.heap[q]? = some (.cells #[.i n.h.sh, .i n.h.ino, .bool n.h.dir, .i n.par.sh, .i n.par.ino, .bool n.par.dir, .i n.links, .i n.val, u] 75 fr))
  (hown : SN w lo v l) (hu : RdV w (Ent w lo v) u (ensO n.es)) (hlo : lo ≤ w.heap.size) (hl : l.length ≤ 4000)
  (h : ∀ g m cap w', SN w' lo (.slice g m cap) (l ++ [n]) → w.grownBy w' v.ownBlock → K (a.put o.dst (.slice g m cap)) w') : if Region.wanted o (yielded ops a.tmps) = true then Oper.wp Tryz.prog o a w K Q else E := by
 obtain ⟨i0, hi0, hz0, hz1, hz2⟩ := info_parts Tryz.infoNd
 obtain ⟨V, C, h1, h2, h3⟩ := hown
 refine step_append_lies w hgd s x 23 ho lo 75 i0 _ 9 _ Tryz.underlying23 hi0 hz0 hz1 hz2 rfl (by decide) v l.length C hs h1 ⟨q, 0, none⟩ 1 1 [.i n.h.sh, .i n.h.ino, .bool n.h.dir, .i n.par.sh, .i n.par.ino, .bool n.par.dir, .i n.links, .i n.val, u] hx rfl (World.news_of_block hq) (fun y hy => ?_) (by decide) (by unfold maxLen; omega) (by omega) hlo w.heap.size rfl ?_
 ·simp only [List.mem_cons, List.not_mem_nil, or_false] at hy
  rcases hy with rfl | rfl | rfl | rfl | rfl | rfl | rfl | rfl | rfl <;> first | exact hone | rfl
 intro g cap w' ho' hg hgg hgl
 exact h _ _ _ w' (SN.grow hu V C h1 h2 h3 ho' hg hgg) hg
theorem wpList_appNd {ops : Array Oper} {rest : List Oper} {o : Oper} {a : Act} {Q : Exit → Act → World → Prop} (w : World) (hgd : o.guard = none) (s x : Operand)
  (ho : o.op = .call { callee := .builtin .append, args := #[s, x], argTypes := #[23, 23] })
  (v : Value) (hs : a.eval s = v) (l : List Nd) (n : Nd) (u : Value) (lo q : Nat) (hx : a.eval x = .slice (some ⟨q, 0, none⟩) 1 1) (hone : u.oneCell' = true) (fr : Nat × Nat)
  (hq : w.heap[q]? = some (.cells #[.i n.h.sh, .i n.h.ino, .bool n.h.dir, .i n.par.sh, .i n.par.ino, .bool n.par.dir, .i n.links, .i n.val, u] 75 fr))
  (hown : SN w lo v l) (hu : RdV w (Ent w lo v) u (ensO n.es)) (hlo : lo ≤ w.heap.size) (hl : l.length ≤ 4000)
  (h : ∀ g m cap w', SN w' lo (.slice g m cap) (l ++ [n]) → w.grownBy w' v.ownBlock → wpList Tryz.prog ops Q rest (a.put o.dst (.slice g m cap)) w') : wpList Tryz.prog ops Q (o :: rest) a w := by
 obtain ⟨i0, hi0, hz0, hz1, hz2⟩ := info_parts Tryz.infoNd
 obtain ⟨V, C, h1, h2, h3⟩ := hown
 refine wpList_append_lies w hgd s x 23 ho lo 75 i0 _ 9 _ Tryz.underlying23 hi0 hz0 hz1 hz2 rfl (by decide) v l.length C hs h1 ⟨q, 0, none⟩ 1 1 [.i n.h.sh, .i n.h.ino, .bool n.h.dir, .i n.par.sh, .i n.par.ino, .bool n.par.dir, .i n.links, .i n.val, u] hx rfl (World.news_of_block hq) (fun y hy => ?_) (by decide) (by unfold maxLen; omega) (by omega) hlo w.heap.size rfl ?_
 ·simp only [List.mem_cons, List.not_mem_nil, or_false] at hy
  rcases hy with rfl | rfl | rfl | rfl | rfl | rfl | rfl | rfl | rfl <;> first | exact hone | rfl
 intro g cap w' ho' hg hgg hgl
 exact h _ _ _ w' (SN.grow hu V C h1 h2 h3 ho' hg hgg) hg
end
section
theorem SN.low {w : World} {lo lo' : Nat} {v : Value} {l : List Nd} (s : SN w lo v l) (h : lo' ≤ lo) : SN w lo' v l := by
 obtain ⟨V, C, h1, h2, h3⟩ := s
 exact ⟨V, C, ⟨h1.1, h1.2.imp id (fun ⟨g, c, cur, hv, hg, r⟩ => ⟨g, c, cur, hv, Nat.le_trans h hg, r⟩)⟩, h2, fun i hi => RdV.mono (fun b hb => ⟨Nat.le_trans h hb.1, hb.2⟩) (h3 i hi)⟩

def CpRel (w : World) (v : Value) (l : List Nd) (i : Value) (wr : World) : Prop :=
 ∃ (k : Nat) (ga : Option Addr) (gn gc : Nat), k ≤ l.length ∧ i = .i k ∧ VarA wr w.heap.size 25 #[v] ∧ VarA wr (w.heap.size + 1) 25 #[.n0] ∧ VarA wr (w.heap.size + 1 + 1) 25 #[.slice ga gn gc] ∧ SN wr (w.heap.size + 3) (.slice ga gn gc) (l.take k) ∧ Below w.heap.size w wr ∧ w.heap.size + 3 ≤ wr.heap.size
set_option maxHeartbeats 4000000 in
theorem specCopy4_any (v : Value) (l : List Nd) (S : Nat → Prop) (w : World) (r : RdV w S v (ndsDt l)) (hl : szNds l ≤ 2097152) (hn : l.length ≤ 4000) (hes : ∀ i : Nat, (l[i]?.getD nd0).es.length ≤ 4000) :
  Calls Tryz.prog 61 #[.agg #[v]] w fun e w' => ∃ a n c, e = .returned (.agg #[.slice a n c]) ∧ SN w' w.heap.size (.slice a n c) l ∧ Below w.heap.size w w' := by
 obtain ⟨a, cap, rfl, _⟩ := RdV.sliced r
 have HR : Hid (∀ W, Below w.heap.size w W → RdV W S (.slice a l.length cap) (ndsDt l)) := fun W hW => r.step hW
 clear r
 go_enter Tryz.func61, Tryz.ntmps61
 go_wp2
 go_loopw [4] (fun i wr => CpRel w (.slice a l.length cap) l i wr) (fun i _ => l.length - (intOf i).toNat)
 case atStart =>
  refine ⟨0, none, 0, 0, Nat.zero_le _, rfl, ((VarA.new w _ _).alloc _).alloc _, ?_, ?_, by rw [List.take_zero]; exact SN.nil _ _, (((Below.refl _ _).alloc (Nat.le_refl _) _).alloc (by simp) _).alloc (by simp; omega) _, by simp⟩
  ·have := (VarA.new (w.alloc (.cells #[.slice a l.length cap] 25)) 25 #[.n0]).alloc (.cells #[.n0] 25)
   simpa using this
  ·have := VarA.new ((w.alloc (.cells #[.slice a l.length cap] 25)).alloc (.cells #[.n0] 25)) 25 #[.n0]
   simpa using this
 case round =>
  obtain ⟨k, ga, gn, gc, hk, rfl, vT, vR, vO, sn, bw, hsz⟩ := hrel
  have t0 := vT.c 0 rfl
  by_cases hlt : k < l.length
  ·obtain ⟨b, off, rfl, hbl, hSb, hc⟩ := (HR.out w (Below.refl _ _)).at hlt
   have htk : l.take (k + 1) = l.take k ++ [l[k]?.getD nd0] := by rw [List.take_succ_eq_append_getElem hlt]; simp [hlt]
   have hel := hes k
   have hzn : szEns (l[k]?.getD nd0).es ≤ 2097152 := Nat.le_trans (szNds_at l k) hl
   obtain ⟨x0, q0, r0⟩ := hc 0 (by omega)
   obtain ⟨x1, q1, r1⟩ := hc 1 (by omega)
   obtain ⟨x2, q2, r2⟩ := hc 2 (by omega)
   obtain ⟨x3, q3, r3⟩ := hc 3 (by omega)
   obtain ⟨x4, q4, r4⟩ := hc 4 (by omega)
   obtain ⟨x5, q5, r5⟩ := hc 5 (by omega)
   obtain ⟨x6, q6, r6⟩ := hc 6 (by omega)
   obtain ⟨x7, q7, r7⟩ := hc 7 (by omega)
   obtain ⟨x8, q8, r8⟩ := hc 8 (by omega)
   generalize l[k]?.getD nd0 = nd at r0 r1 r2 r3 r4 r5 r6 r7 r8 htk hel hzn
   obtain ⟨⟨s0, s1, s2⟩, ⟨s3, s4, s5⟩, lk, vl, es⟩ := nd
   obtain rfl : x0 = .i s0 := r0
   obtain rfl : x1 = .i s1 := r1
   obtain rfl : x2 = .bool s2 := r2
   obtain rfl : x3 = .i s3 := r3
   obtain rfl : x4 = .i s4 := r4
   obtain rfl : x5 = .bool s5 := r5
   obtain rfl : x6 = .i lk := r6
   obtain rfl : x7 = .i vl := r7
   have r8' : RdV w S x8 (ensDt es) := r8
   obtain ⟨xa, xc, rfl, _⟩ := RdV.sliced r8'
   have HCE : Hid (∀ W, Below w.heap.size w W → _) := fun W hW => specCopyEn_any _ es S W (r8'.step hW) hzn hel
   have p0 := (bw.cell (p := ⟨b, off + k * 9 + 0, none⟩) hbl).trans q0
   have p1 := (bw.cell (p := ⟨b, off + k * 9 + 1, none⟩) hbl).trans q1
   have p2 := (bw.cell (p := ⟨b, off + k * 9 + 2, none⟩) hbl).trans q2
   have p3 := (bw.cell (p := ⟨b, off + k * 9 + 3, none⟩) hbl).trans q3
   have p4 := (bw.cell (p := ⟨b, off + k * 9 + 4, none⟩) hbl).trans q4
   have p5 := (bw.cell (p := ⟨b, off + k * 9 + 5, none⟩) hbl).trans q5
   have p6 := (bw.cell (p := ⟨b, off + k * 9 + 6, none⟩) hbl).trans q6
   have p7 := (bw.cell (p := ⟨b, off + k * 9 + 7, none⟩) hbl).trans q7
   have p8 := (bw.cell (p := ⟨b, off + k * 9 + 8, none⟩) hbl).trans q8
   rw [Nat.add_zero] at p0
   have HSN : Hid (SN wr (w.heap.size + 3) (.slice ga gn gc) (l.take k)) := sn
   have HBW : Hid (Below w.heap.size w wr) := bw
   have HVT : Hid (VarA wr w.heap.size 25 _) := vT
   have HVR : Hid (VarA wr (w.heap.size + 1) 25 _) := vR
   have HVO : Hid (VarA wr (w.heap.size + 1 + 1) 25 _) := vO
   have HTK : Hid _ := htk
   clear q0 q1 q2 q3 q4 q5 q6 q7 q8 r8 r8' hc vT vR vO sn bw htk
   go_wp2_with fail
   refine Calls.mono (HCE.out _ (HBW.out.alloc HBW.out.size _)) ?_
   rintro e w6 ⟨ea, en, ec, rfl, oE, b6⟩
   have s6 := b6.size
   rw [World.size_alloc] at s6
   have vN : VarA w6 wr.heap.size 75 _ := (VarA.new wr 75 #[.i s0, .i s1, .bool s2, .i s3, .i s4, .bool s5, .i lk, .i vl, .slice xa es.length xc]).step b6
   have b6' : Below wr.heap.size wr w6 := (Below.newH (w := wr) _).trans (b6.mono (by simp))
   have n0 := vN.c 0 rfl
   have n1 := vN.c 1 rfl
   have n2 := vN.c 2 rfl
   have n3 := vN.c 3 rfl
   have n4 := vN.c 4 rfl
   have n5 := vN.c 5 rfl
   have n6 := vN.c 6 rfl
   have n7 := vN.c 7 rfl
   have n8 := vN.c 8 rfl
   have nf := vN.fz
   have o0 := (HVO.out.step b6').c 0 rfl
   have hvo := HVO.out.lt
   have B8 : Below wr.heap.size wr ((w6.setCell ⟨wr.heap.size, 8, none⟩ (.slice ea en ec)).alloc (.cells #[.i s0, .i s1, .bool s2, .i s3, .i s4, .bool s5, .i lk, .i vl, .slice ea en ec] 75)) := (b6'.setCell (Nat.le_refl _) _).alloc (by simp; omega) _
   have SN8 := HSN.out.step B8
   have hvb := HSN.out.lt
   have RE8 : RdV ((w6.setCell ⟨wr.heap.size, 8, none⟩ (.slice ea en ec)).alloc (.cells #[.i s0, .i s1, .bool s2, .i s3, .i s4, .bool s5, .i lk, .i vl, .slice ea en ec] 75)) (Ent ((w6.setCell ⟨wr.heap.size, 8, none⟩ (.slice ea en ec)).alloc (.cells #[.i s0, .i s1, .bool s2, .i s3, .i s4, .bool s5, .i lk, .i vl, .slice ea en ec] 75)) (w.heap.size + 3) (.slice ga gn gc)) (.slice ea en ec) (ensO es) := by
    refine RdV.mono (fun q hq => ?_) (RdV.keep ?_ (OwV.en oE))
    ·simp at hq
     exact ⟨by omega, by simp; omega, fun h => by have := hvb q h; omega⟩
    ·refine ⟨by simp, fun q hq hlt => ?_⟩
     simp at hq
     rw [Below.heap_alloc _ _ q (by simpa using hlt), heap_setCell_other _ _ _ _ (by show q ≠ wr.heap.size; omega)]
   have HSN8 : Hid _ := SN8
   have HRE8 : Hid _ := RE8
   have HB8 : Hid _ := B8
   have hkl : (l.take k).length ≤ 4000 := by rw [List.length_take]; omega
   clear SN8 RE8 B8 oE b6 vN HCE p0 p1 p2 p3 p4 p5 p6 p7 p8
   go_wp2_with (at_builtin; go_must (refine wpList_appNd _ rfl (.tmp 23) (.tmp 25) rfl _ rfl (l.take k) ⟨(s0, s1, s2), (s3, s4, s5), lk, vl, es⟩ (.slice ea en ec) (w.heap.size + 3) w6.heap.size rfl rfl (0, 0) (by have := heap_alloc_new (w6.setCell ⟨wr.heap.size, 8, none⟩ (.slice ea en ec)) (.cells #[.i s0, .i s1, .bool s2, .i s3, .i s4, .bool s5, .i lk, .i vl, .slice ea en ec] 75); simpa using this) HSN8.out HRE8.out (by simp; omega) hkl ?_; intro g9 m9 c9 w9 sn9 hg9; have vO9 : VarA w9 (w.heap.size + 1 + 1) 25 #[.slice ga gn gc] := (hg9.block _ (by simp; omega) (fun h => by have := hvb _ h.symm; omega)).trans (HVO.out.step HB8.out); have z0 := vO9.c 0 rfl; have zf := vO9.fz))
   have s9 := hg9.size
   simp at s9
   have blk : ∀ q, q < wr.heap.size → q < w.heap.size + 3 → w9.heap[q]? = wr.heap[q]? := fun q hq hq3 => (hg9.block q (by simp; omega) (fun h => by have := hvb _ h.symm; omega)).trans (HB8.out.block q hq)
   have B9 : Below w.heap.size w w9 := Below.grown (HBW.out.trans (HB8.out.mono HBW.out.size)) hg9 (by have := HB8.out.size; omega) (fun q hq => by have := hvb q hq; omega)
   rw [← HTK.out] at sn9
   refine ⟨⟨k + 1, g9, m9, c9, by omega, by go_num, VarA.aside ((blk _ (by omega) (by omega)).trans HVT.out) (by show w.heap.size ≠ w.heap.size + 1 + 1; omega) _, VarA.aside ((blk _ (by omega) (by omega)).trans HVR.out) (by show w.heap.size + 1 ≠ w.heap.size + 1 + 1; omega) _, vO9.set 0 _, sn9.keep ⟨by simp, fun q hq _ => heap_setCell_other _ _ _ _ (by show q ≠ w.heap.size + 1 + 1; omega)⟩, B9.setCell (by show w.heap.size ≤ w.heap.size + 1 + 1; omega) _, by simp; omega⟩, by simp [intOf]; omega⟩
  ·have he : k = l.length := by omega
   subst he
   rw [List.take_length] at sn
   have r0 := vR.c 0 rfl
   have rf := vR.fz
   have o0 := vO.c 0 rfl
   have HSN : Hid _ := sn
   have HBW : Hid _ := bw
   clear vT vR vO sn bw
   go_wp2
   refine bodyPost_ret (v := .agg #[.slice ga gn gc]) (by simp [results, Tryz.results61, go_sem, r0]) rfl ⟨_, _, _, rfl, SN.low (SN.keep HSN.out ⟨by simp, fun q hq _ => heap_setCell_other _ _ _ _ (by show q ≠ w.heap.size + 1; omega)⟩) (by omega), HBW.out.setCell (by show w.heap.size ≤ w.heap.size + 1; omega) _⟩
end
section
def rootH : Hd := (0, 1, true)
def rootN : Nd := ⟨rootH, rootH, 1, 0, []⟩
abbrev rootV : Value := .agg #[.i 0, .i 1, .bool true]
theorem specRootH_any (w : World) : Calls Tryz.prog 39 #[] w fun e w' => e = .returned rootV ∧ w' = w.alloc (.cells #[.i 0, .i 1, .bool true] 27) := by
 go_enter Tryz.func39, Tryz.ntmps39
 go_wp2
 refine bodyPost_ret (v := rootV) (by simp [results, Tryz.results39, go_sem]) rfl ⟨rfl, rfl⟩
theorem implRootH_any (w : World) : Calls Tryz.prog 49 #[] w fun e w' => e = .returned rootV ∧ w' = w.alloc (.cells #[.i 0, .i 1, .bool true] 27) := by
 go_enter Tryz.func49, Tryz.ntmps49
 go_wp2
 refine bodyPost_ret (v := rootV) (by simp [results, Tryz.results49, go_sem]) rfl ⟨rfl, rfl⟩
theorem ow_root (w : World) (B : Nat) (hB : B ≤ w.heap.size) : OwV (w.alloc (.cells #[.i 0, .i 1, .bool true, .i 0, .i 1, .bool true, .i 1, .i 0, .n0] 75)) (fun b => B ≤ b ∧ b < (w.alloc (.cells #[.i 0, .i 1, .bool true, .i 0, .i 1, .bool true, .i 1, .i 0, .n0] 75)).heap.size) (.slice (some ⟨w.heap.size, 0, none⟩) 1 1) (ndsDt [rootN]) := by
 have h := World.ownsRow_lit (base := 0) (e := 75) (size := 9) w #[.i 0, .i 1, .bool true, .i 0, .i 1, .bool true, .i 1, .i 0, .n0] 1 (Nat.zero_le _) (by unfold maxLen; omega) rfl
 refine OwV.mkRows ⟨fun _ j => #[Value.i 0, .i 1, .bool true, .i 0, .i 1, .bool true, .i 1, .i 0, .n0][j]?.getD undef, _, fun _ _ _ => False, h, fun b hb => ?_, fun i j hi hj => ?_, fun i j hi hj => ?_, fun i j b _ _ hq => hq.elim, fun i j i' j' b _ _ _ _ hq => hq.elim⟩
 ·cases hb
  exact ⟨hB, by simp⟩
 ·obtain rfl : i = 0 := by simpa using hi
  match j, hj with
  | 0, _ => rfl
  | 1, _ => rfl
  | 2, _ => rfl
  | 3, _ => rfl
  | 4, _ => rfl
  | 5, _ => rfl
  | 6, _ => rfl
  | 7, _ => rfl
  | 8, _ => rfl
 ·obtain rfl : i = 0 := by simpa using hi
  match j, hj with
  | 0, _ => rfl
  | 1, _ => rfl
  | 2, _ => rfl
  | 3, _ => rfl
  | 4, _ => rfl
  | 5, _ => rfl
  | 6, _ => rfl
  | 7, _ => rfl
  | 8, _ => exact OwV.nilR _ _ _ _ _

set_option maxHeartbeats 1000000 in
theorem specRoot_any (w : World) : Calls Tryz.prog 75 #[] w fun e w' => ∃ a n c, e = .returned (.agg #[.slice a n c]) ∧ OwV w' (fun b => w.heap.size ≤ b ∧ b < w'.heap.size) (.slice a n c) (ndsDt [rootN]) ∧ Below w.heap.size w w' := by
 have HH : Hid (∀ W, _) := fun W => specRootH_any W
 go_enter Tryz.func75, Tryz.ntmps75
 go_wp2_with fail
 refine Calls.mono (HH.out _) ?_
 rintro e w2 ⟨rfl, rfl⟩
 go_wp2_with fail
 refine Calls.mono (HH.out _) ?_
 rintro e w2 ⟨rfl, rfl⟩
 go_wp2
 refine bodyPost_ret (v := .agg #[.slice (some ⟨w.heap.size + 1 + 1 + 1, 0, none⟩) 1 1]) (by simp [results, Tryz.results75, go_sem]) rfl ⟨_, _, _, rfl, ?_, ?_⟩
 ·have := ow_root (((w.alloc (.cells #[.slice (some ⟨w.heap.size + 1 + 1 + 1, 0, none⟩) 1 1] 25)).alloc (.cells #[.i 0, .i 1, .bool true] 27)).alloc (.cells #[.i 0, .i 1, .bool true] 27)) w.heap.size (by simp; omega)
  simpa using this
 ·exact (((((Below.refl _ _).alloc (Nat.le_refl _) _).alloc (by simp) _).alloc (by simp; omega) _).alloc (by simp; omega) _)
end
section
def leftT (n s : Nat) : Int := if n ≤ s then (s : Int) - n else -1

def psum {α : Type} (f : α → Nat) (l : List α) (j : Nat) : Nat := ((l.take j).map f).sum
theorem psum_zero {α : Type} (f : α → Nat) (l : List α) : psum f l 0 = 0 := by simp [psum]
theorem psum_all {α : Type} (f : α → Nat) (l : List α) : psum f l l.length = (l.map f).sum := by simp [psum]
theorem psum_next {α : Type} (f : α → Nat) (l : List α) (d : α) (j : Nat) (h : j < l.length) : psum f l (j + 1) = psum f l j + f (l[j]?.getD d) := by
 unfold psum
 rw [List.take_succ_eq_append_getElem h, List.map_append, List.sum_append]
 simp [h]
theorem psum_le {α : Type} (f : α → Nat) (l : List α) (j : Nat) : psum f l j ≤ (l.map f).sum := by
 have : (l.map f).sum = ((l.take j).map f).sum + ((l.drop j).map f).sum := by rw [← List.sum_append, ← List.map_append, List.take_append_drop]
 unfold psum
 omega

theorem psum_mono0 {α : Type} (f g : α → Nat) (h : ∀ a, f a ≤ g a) (l : List α) : (l.map f).sum ≤ (l.map g).sum := by
 induction l with
 | nil => simp
 | cons x r ih => have := h x; simp; omega
end
section
def lessH (a b : Hd) : Bool := decide (a.sh < b.sh) || (decide (a.sh = b.sh) && decide (a.ino < b.ino))
theorem specLess_any (a b : Hd) (w : World) : Calls Tryz.prog 41 #[a.v, b.v] w fun e w' => e = .returned (.bool (lessH a b)) ∧ Below w.heap.size w w' := by
 obtain ⟨s, i, d⟩ := a
 obtain ⟨s2, i2, d2⟩ := b
 go_enter Tryz.func41, Tryz.ntmps41
 go_wp2
 all_goals (go_ret; exact ⟨by first | rfl | (simp_all [lessH] <;> omega), Below.newH2 _ _⟩)

def fi (l : List Nd) (h : Hd) : Nat := l.findIdx (fun n => decide (n.h = h))
def findH (l : List Nd) (h : Hd) : Int := if fi l h < l.length then (fi l h : Int) else -1
theorem fi_at (l : List Nd) (h : Hd) (k : Nat) (hk : k < l.length) (h1 : (l[k]?.getD nd0).h = h) (h2 : ∀ i, i < k → (l[i]?.getD nd0).h ≠ h) : fi l h = k := by
 unfold fi
 rw [List.findIdx_eq hk]
 refine ⟨by simpa [hk] using h1, fun j hj => ?_⟩
 have := h2 j hj
 have hj' : j < l.length := by omega
 simpa [hj'] using this
theorem fi_none (l : List Nd) (h : Hd) (h2 : ∀ i, i < l.length → (l[i]?.getD nd0).h ≠ h) : findH l h = -1 := by
 unfold findH fi
 rw [if_neg]
 rw [List.findIdx_lt_length]
 rintro ⟨x, hx, hp⟩
 obtain ⟨i, hi, rfl⟩ := List.getElem_of_mem hx
 exact h2 i hi (by simpa [hi] using hp)

set_option maxHeartbeats 2000000 in
theorem specFind_any (x : Value) (l : List Nd) (h : Hd) (S : Nat → Prop) (w : World) (r : RdV w S x (ndsDt l)) (hl : l.length ≤ 2097152) :
  Calls Tryz.prog 42 #[.agg #[x], h.v] w fun e w' => e = .returned (.i (findH l h)) ∧ Below w.heap.size w w' := by
 obtain ⟨a, cap, rfl, _⟩ := RdV.sliced r
 obtain ⟨s, ino, d⟩ := h
 have HR : Hid (∀ W, Below w.heap.size w W → RdV W S (.slice a l.length cap) (.rows 75 9 l.length (fun i j => ndCell (l[i]?.getD nd0) j))) := RdV.old r
 obtain ⟨n, hn⟩ : ∃ n, l.length = n := ⟨_, rfl⟩
 rw [hn] at hl HR ⊢
 have HN : Hid _ := hn
 clear r hn
 go_enter Tryz.func42, Tryz.ntmps42
 go_wp2
 go_loopw [5] (fun i wr => ∃ k : Nat, k ≤ n ∧ i = .i k ∧ Below w.heap.size w wr ∧ VarA wr w.heap.size 25 #[.slice a n cap] ∧ VarA wr (w.heap.size + 1) 27 #[.i s, .i ino, .bool d] ∧ Hid (∀ i, i < k → (l[i]?.getD nd0).h ≠ (s, ino, d))) (fun i _ => n - (intOf i).toNat)
 case atStart => exact ⟨0, Nat.zero_le _, rfl, Below.newH2 _ _, (VarA.new w _ _).alloc _, by have := VarA.new (w.alloc (.cells #[.slice a n cap] 25)) 27 #[.i s, .i ino, .bool d]; simpa using this, fun i hi => absurd hi (Nat.not_lt_zero _)⟩
 case round =>
  obtain ⟨k, hk, rfl, hbel, v0, v1, HA⟩ := hrel
  have c0 := v0.l1
  obtain ⟨f0, f1, f2⟩ := v1.l3
  by_cases hlt : k < n
  ·obtain ⟨b, off, rfl, hbl, _, hx⟩ := RdV.at (HR.out wr hbel) hlt
   obtain ⟨e, he⟩ : ∃ e, l[k]?.getD nd0 = e := ⟨_, rfl⟩
   obtain ⟨x0, c1, r0⟩ := hx 0 (by omega)
   obtain ⟨x1, c2, r1⟩ := hx 1 (by omega)
   obtain ⟨x2, c3, r2⟩ := hx 2 (by omega)
   rw [he] at r0 r1 r2
   have HE : Hid _ := he
   clear hx he
   obtain ⟨⟨p, q, dd⟩, par, lk, vl, es⟩ := e
   obtain rfl : x0 = .i p := r0
   obtain rfl : x1 = .i q := r1
   obtain rfl : x2 = .bool dd := r2
   simp only [Nat.add_zero] at c1
   have HY : Hid ((p = s ∧ q = ino ∧ dd = d) → findH l (s, ino, d) = (k : Int)) := by
    rintro ⟨rfl, rfl, rfl⟩
    have := fi_at l (p, q, dd) k (by rw [HN.out]; exact hlt) (by rw [HE.out]) HA.out
    show _ = _
    unfold findH
    rw [this, if_pos (by rw [HN.out]; exact hlt)]
   have HZ : Hid (¬ (p = s ∧ q = ino ∧ dd = d) → ∀ i, i < k + 1 → (l[i]?.getD nd0).h ≠ (s, ino, d)) := fun hne i hi => by
    by_cases h1 : i < k
    ·exact HA.out i h1
    ·obtain rfl : i = k := by omega
     rw [HE.out]
     intro e
     simp only [Prod.mk.injEq] at e
     exact hne e
   clear HA
   by_cases h1 : p = s
   case neg =>
    have g1 : (p == s) = false := by simpa using h1
    have HF : Hid _ := HZ.out (fun e => h1 e.1)
    clear HY HZ
    go_wp2
    go_quiet (fail)
    go_wp2
    go_roundw
    case rel => exact ⟨k + 1, by omega, by go_num, below_drewN2 hbel _, v0, v1, HF.out⟩
    case measure => simp [intOf]; omega
   subst h1
   by_cases h2 : q = ino
   case neg =>
    have g1 : (q == ino) = false := by simpa using h2
    have HF : Hid _ := HZ.out (fun e => h2 e.2.1)
    clear HY HZ
    go_wp2
    go_quiet (fail)
    go_wp2
    go_roundw
    case rel => exact ⟨k + 1, by omega, by go_num, below_drewN2 hbel _, v0, v1, HF.out⟩
    case measure => simp [intOf]; omega
   subst h2
   by_cases h3 : dd = d
   case neg =>
    have g1 : (dd == d) = false := by simpa using h3
    have HF : Hid _ := HZ.out (fun e => h3 e.2.2)
    clear HY HZ
    go_wp2
    go_quiet (fail)
    go_wp2
    go_roundw
    case rel => exact ⟨k + 1, by omega, by go_num, below_drewN2 hbel _, v0, v1, HF.out⟩
    case measure => simp [intOf]; omega
   subst h3
   have HF : Hid _ := HY.out ⟨rfl, rfl, rfl⟩
   clear HY HZ
   go_wp2
   go_quiet (fail)
   go_wp2
   go_ret
   exact ⟨by rw [HF.out]; rfl, below_drewN2 hbel _⟩
  ·have he : k = n := by omega
   subst he
   have HF : Hid (findH l (s, ino, d) = -1) := fi_none l _ (fun i hi => HA.out i (by rw [HN.out] at hi; exact hi))
   go_wp2
   go_ret
   exact ⟨by rw [HF.out]; rfl, hbel⟩

def cntE (es : List En) (h : Hd) : Nat := es.countP (fun e => decide (e.h = h))
def cntH (l : List Nd) (h : Hd) : Nat := psum (fun n => cntE n.es h) l l.length
theorem cntE_next (es : List En) (h : Hd) (k : Nat) (hk : k < es.length) : cntE (es.take (k + 1)) h = cntE (es.take k) h + (if (es[k]?.getD en0).h = h then 1 else 0) := by
 unfold cntE
 rw [List.take_succ_eq_append_getElem hk, List.countP_append]
 simp [hk, List.countP_cons]
theorem cntE_le (es : List En) (h : Hd) (k : Nat) : cntE (es.take k) h ≤ es.length := by
 unfold cntE
 exact Nat.le_trans List.countP_le_length (by simp; omega)
end
section
theorem conv_any (a : Option Addr) (xs : List Int) (len cap : Nat) (w : World) (hx : Reads w a xs) (hl : len = xs.length) : (convert 22 9 (.slice a len cap)).run Tryz.prog w = .ok (.string (strOfNums xs)) w := by
 subst hl
 cases a with
 | none =>
  rcases hx.2 with rfl | ⟨b, off, ha, _⟩
  ·exact run_convert_bytes_nil w 22 5 Tryz.underlying22 Tryz.underlying5 _ _ 9 Tryz.underlying9
  ·cases ha
 | some ad =>
  by_cases h0 : xs = []
  ·subst h0
   rw [run_convert_bytes_string w 22 9 5 _ _ cap Tryz.underlying22 Tryz.underlying5 Tryz.underlying9]
   have hld : (loadCells ad 0).run Tryz.prog w = .ok (([] : List Int).map (Value.int .u8)).toArray w := by
    have := run_loadCells_list (P := Tryz.prog) w ad [] (fun j v hj => by simp at hj)
    simpa using this
   rw [List.length_nil, run_bytesToString w ad 0 cap [] hld]
   rfl
  ·rcases hx.2 with h1 | ⟨b, off, ha, hb, hc⟩
   ·exact absurd h1 h0
   ·cases ha
    exact run_convert_bytes_arg w 22 5 Tryz.underlying22 Tryz.underlying5 b off xs.length cap xs rfl (fun i hi => by rw [hc i hi]; simp) 9 Tryz.underlying9

set_option maxHeartbeats 1000000 in
theorem sameBytes_any (a b : Option Addr) (xs : List Int) (la ca lb cb : Nat) (w : World) (hx : Reads w a xs) (hy : Reads w b xs) (hla : la = xs.length) (hlb : lb = xs.length) :
  Calls Tryz.prog 100 #[.slice a la ca, .slice b lb cb] w fun e w' => e = .returned (.bool true) ∧ w' = w := by
 have h1 := conv_any a xs la ca w hx hla
 have h2 := conv_any b xs lb cb w hy hlb
 generalize strOfNums xs = s at h1 h2
 clear hla hlb hx hy
 go_enter Tryz.func100, Tryz.ntmps100
 go_wp2
 go_ret
 exact ⟨by simp, rfl⟩
end
section
open Go.RowKit Go.Lib
theorem bytes_inj : ∀ (xs ys : List Int), isBytes xs → isBytes ys → bytesOf xs = bytesOf ys → xs = ys := by
 intro xs
 induction xs with
 | nil => intro ys _ _ h; cases ys with
  | nil => rfl
  | cons y r => simp [bytesOf] at h
 | cons x r ih =>
  intro ys hx hy h
  cases ys with
  | nil => simp [bytesOf] at h
  | cons y s =>
   have h0 := hx 0
   have k0 := hy 0
   simp only [List.getElem?_cons_zero, Option.getD_some] at h0 k0
   simp only [bytesOf, List.map_cons, List.cons.injEq] at h
   have e : x = y := by
    have h1 := congrArg UInt8.toNat h.1
    simp only [UInt8.toNat_ofNat'] at h1
    omega
   subst e
   rw [ih s (fun j => by have := hx (j + 1); simpa using this) (fun j => by have := hy (j + 1); simpa using this) h.2]
theorem str_eq (xs ys : List Int) (hx : isBytes xs) (hy : isBytes ys) : ((strOfNums xs).toList == (strOfNums ys).toList) = decide (xs = ys) := by
 rw [strOfNums_toList, strOfNums_toList]
 by_cases h : xs = ys
 ·subst h; simp
 ·simp only [h, decide_false]
  exact beq_eq_false_iff_ne.2 (fun e => h (bytes_inj xs ys hx hy e))
end
section
def ei (es : List En) (nm : List Int) : Nat := es.findIdx (fun e => decide (e.nm = nm))
def findE (es : List En) (nm : List Int) : Int := if ei es nm < es.length then (ei es nm : Int) else -1
theorem ei_at (l : List En) (h : List Int) (k : Nat) (hk : k < l.length) (h1 : (l[k]?.getD en0).nm = h) (h2 : ∀ i, i < k → (l[i]?.getD en0).nm ≠ h) : ei l h = k := by
 unfold ei
 rw [List.findIdx_eq hk]
 refine ⟨by simpa [hk] using h1, fun j hj => ?_⟩
 have := h2 j hj
 have hj' : j < l.length := by omega
 simpa [hj'] using this
theorem ei_none (l : List En) (h : List Int) (h2 : ∀ i, i < l.length → (l[i]?.getD en0).nm ≠ h) : findE l h = -1 := by
 unfold findE ei
 rw [if_neg]
 rw [List.findIdx_lt_length]
 rintro ⟨x, hx, hp⟩
 obtain ⟨i, hi, rfl⟩ := List.getElem_of_mem hx
 exact h2 i hi (by simpa [hi] using hp)
theorem conv_d (v : Value) (zs : List Int) (S : Nat → Prop) (w : World) (r : RdV w S v (.bytes zs)) : (convert 22 9 v).run Tryz.prog w = .ok (.string (strOfNums zs)) w := by
 obtain ⟨a, cap, rfl, _, hr⟩ := r.b.reads
 exact conv_any a zs zs.length cap w hr rfl

set_option maxHeartbeats 2000000 in
theorem specEntry_any (x y : Value) (n : Nd) (nm : List Int) (S S2 : Nat → Prop) (w : World) (r : RdV w S x (ensDt n.es)) (r2 : RdV w S2 y (.bytes nm)) (hl : n.es.length ≤ 2097152) :
  Calls Tryz.prog 95 #[ndV n x, y] w fun e w' => e = .returned (.i (findE n.es nm)) ∧ Below w.heap.size w w' := by
 obtain ⟨a, cap, rfl, _⟩ := RdV.sliced r
 obtain ⟨ya, yc, rfl⟩ := r2.sliceB
 obtain ⟨⟨p, q, d⟩, ⟨p2, q2, d2⟩, lk, vl, es⟩ := n
 dsimp only at r hl ⊢
 have hbn := r2.b.1
 have HR : Hid (∀ W, Below w.heap.size w W → RdV W S (.slice a es.length cap) (.rows 81 4 es.length (fun i j => enCell (es[i]?.getD en0) j))) := RdV.old r
 have HY : Hid (∀ W, Below w.heap.size w W → (convert 22 9 (.slice ya nm.length yc)).run Tryz.prog W = .ok (.string (strOfNums nm)) W) := fun W hW => conv_d _ nm S2 W (r2.step hW)
 obtain ⟨m, hm⟩ : ∃ m, es.length = m := ⟨_, rfl⟩
 rw [hm] at hl HR ⊢
 have HN : Hid _ := hm
 generalize nm.length = yn at *
 clear r r2 hm
 go_enter Tryz.func95, Tryz.ntmps95
 go_wp2
 go_loopw [5] (fun i wr => ∃ k : Nat, k ≤ m ∧ i = .i k ∧ Below w.heap.size w wr ∧ VarA wr w.heap.size 75 #[.i p, .i q, .bool d, .i p2, .i q2, .bool d2, .i lk, .i vl, .slice a m cap] ∧ Hid (∀ i, i < k → (es[i]?.getD en0).nm ≠ nm)) (fun i _ => m - (intOf i).toNat)
 case atStart => exact ⟨0, Nat.zero_le _, rfl, Below.newH _, VarA.new w _ _, fun i hi => absurd hi (Nat.not_lt_zero _)⟩
 case round =>
  obtain ⟨k, hk, rfl, hbel, v0, HA⟩ := hrel
  have c8 := v0.c 8 rfl
  dsimp at c8
  by_cases hlt : k < m
  ·obtain ⟨b, off, rfl, hbl, _, hx⟩ := RdV.at (HR.out wr hbel) hlt
   obtain ⟨e, he⟩ : ∃ e, es[k]?.getD en0 = e := ⟨_, rfl⟩
   obtain ⟨x0, c1, r0⟩ := hx 0 (by omega)
   rw [he] at r0
   have HE : Hid _ := he
   clear hx he
   obtain ⟨nm1, hh⟩ := e
   simp only [Nat.add_zero] at c1
   have RB : RdV wr S x0 (.bytes nm1) := r0
   have hb1 := RB.b.1
   have hcv : ∀ n, (convert 22 9 x0).run Tryz.prog (wr.drewN n) = .ok (.string (strOfNums nm1)) (wr.drewN n) := fun n => conv_d x0 nm1 S _ (RB.step (below_drewN2 (Below.refl _ _) n))
   have hcy : ∀ n, (convert 22 9 (.slice ya yn yc)).run Tryz.prog (wr.drewN n) = .ok (.string (strOfNums nm)) (wr.drewN n) := fun n => HY.out _ (below_drewN2 hbel n)
   obtain ⟨xa, xc, rfl⟩ := RB.sliceB
   generalize nm1.length = xn at *
   have hstr := str_eq nm1 nm hb1 hbn
   generalize strOfNums nm1 = s1 at hcv hstr
   generalize strOfNums nm = s2 at hcy hstr HY
   clear r0 RB hb1
   by_cases heq : nm1 = nm
   ·have HF : Hid (findE es nm = (k : Int)) := by
     have := ei_at es nm k (by rw [HN.out]; exact hlt) (by rw [HE.out]; exact heq) HA.out
     show _ = _
     unfold findE
     rw [this, if_pos (by rw [HN.out]; exact hlt)]
    simp only [heq, decide_true] at hstr
    clear HA HY
    go_wp2
    go_quiet (fail)
    go_wp2
    go_ret
    exact ⟨by rw [HF.out]; rfl, below_drewN2 hbel _⟩
   ·have HF : Hid (∀ i, i < k + 1 → (es[i]?.getD en0).nm ≠ nm) := fun i hi => by
     by_cases h1 : i < k
     ·exact HA.out i h1
     ·obtain rfl : i = k := by omega
      rw [HE.out]; exact heq
    simp only [heq, decide_false] at hstr
    clear HA HY
    go_wp2
    go_quiet (fail)
    go_wp2
    go_roundw
    case rel => exact ⟨k + 1, by omega, by go_num, below_drewN2 hbel _, v0, HF.out⟩
    case measure => simp [intOf]; omega
  ·have he : k = m := by omega
   subst he
   have HF : Hid (findE es nm = -1) := ei_none es _ (fun i hi => HA.out i (by rw [HN.out] at hi; exact hi))
   go_wp2
   go_ret
   exact ⟨by rw [HF.out]; rfl, hbel⟩
end
section
def refD (es : List En) (nm : List Int) : Int := if 0 ≤ findE es nm then 4 else if 12 ≤ es.length then 5 else 0
set_option maxHeartbeats 2000000 in
theorem specRefuse_any (x y : Value) (n : Nd) (nm : List Int) (S S2 : Nat → Prop) (w : World) (r : RdV w S x (ensDt n.es)) (r2 : RdV w S2 y (.bytes nm)) (hl : n.es.length ≤ 2097152) :
  Calls Tryz.prog 105 #[ndV n x, y] w fun e w' => e = .returned (.i (refD n.es nm)) ∧ Below w.heap.size w w' := by
 have HE : Hid (∀ W, Below w.heap.size w W → _) := fun W hW => specEntry_any x y n nm S S2 W (r.step hW) (r2.step hW) hl
 obtain ⟨a, cap, rfl, _⟩ := RdV.sliced r
 obtain ⟨ya, yc, rfl⟩ := r2.sliceB
 obtain ⟨⟨p, q, d⟩, ⟨p2, q2, d2⟩, lk, vl, es⟩ := n
 unfold refD
 dsimp only at HE hl ⊢
 generalize findE es nm = f at HE ⊢
 generalize es.length = en at *
 clear r r2
 go_enter Tryz.func105, Tryz.ntmps105
 go_wp2_with fail
 refine Calls.mono (HE.out _ (Below.newH _)) ?_
 rintro e w2 ⟨rfl, b_⟩
 have vA := (VarA.new w _ _).step b_
 have HB : Hid (Below w.heap.size w w2) := (Below.newH (w := w) _).trans (b_.mono (by simp))
 have c8 := vA.c 8 rfl
 clear b_ vA
 go_wp2
 all_goals (go_ret; refine ⟨?_, HB.out⟩; first | rfl | (simp_all; done) | (simp_all; omega))
end
section
structure Cls (w : World) where
 W : World
 h : Below w.heap.size w W
theorem Cls.ne (w : World) : Nonempty (Cls w) := ⟨⟨w, Below.refl _ _⟩⟩
theorem wp_region_cls {P : Program} {id : Nat} {Q : Exit → Act → World → Prop} {a : Act} {w : World} {l : List Oper} (hm : P.follows .mixedOrders = true) (hB : Region.lexB .any l.toArray = true)
  (h : wpQuiet P l.toArray (fun w' => ∃ i : Cls w, w' = i.W) (fun a' => ∀ w', (∃ i : Cls w, w' = i.W) → Q .normal a' w') l a) : (Code.region id l.toArray true).wp P Q a w :=
 wp_region_quiet (C := fun w' => ∃ i : Cls w, w' = i.W) hm hB ⟨⟨{ w with drawn := w.drawn + 1 }, ⟨rfl, rfl, rfl, Nat.le_refl _, fun _ _ => rfl⟩⟩, rfl⟩ (by simpa using h)
theorem Calls.cls {P : Program} {f : FuncId} {args : Array Value} {w : World} {i : Cls w} {v : Value} (h : Calls P f args i.W fun e w' => e = .returned v ∧ Below i.W.heap.size i.W w') :
  Calls P f args i.W fun e w'' => e = .returned v ∧ ∃ j : Cls w, w'' = j.W :=
 h.mono fun _ w' ⟨he, hb⟩ => ⟨he, ⟨w', i.h.trans (hb.mono i.h.size)⟩, rfl⟩
theorem Calls.cls_same {P : Program} {f : FuncId} {args : Array Value} {w : World} {i : Cls w} {v : Value} (h : Calls P f args i.W fun e w' => e = .returned v ∧ w' = i.W) :
  Calls P f args i.W fun e w'' => e = .returned v ∧ ∃ j : Cls w, w'' = j.W :=
 h.mono fun _ w' ⟨he, hb⟩ => ⟨he, i, hb⟩
theorem Calls.cls_new {P : Program} {f : FuncId} {args : Array Value} {w : World} {i : Cls w} {v : Value} {o : Obj} (h : Calls P f args i.W fun e w' => e = .returned v ∧ w' = i.W.alloc o) :
  Calls P f args i.W fun e w'' => e = .returned v ∧ ∃ j : Cls w, w'' = j.W :=
 h.mono fun _ w' ⟨he, hb⟩ => ⟨he, ⟨w', by rw [hb]; exact i.h.alloc i.h.size _⟩, rfl⟩
theorem Cls.cell {w : World} {b o : Nat} {u : Value} (hb : b < w.heap.size) (h : w.cell? ⟨b, o, none⟩ = some u) : ∀ i : Cls w, i.W.cell? ⟨b, o, none⟩ = some u := fun i => (i.h.cell (p := ⟨b, o, none⟩) hb).trans h
theorem VarA.set9 {w : World} {b : Nat} {T : TypeId} {x0 x1 x2 x3 x4 x5 x6 x7 x8 y0 y1 y2 y3 y4 y5 y6 y7 y8 : Value} (h : VarA w b T #[x0, x1, x2, x3, x4, x5, x6, x7, x8]) : VarA (((((((((w.setCell ⟨b, 0, none⟩ y0).setCell ⟨b, 1, none⟩ y1).setCell ⟨b, 2, none⟩ y2).setCell ⟨b, 3, none⟩ y3).setCell ⟨b, 4, none⟩ y4).setCell ⟨b, 5, none⟩ y5).setCell ⟨b, 6, none⟩ y6).setCell ⟨b, 7, none⟩ y7).setCell ⟨b, 8, none⟩ y8) b T #[y0, y1, y2, y3, y4, y5, y6, y7, y8] := by
 have h2 := (((((((((h.set 0 y0).set 1 y1).set 2 y2).set 3 y3).set 4 y4).set 5 y5).set 6 y6).set 7 y7).set 8 y8)
 simpa using h2
theorem VarA.aside9 {w : World} {b c : Nat} {T : TypeId} {cs : Array Value} {y0 y1 y2 y3 y4 y5 y6 y7 y8 : Value} (h : VarA w b T cs) (hc : b ≠ c) : VarA (((((((((w.setCell ⟨c, 0, none⟩ y0).setCell ⟨c, 1, none⟩ y1).setCell ⟨c, 2, none⟩ y2).setCell ⟨c, 3, none⟩ y3).setCell ⟨c, 4, none⟩ y4).setCell ⟨c, 5, none⟩ y5).setCell ⟨c, 6, none⟩ y6).setCell ⟨c, 7, none⟩ y7).setCell ⟨c, 8, none⟩ y8) b T cs := (((((((((h.aside (p := ⟨c, 0, none⟩) hc y0).aside (p := ⟨c, 1, none⟩) hc y1).aside (p := ⟨c, 2, none⟩) hc y2).aside (p := ⟨c, 3, none⟩) hc y3).aside (p := ⟨c, 4, none⟩) hc y4).aside (p := ⟨c, 5, none⟩) hc y5).aside (p := ⟨c, 6, none⟩) hc y6).aside (p := ⟨c, 7, none⟩) hc y7).aside (p := ⟨c, 8, none⟩) hc y8)
theorem Below.set9 {B : Nat} {a w : World} {c : Nat} {y0 y1 y2 y3 y4 y5 y6 y7 y8 : Value} (h : Below B a w) (hc : B ≤ c) : Below B a (((((((((w.setCell ⟨c, 0, none⟩ y0).setCell ⟨c, 1, none⟩ y1).setCell ⟨c, 2, none⟩ y2).setCell ⟨c, 3, none⟩ y3).setCell ⟨c, 4, none⟩ y4).setCell ⟨c, 5, none⟩ y5).setCell ⟨c, 6, none⟩ y6).setCell ⟨c, 7, none⟩ y7).setCell ⟨c, 8, none⟩ y8) := (((((((((h.setCell (p := ⟨c, 0, none⟩) hc y0).setCell (p := ⟨c, 1, none⟩) hc y1).setCell (p := ⟨c, 2, none⟩) hc y2).setCell (p := ⟨c, 3, none⟩) hc y3).setCell (p := ⟨c, 4, none⟩) hc y4).setCell (p := ⟨c, 5, none⟩) hc y5).setCell (p := ⟨c, 6, none⟩) hc y6).setCell (p := ⟨c, 7, none⟩) hc y7).setCell (p := ⟨c, 8, none⟩) hc y8)
end
section
def up (n : Nd) : Bool := n.h.dir && !decide (n.h = rootH)
def rch (l : List Nd) : Nat → Nd → Bool
 | 0, n => !up n
 | f + 1, n => if up n then (if fi l n.par < l.length then rch l f (l[fi l n.par]?.getD nd0) else false) else true
theorem rch_end (l : List Nd) (f : Nat) (n : Nd) (h : up n = false) : rch l f n = true := by cases f <;> simp [rch, h]
theorem findH_cases (l : List Nd) (h : Hd) : (fi l h < l.length ∧ findH l h = (fi l h : Int)) ∨ (¬ fi l h < l.length ∧ findH l h = -1) := by
 unfold findH
 by_cases hh : fi l h < l.length
 ·exact .inl ⟨hh, by rw [if_pos hh]⟩
 ·exact .inr ⟨hh, by rw [if_neg hh]⟩

set_option maxRecDepth 100000 in
set_option maxHeartbeats 2000000 in
theorem specReach_any (x : Value) (ya : Option Addr) (yn yc : Nat) (l : List Nd) (n0 : Nd) (S : Nat → Prop) (w : World) (r : RdV w S x (ndsDt l)) (hl : l.length ≤ 2097152) :
  Calls Tryz.prog 44 #[.agg #[x], ndV n0 (.slice ya yn yc)] w fun e w' => e = .returned (.bool (rch l (l.length + 1) n0)) ∧ Below w.heap.size w w' := by
 obtain ⟨a, cap, rfl, _⟩ := RdV.sliced r
 have HR : Hid (∀ W, Below w.heap.size w W → RdV W S (.slice a l.length cap) (.rows 75 9 l.length (fun i j => ndCell (l[i]?.getD nd0) j))) := RdV.old r
 have HFI : Hid (∀ h W, Below w.heap.size w W → _) := fun h W hW => specFind_any _ l h S W (RdV.step r hW) hl
 have HRT : Hid (∀ W, _) := fun W => specRootH_any W
 obtain ⟨res, hres⟩ : ∃ res, rch l (l.length + 1) n0 = res := ⟨_, rfl⟩
 rw [hres]
 have HRES : Hid _ := hres
 obtain ⟨n, hn⟩ : ∃ n, l.length = n := ⟨_, rfl⟩
 have HN : Hid _ := hn
 rw [hn] at hl HR HFI ⊢
 clear r hres hn
 go_enter Tryz.func44, Tryz.ntmps44
 go_wp2
 go_loopw [5] (fun i wr => ∃ k : Nat, k ≤ n + 1 ∧ i = .i k ∧ Below w.heap.size w wr ∧ VarA wr w.heap.size 25 #[.slice a n cap] ∧ ∃ (e : Nd) (za : Option Addr) (zn zc : Nat), VarA wr (w.heap.size + 1) 75 #[.i e.h.sh, .i e.h.ino, .bool e.h.dir, .i e.par.sh, .i e.par.ino, .bool e.par.dir, .i e.links, .i e.val, .slice za zn zc] ∧ Hid (rch l (n + 1 - k) e = res)) (fun i _ => n + 1 - (intOf i).toNat)
 case atStart => exact ⟨0, Nat.zero_le _, rfl, Below.newH2 _ _, (VarA.new w _ _).alloc _, n0, ya, yn, yc, by have := VarA.new (w.alloc (.cells #[.slice a n cap] 25)) 75 #[.i n0.h.sh, .i n0.h.ino, .bool n0.h.dir, .i n0.par.sh, .i n0.par.ino, .bool n0.par.dir, .i n0.links, .i n0.val, .slice ya yn yc]; simpa using this, by show _ = _; rw [← HRES.out, HN.out]; rfl⟩
 case round =>
  clear HRES
  obtain ⟨k, hk, rfl, hbel, v0, e, za, zn, zc, v1, HE⟩ := hrel
  obtain ⟨⟨p, q, d⟩, ⟨p2, q2, d2⟩, lk, vl, es⟩ := e
  replace v1 : VarA wr (w.heap.size + 1) 75 #[.i p, .i q, .bool d, .i p2, .i q2, .bool d2, .i lk, .i vl, .slice za zn zc] := v1
  have c0 := v0.l1
  obtain ⟨b0, b1, b2, b3, b4, b5, b6, b7, b8⟩ := v1.l9
  have hl0 := v0.lt
  have hl1 := v1.lt
  haveI : Nonempty (Cls wr) := Cls.ne wr
  have k0 := Cls.cell hl1 b0
  have k1 := Cls.cell hl1 b1
  have k2 := Cls.cell hl1 b2
  cases d with
  | false =>
   have HF : Hid (true = res) := by rw [← HE.out]; show _ = _; rw [rch_end _ _ _ (by simp [up])]
   go_wp2
   refine wp_region_cls (by kernel_rfl) (by kernel_rfl) ?_
   repeat (go_big_quiet_step (fail))
   refine wpQuiet_nil ?_
   rintro w' ⟨⟨w', hb'⟩, rfl⟩
   go_wp2
   go_ret
   exact ⟨by rw [← HF.out]; rfl, hbel.trans (hb'.mono hbel.size)⟩
  | true =>
   by_cases hp : p = 0
   case neg =>
    have hp2 : (p == 0) = false := by simpa using hp
    go_wp2
    refine wp_region_cls (by kernel_rfl) (by kernel_rfl) ?_
    repeat (go_big_quiet_step (first | (go_at_call 39; exact Calls.cls_new (HRT.out _))))
    refine wpQuiet_nil ?_
    rintro w' ⟨⟨w', hb'⟩, rfl⟩
    have hup : up ⟨(p, q, true), (p2, q2, d2), lk, vl, es⟩ = true := by simp [up, rootH, hp]
    have HX : Hid (∀ W, Below w.heap.size w W → _) := fun W hW => HFI.out (p2, q2, d2) W hW
    have v0' := v0.step hb'
    have v1' := v1.step hb'
    have hb3 := hbel.trans (hb'.mono hbel.size)
    clear v0 v1 c0 b0 b1 b2 b3 b4 b5 b6 b7 b8 hl0 hl1 hb' hbel k0 k1 k2
    have c0 := v0'.l1
    obtain ⟨b0, b1, b2, b3, b4, b5, b6, b7, b8⟩ := v1'.l9
    go_wp2_with fail
    refine Calls.mono (HX.out _ hb3) ?_
    rintro e w3 ⟨rfl, b_⟩
    have v0 := v0'.step b_
    have v1 := v1'.step b_
    have hb4 := hb3.trans (b_.mono hb3.size)
    clear v0' v1' c0 b0 b1 b2 b3 b4 b5 b6 b7 b8 b_ hb3 HX
    have c0 := v0.l1
    obtain ⟨b0, b1, b2, b3, b4, b5, b6, b7, b8⟩ := v1.l9
    have fz := v1.fz
    rcases findH_cases l (p2, q2, d2) with ⟨hf1, hf2⟩ | ⟨hf1, hf2⟩
    case inr =>
     have HF : Hid (false = res) := by
      rw [← HE.out]; show _ = _
      cases hq : n + 1 - k with
      | zero => simp [rch, hup]
      | succ f => simp only [rch, hup, if_true]; rw [if_neg hf1]
     rw [hf2]
     clear HE hup hf1 hf2
     go_wp2
     go_ret
     exact ⟨by rw [← HF.out]; rfl, hb4⟩
    by_cases hkn : k ≤ n
    case neg =>
     have HF : Hid (false = res) := by
      rw [← HE.out]; show _ = _
      rw [show n + 1 - k = 0 by omega]
      simp [rch, hup]
     rw [hf2]
     clear HE hup hf1 hf2
     generalize fi l (p2, q2, d2) = f0
     go_wp2
     go_ret
     exact ⟨by rw [← HF.out]; rfl, hb4⟩
    have HF : Hid (rch l (n + 1 - (k + 1)) (l[fi l (p2, q2, d2)]?.getD nd0) = res) := by
     rw [← HE.out]; show _ = _
     rw [show n + 1 - k = (n + 1 - (k + 1)) + 1 by omega]
     simp only [rch, hup, if_true]; rw [if_pos hf1]
    rw [hf2]
    rw [HN.out] at hf1
    clear HE hup hf2
    generalize fi l (p2, q2, d2) = f0 at *
    obtain ⟨b, off, rfl, hbl, _, hx⟩ := RdV.at (HR.out w3 hb4) hf1
    generalize l[f0]?.getD nd0 = en at hx HF
    obtain ⟨x0, g0, s0⟩ := hx 0 (by omega)
    obtain ⟨x1, g1, s1⟩ := hx 1 (by omega)
    obtain ⟨x2, g2, s2⟩ := hx 2 (by omega)
    obtain ⟨x3, g3, s3⟩ := hx 3 (by omega)
    obtain ⟨x4, g4, s4⟩ := hx 4 (by omega)
    obtain ⟨x5, g5, s5⟩ := hx 5 (by omega)
    obtain ⟨x6, g6, s6⟩ := hx 6 (by omega)
    obtain ⟨x7, g7, s7⟩ := hx 7 (by omega)
    obtain ⟨x8, g8, s8⟩ := hx 8 (by omega)
    clear hx
    obtain ⟨⟨p', q', d'⟩, ⟨p2', q2', d2'⟩, lk', vl', es'⟩ := en
    obtain rfl : x0 = .i p' := s0
    obtain rfl : x1 = .i q' := s1
    obtain rfl : x2 = .bool d' := s2
    obtain rfl : x3 = .i p2' := s3
    obtain rfl : x4 = .i q2' := s4
    obtain rfl : x5 = .bool d2' := s5
    obtain rfl : x6 = .i lk' := s6
    obtain rfl : x7 = .i vl' := s7
    simp only [Nat.add_zero] at g0
    have S8 : RdV w3 S x8 (ensDt es') := s8
    obtain ⟨xa, xc, rfl, _⟩ := RdV.sliced S8
    clear S8 s8
    generalize es'.length = xn at g8
    have V1 : Hid (VarA w3 _ _ _) := v1
    have V0 : Hid (VarA w3 _ _ _) := v0
    have hne : w.heap.size ≠ w.heap.size + 1 := by omega
    have hle : w.heap.size ≤ w.heap.size + 1 := by omega
    clear v0 v1
    go_wp2
    exact ⟨⟨k + 1, by omega, by go_num, Below.set9 hb4 hle, VarA.aside9 V0.out hne, ⟨(p', q', d'), (p2', q2', d2'), lk', vl', es'⟩, xa, xn, xc, VarA.set9 V1.out, HF.out⟩, by simp [intOf]; omega⟩
   subst hp
   by_cases hq : q = 1
   case neg =>
    have hq2 : (q == 1) = false := by simpa using hq
    go_wp2
    refine wp_region_cls (by kernel_rfl) (by kernel_rfl) ?_
    repeat (go_big_quiet_step (first | (go_at_call 39; exact Calls.cls_new (HRT.out _))))
    refine wpQuiet_nil ?_
    rintro w' ⟨⟨w', hb'⟩, rfl⟩
    have hup : up ⟨(0, q, true), (p2, q2, d2), lk, vl, es⟩ = true := by simp [up, rootH, hq]
    have HX : Hid (∀ W, Below w.heap.size w W → _) := fun W hW => HFI.out (p2, q2, d2) W hW
    have v0' := v0.step hb'
    have v1' := v1.step hb'
    have hb3 := hbel.trans (hb'.mono hbel.size)
    clear v0 v1 c0 b0 b1 b2 b3 b4 b5 b6 b7 b8 hl0 hl1 hb' hbel k0 k1 k2
    have c0 := v0'.l1
    obtain ⟨b0, b1, b2, b3, b4, b5, b6, b7, b8⟩ := v1'.l9
    go_wp2_with fail
    refine Calls.mono (HX.out _ hb3) ?_
    rintro e w3 ⟨rfl, b_⟩
    have v0 := v0'.step b_
    have v1 := v1'.step b_
    have hb4 := hb3.trans (b_.mono hb3.size)
    clear v0' v1' c0 b0 b1 b2 b3 b4 b5 b6 b7 b8 b_ hb3 HX
    have c0 := v0.l1
    obtain ⟨b0, b1, b2, b3, b4, b5, b6, b7, b8⟩ := v1.l9
    have fz := v1.fz
    rcases findH_cases l (p2, q2, d2) with ⟨hf1, hf2⟩ | ⟨hf1, hf2⟩
    case inr =>
     have HF : Hid (false = res) := by
      rw [← HE.out]; show _ = _
      cases hq : n + 1 - k with
      | zero => simp [rch, hup]
      | succ f => simp only [rch, hup, if_true]; rw [if_neg hf1]
     rw [hf2]
     clear HE hup hf1 hf2
     go_wp2
     go_ret
     exact ⟨by rw [← HF.out]; rfl, hb4⟩
    by_cases hkn : k ≤ n
    case neg =>
     have HF : Hid (false = res) := by
      rw [← HE.out]; show _ = _
      rw [show n + 1 - k = 0 by omega]
      simp [rch, hup]
     rw [hf2]
     clear HE hup hf1 hf2
     generalize fi l (p2, q2, d2) = f0
     go_wp2
     go_ret
     exact ⟨by rw [← HF.out]; rfl, hb4⟩
    have HF : Hid (rch l (n + 1 - (k + 1)) (l[fi l (p2, q2, d2)]?.getD nd0) = res) := by
     rw [← HE.out]; show _ = _
     rw [show n + 1 - k = (n + 1 - (k + 1)) + 1 by omega]
     simp only [rch, hup, if_true]; rw [if_pos hf1]
    rw [hf2]
    rw [HN.out] at hf1
    clear HE hup hf2
    generalize fi l (p2, q2, d2) = f0 at *
    obtain ⟨b, off, rfl, hbl, _, hx⟩ := RdV.at (HR.out w3 hb4) hf1
    generalize l[f0]?.getD nd0 = en at hx HF
    obtain ⟨x0, g0, s0⟩ := hx 0 (by omega)
    obtain ⟨x1, g1, s1⟩ := hx 1 (by omega)
    obtain ⟨x2, g2, s2⟩ := hx 2 (by omega)
    obtain ⟨x3, g3, s3⟩ := hx 3 (by omega)
    obtain ⟨x4, g4, s4⟩ := hx 4 (by omega)
    obtain ⟨x5, g5, s5⟩ := hx 5 (by omega)
    obtain ⟨x6, g6, s6⟩ := hx 6 (by omega)
    obtain ⟨x7, g7, s7⟩ := hx 7 (by omega)
    obtain ⟨x8, g8, s8⟩ := hx 8 (by omega)
    clear hx
    obtain ⟨⟨p', q', d'⟩, ⟨p2', q2', d2'⟩, lk', vl', es'⟩ := en
    obtain rfl : x0 = .i p' := s0
    obtain rfl : x1 = .i q' := s1
    obtain rfl : x2 = .bool d' := s2
    obtain rfl : x3 = .i p2' := s3
    obtain rfl : x4 = .i q2' := s4
    obtain rfl : x5 = .bool d2' := s5
    obtain rfl : x6 = .i lk' := s6
    obtain rfl : x7 = .i vl' := s7
    simp only [Nat.add_zero] at g0
    have S8 : RdV w3 S x8 (ensDt es') := s8
    obtain ⟨xa, xc, rfl, _⟩ := RdV.sliced S8
    clear S8 s8
    generalize es'.length = xn at g8
    have V1 : Hid (VarA w3 _ _ _) := v1
    have V0 : Hid (VarA w3 _ _ _) := v0
    have hne : w.heap.size ≠ w.heap.size + 1 := by omega
    have hle : w.heap.size ≤ w.heap.size + 1 := by omega
    clear v0 v1
    go_wp2
    exact ⟨⟨k + 1, by omega, by go_num, Below.set9 hb4 hle, VarA.aside9 V0.out hne, ⟨(p', q', d'), (p2', q2', d2'), lk', vl', es'⟩, xa, xn, xc, VarA.set9 V1.out, HF.out⟩, by simp [intOf]; omega⟩
   subst hq
   have HF : Hid (true = res) := by rw [← HE.out]; show _ = _; rw [rch_end _ _ _ (by simp [up, rootH])]
   go_wp2
   refine wp_region_cls (by kernel_rfl) (by kernel_rfl) ?_
   repeat (go_big_quiet_step (first | (go_at_call 39; exact Calls.cls_new (HRT.out _))))
   refine wpQuiet_nil ?_
   rintro w' ⟨⟨w', hb'⟩, rfl⟩
   go_wp2
   go_ret
   exact ⟨by rw [← HF.out]; rfl, hbel.trans (hb'.mono hbel.size)⟩
end
section
theorem eqH_run (p q s i : Int) (d e : Bool) (w : World) : (binOp .eql 27 (.agg #[.i p, .i q, .bool d]) (.agg #[.i s, .i i, .bool e])).run Tryz.prog w = .ok (.bool (decide (p = s ∧ q = i ∧ d = e))) w := by
 by_cases h1 : p = s
 ·subst h1
  by_cases h2 : q = i
  ·subst h2
   by_cases h3 : d = e
   ·subst h3
    simp [go_sem]
   ·have g : (d == e) = false := by simpa using h3
    simp [go_sem, g, h3]
  ·have g : (q == i) = false := by simpa using h2
   simp [go_sem, g, h2]
 ·have g : (p == s) = false := by simpa using h1
  simp [go_sem, g, h1]
theorem neH_run (p q s i : Int) (d e : Bool) (w : World) : (binOp .neq 27 (.agg #[.i p, .i q, .bool d]) (.agg #[.i s, .i i, .bool e])).run Tryz.prog w = .ok (.bool (!decide (p = s ∧ q = i ∧ d = e))) w := by
 by_cases h1 : p = s
 ·subst h1
  by_cases h2 : q = i
  ·subst h2
   by_cases h3 : d = e
   ·subst h3
    simp [go_sem]
   ·have g : (d == e) = false := by simpa using h3
    simp [go_sem, g, h3]
  ·have g : (q == i) = false := by simpa using h2
   simp [go_sem, g, h2]
 ·have g : (p == s) = false := by simpa using h1
  simp [go_sem, g, h1]
end
section
def undN (l : List Nd) (by' : Hd) : Nat → Hd → Int
 | 0, _ => 2
 | f + 1, h => if h = by' then 1 else if h = rootH then 0 else if fi l h < l.length then undN l by' f (l[fi l h]?.getD nd0).par else 0

theorem decH_f {p q s i : Int} {d e : Bool} (h : ¬ ((p, q, d) : Hd) = (s, i, e)) : decide (p = s ∧ q = i ∧ d = e) = false := by
 rw [decide_eq_false_iff_not]
 rintro ⟨rfl, rfl, rfl⟩
 exact h rfl
theorem decH_t {p q s i : Int} {d e : Bool} (h : ((p, q, d) : Hd) = (s, i, e)) : decide (p = s ∧ q = i ∧ d = e) = true := by
 rw [decide_eq_true_iff]
 simp only [Prod.mk.injEq] at h
 exact h
def UnRel (w : World) (v : Value) (l : List Nd) (by' : Hd) (res : Int) (i : Value) (wr : World) : Prop :=
 ∃ (k : Nat) (h : Hd), k ≤ 12 ∧ i = .i k ∧ VarA wr w.heap.size 25 #[v] ∧ VarA wr (w.heap.size + 1) 27 #[.i h.sh, .i h.ino, .bool h.dir] ∧ VarA wr (w.heap.size + 1 + 1) 27 #[.i by'.sh, .i by'.ino, .bool by'.dir] ∧ Below w.heap.size w wr ∧ undN l by' (12 - k) h = res
set_option maxHeartbeats 4000000 in
theorem specUnder_any (x : Value) (l : List Nd) (h0 by' : Hd) (S : Nat → Prop) (w : World) (r : RdV w S x (ndsDt l)) (hl : l.length ≤ 2097152) :
  Calls Tryz.prog 127 #[.agg #[x], h0.v, by'.v] w fun e w' => e = .returned (.i (undN l by' 12 h0)) ∧ Below w.heap.size w w' := by
 obtain ⟨a, cap, rfl, _⟩ := RdV.sliced r
 have HR : Hid (∀ W, Below w.heap.size w W → RdV W S (.slice a l.length cap) (.rows 75 9 l.length (fun i j => ndCell (l[i]?.getD nd0) j))) := RdV.old r
 have HFI : Hid (∀ h W, Below w.heap.size w W → _) := fun h W hW => specFind_any _ l h S W (RdV.step r hW) hl
 have HRT : Hid (∀ W, _) := fun W => specRootH_any W
 obtain ⟨res, hres⟩ : ∃ res, undN l by' 12 h0 = res := ⟨_, rfl⟩
 rw [hres]
 have HRES : Hid _ := hres
 clear r hres
 obtain ⟨p, q, d⟩ := h0
 obtain ⟨p2, q2, d2⟩ := by'
 go_enter Tryz.func127, Tryz.ntmps127
 go_wp2
 go_loopw [7] (fun i wr => UnRel w (.slice a l.length cap) l (p2, q2, d2) res i wr) (fun i _ => 12 - (intOf i).toNat)
 case atStart =>
  refine ⟨0, (p, q, d), Nat.zero_le _, rfl, ((VarA.new w _ _).alloc _).alloc _, ?_, ?_, (((Below.refl _ _).alloc (Nat.le_refl _) _).alloc (by simp) _).alloc (by simp; omega) _, HRES.out⟩
  ·have := (VarA.new (w.alloc (.cells #[.slice a l.length cap] 25)) 27 #[.i p, .i q, .bool d]).alloc (.cells #[.i p2, .i q2, .bool d2] 27)
   simpa using this
  ·have := VarA.new ((w.alloc (.cells #[.slice a l.length cap] 25)).alloc (.cells #[.i p, .i q, .bool d] 27)) 27 #[.i p2, .i q2, .bool d2]
   simpa using this
 case round =>
  clear HRES
  obtain ⟨k, ⟨p, q, d⟩, hk, rfl, vT, vH, vB, bw, hres⟩ := hrel
  replace vH : VarA wr (w.heap.size + 1) 27 #[.i p, .i q, .bool d] := vH
  replace vB : VarA wr (w.heap.size + 1 + 1) 27 #[.i p2, .i q2, .bool d2] := vB
  have c0 := vT.l1
  obtain ⟨a0, a1, a2⟩ := vH.l3
  obtain ⟨b0, b1, b2⟩ := vB.l3
  have HE : Hid _ := hres
  clear hres
  by_cases hlt : k < 12
  case neg =>
   have HF : Hid ((2 : Int) = res) := by rw [← HE.out]; show _ = _; rw [show 12 - k = 0 by omega]; rfl
   have hk9 : ¬ (k : Int) < 12 := by omega
   have HB : Hid _ := bw
   clear vT vH vB bw
   go_wp2
   go_ret
   exact ⟨by rw [← HF.out]; rfl, HB.out⟩
  have hk9 : (k : Int) < 12 := by omega
  have eq1 := fun W => eqH_run p q p2 q2 d d2 W
  by_cases hby : ((p, q, d) : Hd) = (p2, q2, d2)
  ·have d1 := decH_t hby
   have HF : Hid ((1 : Int) = res) := by rw [← HE.out]; show _ = _; rw [show 12 - k = (12 - (k + 1)) + 1 by omega, undN, if_pos hby]
   have HB : Hid _ := bw
   rw [d1] at eq1
   clear vT vH vB bw hby d1
   go_wp2
   go_ret
   exact ⟨by rw [← HF.out]; rfl, HB.out⟩
  ·have d1 := decH_f hby
   rw [d1] at eq1
   have hlH := vH.lt
   haveI : Nonempty (Cls wr) := Cls.ne wr
   have ka0 := Cls.cell hlH a0
   have ka1 := Cls.cell hlH a1
   have ka2 := Cls.cell hlH a2
   have hst : undN l (p2, q2, d2) (12 - k) (p, q, d) = if ((p, q, d) : Hd) = rootH then 0 else if fi l (p, q, d) < l.length then undN l (p2, q2, d2) (12 - (k + 1)) (l[fi l (p, q, d)]?.getD nd0).par else 0 := by rw [show 12 - k = (12 - (k + 1)) + 1 by omega, undN, if_neg hby]
   have HST : Hid _ := hst
   clear hst hby d1
   by_cases hrt : ((p, q, d) : Hd) = (0, 1, true)
   ·have hne : ∀ W : World, (binOp .eql 27 (.agg #[.i p, .i q, .bool d]) (.agg #[.i 0, .i 1, .bool true])).run Tryz.prog W = .ok (.bool true) W := fun W => by rw [eqH_run, decH_t hrt]
    have HF : Hid ((0 : Int) = res) := by rw [← HE.out]; show _ = _; rw [HST.out, if_pos (show ((p, q, d) : Hd) = rootH from hrt)]
    have HB : Hid _ := bw
    clear vT vH vB bw hrt
    go_wp2
    refine wp_region_cls (by kernel_rfl) (by kernel_rfl) ?_
    repeat (go_big_quiet_step (first | (go_at_call 39; exact Calls.cls_new (HRT.out _))))
    refine wpQuiet_nil ?_
    rintro w' ⟨⟨w', hb'⟩, rfl⟩
    have HB9 : Hid (Below w.heap.size w w') := HB.out.trans (hb'.mono HB.out.size)
    clear hb'
    go_wp2
    go_ret
    exact ⟨by rw [← HF.out]; rfl, HB9.out⟩
   ·have hne : ∀ W : World, (binOp .eql 27 (.agg #[.i p, .i q, .bool d]) (.agg #[.i 0, .i 1, .bool true])).run Tryz.prog W = .ok (.bool false) W := fun W => by rw [eqH_run, decH_f hrt]
    have HN : Hid (¬ ((p, q, d) : Hd) = rootH) := hrt
    have HVT : Hid (VarA wr w.heap.size 25 _) := vT
    have HVH : Hid (VarA wr (w.heap.size + 1) 27 _) := vH
    have HVB : Hid (VarA wr (w.heap.size + 1 + 1) 27 _) := vB
    have HB : Hid (Below w.heap.size w wr) := bw
    clear vT vH vB bw hrt
    go_wp2
    refine wp_region_cls (by kernel_rfl) (by kernel_rfl) ?_
    repeat (go_big_quiet_step (first | (go_at_call 39; exact Calls.cls_new (HRT.out _))))
    refine wpQuiet_nil ?_
    rintro w' ⟨⟨w', hb'⟩, rfl⟩
    have vT := HVT.out.step hb'
    have vH := HVH.out.step hb'
    have vB := HVB.out.step hb'
    have bw := HB.out.trans (hb'.mono HB.out.size)
    clear hb' HVT HVH HVB HB c0 a0 a1 a2 b0 b1 b2 ka0 ka1 ka2 hlH hne eq1
    have c0 := vT.l1
    obtain ⟨a0, a1, a2⟩ := vH.l3
    go_wp2_with fail
    refine Calls.mono (HFI.out (p, q, d) _ bw) ?_
    rintro e w3 ⟨rfl, b3⟩
    have vT3 := vT.step b3
    have vH3 := vH.step b3
    have vB3 := vB.step b3
    have bw3 := bw.trans (b3.mono bw.size)
    clear vT vH vB bw b3 c0 a0 a1 a2
    have c0 := vT3.l1
    obtain ⟨a0, a1, a2⟩ := vH3.l3
    have fz := vH3.fz
    rcases findH_cases l (p, q, d) with ⟨hf1, hf2⟩ | ⟨hf1, hf2⟩
    case inr =>
     have HF : Hid ((0 : Int) = res) := by rw [← HE.out]; show _ = _; rw [HST.out, if_neg HN.out, if_neg hf1]
     have HB : Hid _ := bw3
     rw [hf2]
     clear HE HST hf1 hf2 vT3 vH3 vB3 bw3
     go_wp2
     go_ret
     exact ⟨by rw [← HF.out]; rfl, HB.out⟩
    have HF : Hid (undN l (p2, q2, d2) (12 - (k + 1)) (l[fi l (p, q, d)]?.getD nd0).par = res) := by rw [← HE.out]; show _ = _; rw [HST.out, if_neg HN.out, if_pos hf1]
    rw [hf2]
    clear HE HST hf2 HN
    generalize fi l (p, q, d) = f0 at *
    obtain ⟨b, off, rfl, hbl, _, hx⟩ := RdV.at (HR.out w3 bw3) hf1
    generalize l[f0]?.getD nd0 = en at hx HF
    obtain ⟨x3, g3, s3⟩ := hx 3 (by omega)
    obtain ⟨x4, g4, s4⟩ := hx 4 (by omega)
    obtain ⟨x5, g5, s5⟩ := hx 5 (by omega)
    clear hx
    obtain ⟨hh, ⟨p', q', d'⟩, lk', vl', es'⟩ := en
    obtain rfl : x3 = .i p' := s3
    obtain rfl : x4 = .i q' := s4
    obtain rfl : x5 = .bool d' := s5
    have HT : Hid (VarA w3 w.heap.size 25 _) := vT3
    have HH : Hid (VarA w3 (w.heap.size + 1) 27 _) := vH3
    have HBB : Hid (VarA w3 (w.heap.size + 1 + 1) 27 _) := vB3
    have HB : Hid (Below w.heap.size w w3) := bw3
    have hi0 : (f0 : Int) < (l.length : Int) := by omega
    clear vT3 vH3 vB3 bw3
    go_wp2
    refine ⟨⟨k + 1, (p', q', d'), by omega, by go_num, (((HT.out.aside (p := ⟨w.heap.size + 1, 0, none⟩) (by show w.heap.size ≠ w.heap.size + 1; omega) _).aside (p := ⟨w.heap.size + 1, 1, none⟩) (by show w.heap.size ≠ w.heap.size + 1; omega) _).aside (p := ⟨w.heap.size + 1, 2, none⟩) (by show w.heap.size ≠ w.heap.size + 1; omega) _), ((HH.out.set 0 _).set 1 _).set 2 _, (((HBB.out.aside (p := ⟨w.heap.size + 1, 0, none⟩) (by show w.heap.size + 1 + 1 ≠ w.heap.size + 1; omega) _).aside (p := ⟨w.heap.size + 1, 1, none⟩) (by show w.heap.size + 1 + 1 ≠ w.heap.size + 1; omega) _).aside (p := ⟨w.heap.size + 1, 2, none⟩) (by show w.heap.size + 1 + 1 ≠ w.heap.size + 1; omega) _), ((HB.out.setCell (by show w.heap.size ≤ w.heap.size + 1; omega) _).setCell (by show w.heap.size ≤ w.heap.size + 1; omega) _).setCell (by show w.heap.size ≤ w.heap.size + 1; omega) _, HF.out⟩, by simp [intOf]; omega⟩
end
section
def Nm (w : World) (T : Nat → Prop) (v : Value) : Nat → Prop := fun b => T b ∧ b < w.heap.size ∧ v.ownBlock ≠ some b
def SE (w : World) (lo : Nat) (T : Nat → Prop) (v : Value) (l : List En) : Prop :=
 ∃ (V : Nat → Value) (C : List Value), w.ownsRow lo 81 4 v l.length C ∧ (∀ i j, i < l.length → j < 4 → C[i * 4 + j]? = some (enVal (l[i]?.getD en0) (V i) j)) ∧ ∀ i, i < l.length → RdV w (Nm w T v) (V i) (.bytes (l[i]?.getD en0).nm)
theorem SE.nil (w : World) (lo : Nat) (T : Nat → Prop) : SE w lo T (.n0) [] :=
 ⟨fun _ => undef, [], World.ownsRow_nil _ _ _ _, fun i j hi => absurd hi (Nat.not_lt_zero _), fun i hi => absurd hi (Nat.not_lt_zero _)⟩
theorem SE.lt {w : World} {lo : Nat} {T : Nat → Prop} {v : Value} {l : List En} (s : SE w lo T v l) : ∀ b, v.ownBlock = some b → lo ≤ b ∧ b < w.heap.size := by
 obtain ⟨V, C, h1, h2, h3⟩ := s
 exact fun b hb => h1.lt b hb
theorem SE.step {w w' : World} {lo : Nat} {T : Nat → Prop} {v : Value} {l : List En} (s : SE w lo T v l) (hb : Below w.heap.size w w') : SE w' lo T v l := by
 have hlt := s.lt
 obtain ⟨V, C, h1, h2, h3⟩ := s
 exact ⟨V, C, ownsRow_keep (S := fun b => lo ≤ b ∧ b < w.heap.size) h1 hlt (Keeps.ofBelow hb), h2, fun i hi => RdV.mono (fun b hb' => ⟨hb'.1, Nat.lt_of_lt_of_le hb'.2.1 hb.size, hb'.2.2⟩) (RdV.step (h3 i hi) hb)⟩
theorem SE.rd {w : World} {lo : Nat} {T : Nat → Prop} {v : Value} {l : List En} (s : SE w lo T v l) : RdV w (fun b => (T b ∨ lo ≤ b) ∧ b < w.heap.size) v (ensDt l) := by
 obtain ⟨V, C, h1, h2, h3⟩ := s
 unfold ensDt
 refine RdV.mkRows _ ?_
 rcases h1.2 with ⟨hv, h0⟩ | ⟨g, c, cur, hv, hg, hh, hnc, hm, _⟩
 ·subst hv
  rw [h0]
  exact ⟨none, 0, fun _ _ => undef, rfl, ⟨Nat.le_refl _, Nat.zero_le _, fun _ => ⟨rfl, rfl⟩⟩, .inl rfl, fun i j hi => absurd hi (Nat.not_lt_zero _)⟩
 ·subst hv
  refine ⟨some ⟨g, 0, none⟩, c, fun i j => enVal (l[i]?.getD en0) (V i) j, rfl, ⟨hnc, hm, fun e => by cases e⟩, .inr ⟨g, 0, rfl, ⟨.inr hg, lt_of_block hh⟩, lt_of_block hh, fun i j hi hj => ?_⟩, fun i j hi hj => ?_⟩
  ·rw [Nat.zero_add, World.ownsRow.cellAt h1 (i * 4 + j) (place_lt hi hj)]
   exact h2 i j hi hj
  ·match j, hj with
   | 0, _ => exact RdV.mono (fun b hb => ⟨.inl hb.1, hb.2.1⟩) (h3 i hi)
   | 1, _ => rfl
   | 2, _ => rfl
   | 3, _ => rfl
def enRow (l : List En) (V : Nat → Value) : List Value := (List.range (l.length * 4)).map (fun t => enVal (l[t / 4]?.getD en0) (V (t / 4)) (t % 4))
theorem enRow_at (l : List En) (V : Nat → Value) (i j : Nat) (hi : i < l.length) (hj : j < 4) : (enRow l V)[i * 4 + j]? = some (enVal (l[i]?.getD en0) (V i) j) := by
 unfold enRow
 rw [List.getElem?_map, List.getElem?_range (place_lt hi hj)]
 simp only [Option.map_some]
 rw [show (i * 4 + j) / 4 = i by omega, show (i * 4 + j) % 4 = j by omega]
theorem enRow_of {l : List En} {V : Nat → Value} {t : Nat} {u : Value} (h : (enRow l V)[t]? = some u) : t < l.length * 4 ∧ u = enVal (l[t / 4]?.getD en0) (V (t / 4)) (t % 4) := by
 unfold enRow at h
 rw [List.getElem?_map] at h
 by_cases ht : t < l.length * 4
 ·rw [List.getElem?_range ht] at h
  simp only [Option.map_some, Option.some.injEq] at h
  exact ⟨ht, h.symm⟩
 ·rw [List.getElem?_eq_none (by simpa using ht)] at h
  cases h
theorem enVal_one (e : En) (x : Value) (hx : x.oneCell' = true) : ∀ j, (enVal e x j).oneCell' = true
 | 0 => hx
 | 1 => rfl
 | 2 => rfl
 | (_ + 3) => rfl
end
section
theorem SE.manyV {w w' : World} {lo : Nat} {T : Nat → Prop} {v v' : Value} {l l2 : List En} (V V2 : Nat → Value) (C news : List Value) (h1 : w.ownsRow lo 81 4 v l.length C)
  (h2 : ∀ i j, i < l.length → j < 4 → C[i * 4 + j]? = some (enVal (l[i]?.getD en0) (V i) j)) (h3 : ∀ i, i < l.length → RdV w (Nm w T v) (V i) (.bytes (l[i]?.getD en0).nm))
  (hn : ∀ i j, i < l2.length → j < 4 → news[i * 4 + j]? = some (enVal (l2[i]?.getD en0) (V2 i) j)) (hr : ∀ i, i < l2.length → RdV w (Nm w T v) (V2 i) (.bytes (l2[i]?.getD en0).nm))
  (ho : w'.ownsRow lo 81 4 v' (l.length + l2.length) (C ++ news)) (hg : w.grownBy w' v.ownBlock) (hgg : v'.ownBlock = v.ownBlock ∨ v'.ownBlock = some w.heap.size) :
  SE w' lo T v' (l ++ l2) := by
 have hsz := hg.size
 have hCl : C.length = l.length * 4 := h1.1
 have hln : (l ++ l2).length = l.length + l2.length := List.length_append
 have hrd : ∀ (y : Value) (zs : List Int), RdV w (Nm w T v) y (.bytes zs) → RdV w' (Nm w' T v') y (.bytes zs) := fun y zs r =>
  RdV.mono (fun b hb => ⟨hb.1, by have := hb.2.1; omega, fun e => by
   rcases hgg with h | h
   ·exact hb.2.2 (by rw [← h, e])
   ·rw [h] at e
    have e' : w.heap.size = b := by simpa using e
    have := hb.2.1
    omega⟩) (RdV.keep ⟨hsz, fun b hb hlt => hg.block b hlt (fun h => hb.2.2 h.symm)⟩ r)
 refine ⟨fun i => if i < l.length then V i else V2 (i - l.length), _, by rw [hln]; exact ho, fun i j hi hj => ?_, fun i hi => ?_⟩
 ·rw [hln] at hi
  by_cases hlt : i < l.length
  ·simp only [hlt, if_true]
   rw [List.getElem?_append_left (by rw [hCl]; exact place_lt hlt hj), List.getElem?_append_left hlt]
   exact h2 i j hlt hj
  ·simp only [hlt, if_false]
   rw [List.getElem?_append_right (by omega), hCl, show i * 4 + j - l.length * 4 = (i - l.length) * 4 + j by omega, List.getElem?_append_right (by omega)]
   exact hn (i - l.length) j (by omega) hj
 ·rw [hln] at hi
  by_cases hlt : i < l.length
  ·simp only [hlt, if_true]
   rw [List.getElem?_append_left hlt]
   exact hrd _ _ (h3 i hlt)
  ·simp only [hlt, if_false]
   rw [List.getElem?_append_right (by omega)]
   exact hrd _ _ (hr (i - l.length) (by omega))
def Lies (w : World) (ao : Option Addr) (c : Nat) (l2 : List En) (V2 : Nat → Value) : Prop :=
 (ao = none ∧ l2 = [] ∧ c = 0) ∨ ∃ ad, ao = some ad ∧ ∀ t u, (enRow l2 V2)[t]? = some u → w.cell? (ad.add t) = some u
theorem wpList_appE {ops : Array Oper} {rest : List Oper} {o : Oper} {a : Act} {Q : Exit → Act → World → Prop} (w : World) (hgd : o.guard = none) (s x : Operand)
  (ho : o.op = .call { callee := .builtin .append, args := #[s, x], argTypes := #[32, 32] })
  (v : Value) (hs : a.eval s = v) (l l2 : List En) (lo c : Nat) (ao : Option Addr) (T : Nat → Prop) (hx : a.eval x = .slice ao l2.length c) (V2 : Nat → Value)
  (hsrc : Lies w ao c l2 V2) (hr : ∀ i, i < l2.length → RdV w (Nm w T v) (V2 i) (.bytes (l2[i]?.getD en0).nm))
  (hown : SE w lo T v l) (hlo : lo ≤ w.heap.size) (hl : l.length + l2.length ≤ 8000)
  (h : ∀ v' w', SE w' lo T v' (l ++ l2) → w.grownBy w' v.ownBlock → (v'.ownBlock = v.ownBlock ∨ v'.ownBlock = some w.heap.size) → wpList Tryz.prog ops Q rest (a.put o.dst v') w') : wpList Tryz.prog ops Q (o :: rest) a w := by
 obtain ⟨i0, hi0, hz0, hz1, hz2⟩ := info_parts Tryz.infoEn
 obtain ⟨V, C, h1, h2, h3⟩ := hown
 rcases hsrc with ⟨rfl, rfl, rfl⟩ | ⟨ad, rfl, hcell⟩
 ·refine wpList_append_own_none (w := w) hgd s x 32 ho lo 81 i0 4 Tryz.underlying32 hi0 v l.length C hs h1 hx ?_
  exact h v w (by rw [List.append_nil]; exact ⟨V, C, h1, h2, h3⟩) ⟨rfl, rfl, rfl, Nat.le_refl _, fun _ _ _ => rfl⟩ (.inl rfl)
 ·obtain ⟨v', w', hrun, ho', hg, _, hgg⟩ := run_append_own_at (P := Tryz.prog) w lo 32 o.type 81 i0 (.agg #[.n0, .i 0, .i 0, .bool false]) 4 48 Tryz.underlying32 hi0 hz0 hz1 hz2 rfl (by decide) v l.length C h1 ad l2.length c (enRow l2 V2) (by simp [enRow]) hcell (fun u hu => by
    obtain ⟨t, ht⟩ := List.getElem?_of_mem hu
    obtain ⟨ht1, rfl⟩ := enRow_of ht
    refine enVal_one _ _ ?_ _
    obtain ⟨a', c', e'⟩ := RdV.sliceB (hr (t / 4) (by omega))
    rw [e']
    rfl) (by unfold maxLen; omega) (by omega) hlo
  have hse := SE.manyV V V2 C (enRow l2 V2) h1 h2 h3 (fun i j hi hj => enRow_at l2 V2 i j hi hj) hr ho' hg hgg
  refine wpList_plain hgd fun K hK => ?_
  unfold Oper.wp execOp
  simp only [ho, resolve, invoke, builtin, Sem.run_bind, Sem.run_pure, Result.andThen_ok, List.map_toArray, List.map_cons, List.map_nil, hs, hx, hrun]
  exact hK _ _ (h v' w' hse hg hgg)
end
section
def EntL (w : World) (L : Nat → Prop) (v : Value) : Nat → Prop := fun b => L b ∧ b < w.heap.size ∧ v.ownBlock ≠ some b
def SG (w : World) (lo : Nat) (L : Nat → Prop) (v : Value) (l : List Nd) : Prop :=
 ∃ (V : Nat → Value) (C : List Value), w.ownsRow lo 75 9 v l.length C ∧ (∀ i j, i < l.length → j < 9 → C[i * 9 + j]? = some (ndVal (l[i]?.getD nd0) (V i) j)) ∧ ∀ i, i < l.length → RdV w (EntL w L v) (V i) (ensO (l[i]?.getD nd0).es)
theorem SN.sg {w : World} {lo : Nat} {v : Value} {l : List Nd} (s : SN w lo v l) : SG w lo (fun b => lo ≤ b) v l := s
theorem SG.mono {w : World} {lo : Nat} {L L' : Nat → Prop} {v : Value} {l : List Nd} (s : SG w lo L v l) (h : ∀ b, b < w.heap.size → L b → L' b) : SG w lo L' v l := by
 obtain ⟨V, C, h1, h2, h3⟩ := s
 exact ⟨V, C, h1, h2, fun i hi => RdV.mono (fun b hb => ⟨h b hb.2.1 hb.1, hb.2⟩) (h3 i hi)⟩
theorem SG.nil (w : World) (lo : Nat) (L : Nat → Prop) : SG w lo L (.n0) [] :=
 ⟨fun _ => undef, [], World.ownsRow_nil _ _ _ _, fun i j hi => absurd hi (Nat.not_lt_zero _), fun i hi => absurd hi (Nat.not_lt_zero _)⟩
theorem SG.lt {w : World} {lo : Nat} {L : Nat → Prop} {v : Value} {l : List Nd} (s : SG w lo L v l) : ∀ b, v.ownBlock = some b → lo ≤ b ∧ b < w.heap.size := by
 obtain ⟨V, C, h1, h2, h3⟩ := s
 exact fun b hb => h1.lt b hb
theorem SG.keep {w w' : World} {lo : Nat} {L : Nat → Prop} {v : Value} {l : List Nd} (s : SG w lo L v l) (t : Keeps (fun b => b < w.heap.size ∧ (L b ∨ v.ownBlock = some b)) w w') : SG w' lo L v l := by
 have hb := s.lt
 obtain ⟨V, C, h1, h2, h3⟩ := s
 exact ⟨V, C, ownsRow_keep h1 (fun b h => ⟨(hb b h).2, .inr h⟩) t, h2, fun i hi => RdV.mono (fun b hb => ⟨hb.1, Nat.lt_of_lt_of_le hb.2.1 t.1, hb.2.2⟩) (RdV.keep (t.mono (fun b hb => ⟨hb.2.1, .inl hb.1⟩)) (h3 i hi))⟩
theorem SG.step {w w' : World} {lo : Nat} {L : Nat → Prop} {v : Value} {l : List Nd} (s : SG w lo L v l) (hb : Below w.heap.size w w') : SG w' lo L v l := s.keep (Keeps.ofBelow hb)
theorem SG.sn {w : World} {lo : Nat} {L : Nat → Prop} {v : Value} {l : List Nd} (s : SG w lo L v l) (h : ∀ b, L b → lo ≤ b) : SN w lo v l := s.mono (fun b _ hb => h b hb)
theorem SG.head {w : World} {lo : Nat} {L : Nat → Prop} {v : Value} {l : List Nd} (s : SG w lo L v l) (hl : 0 < l.length) : ∃ g cap, v = .slice (some ⟨g, 0, none⟩) l.length cap ∧ lo ≤ g ∧ g < w.heap.size ∧ (∀ j, w.frozen? ⟨g, j, none⟩ = false) ∧ l.length ≤ cap := by
 obtain ⟨V, C, h1, h2, h3⟩ := s
 rcases h1.2 with ⟨hv, h0⟩ | ⟨g, c, cur, hv, hg, hh, hnc, hm, _⟩
 ·omega
 ·subst hv
  exact ⟨g, c, rfl, hg, lt_of_block hh, fun j => h1.frozenAt j, hnc⟩
theorem SG.at {w : World} {lo g cap : Nat} {L : Nat → Prop} {l : List Nd} (s : SG w lo L (.slice (some ⟨g, 0, none⟩) l.length cap) l) {i : Nat} (hi : i < l.length) :
  ∃ x, RdV w (fun b => L b ∧ b < w.heap.size ∧ b ≠ g) x (ensDt (l[i]?.getD nd0).es) ∧ ∀ j, j < 9 → w.cell? ⟨g, i * 9 + j, none⟩ = some (ndVal (l[i]?.getD nd0) x j) := by
 obtain ⟨V, C, h1, h2, h3⟩ := s
 refine ⟨V i, RdV.mono (fun b hb => ⟨hb.1, hb.2.1, fun e => hb.2.2 (by rw [e]; rfl)⟩) (h3 i hi).en, fun j hj => ?_⟩
 rw [World.ownsRow.cellAt h1 (i * 9 + j) (place_lt hi hj)]
 exact h2 i j hi hj
def Nd.setEs (n : Nd) (es : List En) : Nd := ⟨n.h, n.par, n.links, n.val, es⟩
theorem SE.rdO {w : World} {lo : Nat} {T : Nat → Prop} {v : Value} {l : List En} (s : SE w lo T v l) : RdV w (fun b => (T b ∨ lo ≤ b) ∧ b < w.heap.size) v (ensO l) := by
 have h := s.rd
 have hl := s.lt
 obtain ⟨V, C, h1, _⟩ := s
 exact ensO.mk h h1 (fun b hb => ⟨.inr (hl b hb).1, (hl b hb).2⟩)
theorem SE.shape {w : World} {lo : Nat} {T : Nat → Prop} {v : Value} {l : List En} (s : SE w lo T v l) : ∃ a c, v = .slice a l.length c := by
 obtain ⟨V, C, h1, h2, h3⟩ := s
 rcases h1.2 with ⟨hv, h0⟩ | ⟨g, c, cur, hv, _⟩
 ·exact ⟨none, 0, by rw [h0]; exact hv⟩
 ·exact ⟨_, c, hv⟩
theorem SG.shape {L : Nat → Prop} {w : World} {lo : Nat} {v : Value} {l : List Nd} (s : SG w lo L v l) : ∃ a c, v = .slice a l.length c := by
 obtain ⟨V, C, h1, h2, h3⟩ := s
 rcases h1.2 with ⟨hv, h0⟩ | ⟨g, c, cur, hv, _⟩
 ·exact ⟨none, 0, by rw [h0]; exact hv⟩
 ·exact ⟨_, c, hv⟩
theorem SE.shapeN {w : World} {lo n : Nat} {T : Nat → Prop} {v : Value} {l : List En} (s : SE w lo T v l) (h : l.length = n) : ∃ a c, v = .slice a n c := by subst h; exact s.shape
theorem SG.shapeN {L : Nat → Prop} {w : World} {lo n : Nat} {v : Value} {l : List Nd} (s : SG w lo L v l) (h : l.length = n) : ∃ a c, v = .slice a n c := by subst h; exact s.shape
theorem SE.empty (w : World) (lo : Nat) (T : Nat → Prop) (h : lo ≤ w.heap.size) : SE (w.alloc (.cells #[] 81)) lo T (.slice (some ⟨w.heap.size, 0, none⟩) 0 0) [] :=
 ⟨fun _ => undef, [], World.ownsRow_lit w #[] 0 h (Nat.zero_le _) rfl, fun i j hi => absurd hi (Nat.not_lt_zero _), fun i hi => absurd hi (Nat.not_lt_zero _)⟩
theorem SG.empty (L : Nat → Prop) (w : World) (lo : Nat) (h : lo ≤ w.heap.size) : SG (w.alloc (.cells #[] 75)) lo L (.slice (some ⟨w.heap.size, 0, none⟩) 0 0) [] :=
 ⟨fun _ => undef, [], World.ownsRow_lit w #[] 0 h (Nat.zero_le _) rfl, fun i j hi => absurd hi (Nat.not_lt_zero _), fun i hi => absurd hi (Nat.not_lt_zero _)⟩
theorem SG.setE {L : Nat → Prop} {w : World} {lo g cap m : Nat} {l : List Nd} (s : SG w lo L (.slice (some ⟨g, 0, none⟩) m cap) l) {d : Nat} (hd : d < l.length) {x : Value} {es : List En} (hx : RdV w (fun b => L b ∧ b < w.heap.size ∧ b ≠ g) x (ensO es)) :
  SG (w.setCell ⟨g, d * 9 + 8, none⟩ x) lo L (.slice (some ⟨g, 0, none⟩) m cap) (l.set d ((l[d]?.getD nd0).setEs es)) := by
 obtain ⟨a, c, hv⟩ := s.shape
 simp only [Value.slice.injEq] at hv
 obtain ⟨-, rfl, -⟩ := hv
 obtain ⟨V, C, h1, h2, h3⟩ := s
 have hst := h1.stored (d * 9 + 8) x
 have hCl : C.length = l.length * 9 := h1.1
 have hln : (l.set d ((l[d]?.getD nd0).setEs es)).length = l.length := List.length_set
 have kp : ∀ (y : Value) (ys : List En), RdV w (EntL w L (.slice (some ⟨g, 0, none⟩) l.length cap)) y (ensO ys) → RdV (w.setCell ⟨g, d * 9 + 8, none⟩ x) (EntL (w.setCell ⟨g, d * 9 + 8, none⟩ x) L (.slice (some ⟨g, 0, none⟩) l.length cap)) y (ensO ys) := fun y ys r =>
  RdV.mono (fun b hb => ⟨hb.1, by simpa using hb.2.1, hb.2.2⟩) (RdV.keep ⟨by simp, fun b hb _ => heap_setCell_other w _ b x (fun e => hb.2.2 (by rw [e]; rfl))⟩ r)
 refine ⟨fun i => if i = d then x else V i, _, by rw [hln]; exact hst.1, fun i j hi hj => ?_, fun i hi => ?_⟩
 ·rw [hln] at hi
  rw [List.getElem?_set]
  by_cases he : i = d
  ·subst he
   simp only [if_true]
   rw [List.getElem?_set_self hi]
   by_cases h8 : j = 8
   ·subst h8
    rw [if_pos rfl, if_pos (by rw [hCl]; exact place_lt hi hj)]
    rfl
   ·rw [if_neg (by omega), h2 i j hi hj]
    match j, hj with
    | 0, _ => rfl
    | 1, _ => rfl
    | 2, _ => rfl
    | 3, _ => rfl
    | 4, _ => rfl
    | 5, _ => rfl
    | 6, _ => rfl
    | 7, _ => rfl
    | 8, _ => omega
  ·simp only [he, if_false]
   rw [if_neg (fun e => he (by have := place_inj (k := 9) (by omega) hj e; omega)), List.getElem?_set_ne (by omega)]
   exact h2 i j hi hj
 ·rw [hln] at hi
  by_cases he : i = d
  ·subst he
   simp only [if_true]
   rw [List.getElem?_set_self hi]
   exact kp _ _ (RdV.mono (fun b hb => ⟨hb.1, hb.2.1, fun e => hb.2.2 (by simpa [Value.ownBlock] using e.symm)⟩) hx)
  ·simp only [he, if_false]
   rw [List.getElem?_set_ne (by omega)]
   exact kp _ _ (h3 i hi)
theorem SG.setN {L : Nat → Prop} {w : World} {lo g cap m : Nat} {l : List Nd} (s : SG w lo L (.slice (some ⟨g, 0, none⟩) m cap) l) {d j : Nat} (hd : d < l.length) (hj8 : j < 8) {u : Value} {n : Nd} (hes : n.es = (l[d]?.getD nd0).es) (hu : ∀ x, ndVal n x j = u) (ho : ∀ x j', j' < 8 → j' ≠ j → ndVal n x j' = ndVal (l[d]?.getD nd0) x j') :
  SG (w.setCell ⟨g, d * 9 + j, none⟩ u) lo L (.slice (some ⟨g, 0, none⟩) m cap) (l.set d n) := by
 obtain ⟨a, c, hv⟩ := s.shape
 simp only [Value.slice.injEq] at hv
 obtain ⟨-, rfl, -⟩ := hv
 obtain ⟨V, C, h1, h2, h3⟩ := s
 have hst := h1.stored (d * 9 + j) u
 have hCl : C.length = l.length * 9 := h1.1
 have hln : (l.set d n).length = l.length := List.length_set
 have kp : ∀ (y : Value) (ys : List En), RdV w (EntL w L (.slice (some ⟨g, 0, none⟩) l.length cap)) y (ensO ys) → RdV (w.setCell ⟨g, d * 9 + j, none⟩ u) (EntL (w.setCell ⟨g, d * 9 + j, none⟩ u) L (.slice (some ⟨g, 0, none⟩) l.length cap)) y (ensO ys) := fun y ys r =>
  RdV.mono (fun b hb => ⟨hb.1, by simpa using hb.2.1, hb.2.2⟩) (RdV.keep ⟨by simp, fun b hb _ => heap_setCell_other w _ b u (fun e => hb.2.2 (by rw [e]; rfl))⟩ r)
 refine ⟨V, _, by rw [hln]; exact hst.1, fun i j' hi hj => ?_, fun i hi => ?_⟩
 ·rw [hln] at hi
  rw [List.getElem?_set]
  by_cases he : i = d
  ·subst he
   rw [List.getElem?_set_self hi]
   by_cases h8 : j' = j
   ·subst h8
    rw [if_pos rfl, if_pos (by rw [hCl]; exact place_lt hi hj)]
    rw [Option.getD_some, hu]
   ·rw [if_neg (by omega), h2 i j' hi hj, Option.getD_some]
    by_cases h9 : j' < 8
    ·rw [ho _ _ h9 h8]
    ·obtain rfl : j' = 8 := by omega
     rfl
  ·rw [if_neg (fun e => he (by have := place_inj (k := 9) (by omega) hj e; omega)), List.getElem?_set_ne (by omega)]
   exact h2 i j' hi hj
 ·rw [hln] at hi
  by_cases he : i = d
  ·subst he
   rw [List.getElem?_set_self hi, Option.getD_some, hes]
   exact kp _ _ (h3 i hi)
  ·rw [List.getElem?_set_ne (by omega)]
   exact kp _ _ (h3 i hi)
theorem step_appE {ops : Array Oper} {o : Oper} {a : Act} {K : Act → World → Prop} {Q : Exit → Act → World → Prop} {E : Prop} (w : World) (hgd : o.guard = none) (s x : Operand)
  (ho : o.op = .call { callee := .builtin .append, args := #[s, x], argTypes := #[32, 32] })
  (v : Value) (hs : a.eval s = v) (l l2 : List En) (lo c : Nat) (ao : Option Addr) (T : Nat → Prop) (hx : a.eval x = .slice ao l2.length c) (V2 : Nat → Value)
  (hsrc : Lies w ao c l2 V2) (hr : ∀ i, i < l2.length → RdV w (Nm w T v) (V2 i) (.bytes (l2[i]?.getD en0).nm))
  (hown : SE w lo T v l) (hlo : lo ≤ w.heap.size) (hl : l.length + l2.length ≤ 8000)
  (h : ∀ v' w', SE w' lo T v' (l ++ l2) → w.grownBy w' v.ownBlock → (v'.ownBlock = v.ownBlock ∨ v'.ownBlock = some w.heap.size) → K (a.put o.dst v') w') : if Region.wanted o (yielded ops a.tmps) = true then Oper.wp Tryz.prog o a w K Q else E := by
 have hw : Region.wanted o (yielded ops a.tmps) = true := by simp [Region.wanted, hgd]
 rw [if_pos hw]
 obtain ⟨i0, hi0, hz0, hz1, hz2⟩ := info_parts Tryz.infoEn
 obtain ⟨V, C, h1, h2, h3⟩ := hown
 rcases hsrc with ⟨rfl, rfl, rfl⟩ | ⟨ad, rfl, hcell⟩
 ·have hrun := run_append_owned_none (P := Tryz.prog) (w := w) lo 32 o.type 81 i0 4 Tryz.underlying32 hi0 v l.length C h1
  have hx' : a.eval x = .n0 := hx
  unfold Oper.wp execOp
  simp only [ho, resolve, invoke, builtin, Sem.run_bind, Sem.run_pure, Result.andThen_ok, List.map_toArray, List.map_cons, List.map_nil, hs, hx', hrun]
  exact h v w (by rw [List.append_nil]; exact ⟨V, C, h1, h2, h3⟩) ⟨rfl, rfl, rfl, Nat.le_refl _, fun _ _ _ => rfl⟩ (.inl rfl)
 ·obtain ⟨v', w', hrun, ho', hg, _, hgg⟩ := run_append_own_at (P := Tryz.prog) w lo 32 o.type 81 i0 (.agg #[.n0, .i 0, .i 0, .bool false]) 4 48 Tryz.underlying32 hi0 hz0 hz1 hz2 rfl (by decide) v l.length C h1 ad l2.length c (enRow l2 V2) (by simp [enRow]) hcell (fun u hu => by
    obtain ⟨t, ht⟩ := List.getElem?_of_mem hu
    obtain ⟨ht1, rfl⟩ := enRow_of ht
    refine enVal_one _ _ ?_ _
    obtain ⟨a', c', e'⟩ := RdV.sliceB (hr (t / 4) (by omega))
    rw [e']
    rfl) (by unfold maxLen; omega) (by omega) hlo
  have hse := SE.manyV V V2 C (enRow l2 V2) h1 h2 h3 (fun i j hi hj => enRow_at l2 V2 i j hi hj) hr ho' hg hgg
  unfold Oper.wp execOp
  simp only [ho, resolve, invoke, builtin, Sem.run_bind, Sem.run_pure, Result.andThen_ok, List.map_toArray, List.map_cons, List.map_nil, hs, hx, hrun]
  exact h v' w' hse hg hgg
def ndRow (l : List Nd) (V : Nat → Value) : List Value := (List.range (l.length * 9)).map (fun t => ndVal (l[t / 9]?.getD nd0) (V (t / 9)) (t % 9))
theorem ndRow_at (l : List Nd) (V : Nat → Value) (i j : Nat) (hi : i < l.length) (hj : j < 9) : (ndRow l V)[i * 9 + j]? = some (ndVal (l[i]?.getD nd0) (V i) j) := by
 unfold ndRow
 rw [List.getElem?_map, List.getElem?_range (place_lt hi hj)]
 simp only [Option.map_some]
 rw [show (i * 9 + j) / 9 = i by omega, show (i * 9 + j) % 9 = j by omega]
theorem ndRow_of {l : List Nd} {V : Nat → Value} {t : Nat} {u : Value} (h : (ndRow l V)[t]? = some u) : t < l.length * 9 ∧ u = ndVal (l[t / 9]?.getD nd0) (V (t / 9)) (t % 9) := by
 unfold ndRow at h
 rw [List.getElem?_map] at h
 by_cases ht : t < l.length * 9
 ·rw [List.getElem?_range ht] at h
  simp only [Option.map_some, Option.some.injEq] at h
  exact ⟨ht, h.symm⟩
 ·rw [List.getElem?_eq_none (by simpa using ht)] at h
  cases h
theorem ndVal_one (n : Nd) (x : Value) (hx : x.oneCell' = true) : ∀ j, (ndVal n x j).oneCell' = true
 | 0 => rfl
 | 1 => rfl
 | 2 => rfl
 | 3 => rfl
 | 4 => rfl
 | 5 => rfl
 | 6 => rfl
 | 7 => rfl
 | (_ + 8) => hx
theorem SG.manyV {L : Nat → Prop} {w w' : World} {lo : Nat} {v v' : Value} {l l2 : List Nd} (V V2 : Nat → Value) (C news : List Value) (h1 : w.ownsRow lo 75 9 v l.length C)
  (h2 : ∀ i j, i < l.length → j < 9 → C[i * 9 + j]? = some (ndVal (l[i]?.getD nd0) (V i) j)) (h3 : ∀ i, i < l.length → RdV w (EntL w L v) (V i) (ensO (l[i]?.getD nd0).es))
  (hn : ∀ i j, i < l2.length → j < 9 → news[i * 9 + j]? = some (ndVal (l2[i]?.getD nd0) (V2 i) j)) (hr : ∀ i, i < l2.length → RdV w (EntL w L v) (V2 i) (ensO (l2[i]?.getD nd0).es))
  (ho : w'.ownsRow lo 75 9 v' (l.length + l2.length) (C ++ news)) (hg : w.grownBy w' v.ownBlock) (hgg : v'.ownBlock = v.ownBlock ∨ v'.ownBlock = some w.heap.size) :
  SG w' lo L v' (l ++ l2) := by
 have hsz := hg.size
 have hCl : C.length = l.length * 9 := h1.1
 have hln : (l ++ l2).length = l.length + l2.length := List.length_append
 have hrd : ∀ (y : Value) (es : List En), RdV w (EntL w L v) y (ensO es) → RdV w' (EntL w' L v') y (ensO es) := fun y es r =>
  RdV.mono (fun b hb => ⟨hb.1, by have := hb.2.1; omega, fun e => by
   rcases hgg with h | h
   ·exact hb.2.2 (by rw [← h, e])
   ·rw [h] at e
    have e' : w.heap.size = b := by simpa using e
    have := hb.2.1
    omega⟩) (RdV.keep ⟨hsz, fun b hb hlt => hg.block b hlt (fun h => hb.2.2 h.symm)⟩ r)
 refine ⟨fun i => if i < l.length then V i else V2 (i - l.length), _, by rw [hln]; exact ho, fun i j hi hj => ?_, fun i hi => ?_⟩
 ·rw [hln] at hi
  by_cases hlt : i < l.length
  ·simp only [hlt, if_true]
   rw [List.getElem?_append_left (by rw [hCl]; exact place_lt hlt hj), List.getElem?_append_left hlt]
   exact h2 i j hlt hj
  ·simp only [hlt, if_false]
   rw [List.getElem?_append_right (by omega), hCl, show i * 9 + j - l.length * 9 = (i - l.length) * 9 + j by omega, List.getElem?_append_right (by omega)]
   exact hn (i - l.length) j (by omega) hj
 ·rw [hln] at hi
  by_cases hlt : i < l.length
  ·simp only [hlt, if_true]
   rw [List.getElem?_append_left hlt]
   exact hrd _ _ (h3 i hlt)
  ·simp only [hlt, if_false]
   rw [List.getElem?_append_right (by omega)]
   exact hrd _ _ (hr (i - l.length) (by omega))
def LiesN (w : World) (ao : Option Addr) (c : Nat) (l2 : List Nd) (V2 : Nat → Value) : Prop :=
 (ao = none ∧ l2 = [] ∧ c = 0) ∨ ∃ ad, ao = some ad ∧ ∀ t u, (ndRow l2 V2)[t]? = some u → w.cell? (ad.add t) = some u
theorem run_appN {L : Nat → Prop} (w : World) (ty : TypeId) (v : Value) (l l2 : List Nd) (lo c : Nat) (ao : Option Addr) (V2 : Nat → Value)
  (hsrc : LiesN w ao c l2 V2) (hr : ∀ i, i < l2.length → RdV w (EntL w L v) (V2 i) (ensO (l2[i]?.getD nd0).es)) (hown : SG w lo L v l) (hlo : lo ≤ w.heap.size) (hl : l.length + l2.length ≤ 8000) :
  ∃ v' w', (Builtin.append_ #[23, 23] ty #[v, .slice ao l2.length c]).run Tryz.prog w = .ok v' w' ∧ SG w' lo L v' (l ++ l2) ∧ w.grownBy w' v.ownBlock ∧ (v'.ownBlock = v.ownBlock ∨ v'.ownBlock = some w.heap.size) := by
 obtain ⟨i0, hi0, hz0, hz1, hz2⟩ := info_parts Tryz.infoNd
 obtain ⟨V, C, h1, h2, h3⟩ := hown
 rcases hsrc with ⟨rfl, rfl, rfl⟩ | ⟨ad, rfl, hcell⟩
 ·exact ⟨v, w, run_append_owned_none (P := Tryz.prog) (w := w) lo 23 ty 75 i0 9 Tryz.underlying23 hi0 v l.length C h1, by rw [List.append_nil]; exact ⟨V, C, h1, h2, h3⟩, ⟨rfl, rfl, rfl, Nat.le_refl _, fun _ _ _ => rfl⟩, .inl rfl⟩
 ·obtain ⟨v', w', hrun, ho', hg, _, hgg⟩ := run_append_own_at (P := Tryz.prog) w lo 23 ty 75 i0 _ 9 _ Tryz.underlying23 hi0 hz0 hz1 hz2 rfl (by decide) v l.length C h1 ad l2.length c (ndRow l2 V2) (by simp [ndRow]) hcell (fun u hu => by
    obtain ⟨t, ht⟩ := List.getElem?_of_mem hu
    obtain ⟨ht1, rfl⟩ := ndRow_of ht
    refine ndVal_one _ _ ?_ _
    obtain ⟨a', c', e', _⟩ := RdV.sliced (RdV.en (hr (t / 9) (by omega)))
    rw [e']
    rfl) (by unfold maxLen; omega) (by omega) hlo
  exact ⟨v', w', hrun, SG.manyV V V2 C (ndRow l2 V2) h1 h2 h3 (fun i j hi hj => ndRow_at l2 V2 i j hi hj) hr ho' hg hgg, hg, hgg⟩
theorem step_appN {L : Nat → Prop} {ops : Array Oper} {o : Oper} {a : Act} {K : Act → World → Prop} {Q : Exit → Act → World → Prop} {E : Prop} (w : World) (hgd : o.guard = none) (s x : Operand)
  (ho : o.op = .call { callee := .builtin .append, args := #[s, x], argTypes := #[23, 23] })
  (v : Value) (hs : a.eval s = v) (l l2 : List Nd) (lo c : Nat) (ao : Option Addr) (hx : a.eval x = .slice ao l2.length c) (V2 : Nat → Value)
  (hsrc : LiesN w ao c l2 V2) (hr : ∀ i, i < l2.length → RdV w (EntL w L v) (V2 i) (ensO (l2[i]?.getD nd0).es))
  (hown : SG w lo L v l) (hlo : lo ≤ w.heap.size) (hl : l.length + l2.length ≤ 8000)
  (h : ∀ v' w', SG w' lo L v' (l ++ l2) → w.grownBy w' v.ownBlock → (v'.ownBlock = v.ownBlock ∨ v'.ownBlock = some w.heap.size) → K (a.put o.dst v') w') : if Region.wanted o (yielded ops a.tmps) = true then Oper.wp Tryz.prog o a w K Q else E := by
 have hw : Region.wanted o (yielded ops a.tmps) = true := by simp [Region.wanted, hgd]
 rw [if_pos hw]
 obtain ⟨v', w', hrun, hs', hg, hgg⟩ := run_appN w o.type v l l2 lo c ao V2 hsrc hr hown hlo hl
 unfold Oper.wp execOp
 simp only [ho, resolve, invoke, builtin, Sem.run_bind, Sem.run_pure, Result.andThen_ok, List.map_toArray, List.map_cons, List.map_nil, hs, hx, hrun]
 exact h v' w' hs' hg hgg
theorem wpList_appN {L : Nat → Prop} {ops : Array Oper} {rest : List Oper} {o : Oper} {a : Act} {Q : Exit → Act → World → Prop} (w : World) (hgd : o.guard = none) (s x : Operand)
  (ho : o.op = .call { callee := .builtin .append, args := #[s, x], argTypes := #[23, 23] })
  (v : Value) (hs : a.eval s = v) (l l2 : List Nd) (lo c : Nat) (ao : Option Addr) (hx : a.eval x = .slice ao l2.length c) (V2 : Nat → Value)
  (hsrc : LiesN w ao c l2 V2) (hr : ∀ i, i < l2.length → RdV w (EntL w L v) (V2 i) (ensO (l2[i]?.getD nd0).es))
  (hown : SG w lo L v l) (hlo : lo ≤ w.heap.size) (hl : l.length + l2.length ≤ 8000)
  (h : ∀ v' w', SG w' lo L v' (l ++ l2) → w.grownBy w' v.ownBlock → (v'.ownBlock = v.ownBlock ∨ v'.ownBlock = some w.heap.size) → wpList Tryz.prog ops Q rest (a.put o.dst v') w') : wpList Tryz.prog ops Q (o :: rest) a w := by
 obtain ⟨v', w', hrun, hs', hg, hgg⟩ := run_appN w o.type v l l2 lo c ao V2 hsrc hr hown hlo hl
 refine wpList_plain hgd fun K hK => ?_
 unfold Oper.wp execOp
 simp only [ho, resolve, invoke, builtin, Sem.run_bind, Sem.run_pure, Result.andThen_ok, List.map_toArray, List.map_cons, List.map_nil, hs, hx, hrun]
 exact hK _ _ (h v' w' hs' hg hgg)
theorem getD_take {α : Type} (l : List α) (k i : Nat) (z : α) (hi : i < (l.take k).length) : (l.take k)[i]?.getD z = l[i]?.getD z := by
 rw [List.getElem?_take, if_pos (by rw [List.length_take] at hi; omega)]
theorem getD_drop {α : Type} (l : List α) (k i : Nat) (z : α) : (l.drop k)[i]?.getD z = l[k + i]?.getD z := by rw [List.getElem?_drop]
theorem sliceH_run (t : TypeId) (h : Tryz.prog.underlying t = some (.slice (Tryz.prog.elem t))) {s : Nat} (hs : ∀ W, (sizeOf (Tryz.prog.elem t)).run Tryz.prog W = .ok s W) (xa : Option Addr) (n c k : Nat) (hk : k ≤ c) (W : World) : (Instr.sliceAt t (.slice xa n c) none (some (.i (k : Int))) none).run Tryz.prog W = .ok (.slice xa k c) W := by
 rw [run_sliceAt_slice W t _ _ _ _ h, run_slice_h W t xa n c h .i64 (k : Int) (by omega) (by omega), hs]
 simp [Result.andThen, sliced]
 intro _
 cases xa with
 | none => rfl
 | some ad => obtain ⟨b, o, p⟩ := ad; cases p <;> simp [Addr.add]
theorem sliceL_run (t : TypeId) (h : Tryz.prog.underlying t = some (.slice (Tryz.prog.elem t))) {s : Nat} (hs : ∀ W, (sizeOf (Tryz.prog.elem t)).run Tryz.prog W = .ok s W) (xa : Option Addr) (n c k : Nat) (hk : k ≤ n) (W : World) : (Instr.sliceAt t (.slice xa n c) (some (.i (k : Int))) none none).run Tryz.prog W = .ok (.slice (if c = k then xa else xa.map (·.add (k * s))) (n - k) (c - k)) W := by
 rw [run_sliceAt_slice W t _ _ _ _ h, run_slice_l W t xa n c h .i64 (k : Int) (by omega) (by omega), hs]
 simp [Result.andThen, sliced]
theorem size_of_info {t : TypeId} {x : Option Value} {s b : Nat} (h : (Tryz.prog.info? t).map (fun i => (i.zero, i.size, i.bytes)) = some (x, s, b)) (W : World) : (sizeOf t).run Tryz.prog W = .ok s W := by
 cases hq : Tryz.prog.info? t with
 | none => rw [hq] at h; cases h
 | some i => rw [hq] at h; simp only [Option.map_some, Option.some.injEq, Prod.mk.injEq] at h; simp [sizeOf, typeInfo, hq, h.2.1]
theorem elemEn : Tryz.prog.underlying 32 = some (.slice (Tryz.prog.elem 32)) := by kernel_rfl
theorem elemNd : Tryz.prog.underlying 23 = some (.slice (Tryz.prog.elem 23)) := by kernel_rfl
theorem sizeEn (W : World) : (sizeOf (Tryz.prog.elem 32)).run Tryz.prog W = .ok 4 W := by
 rw [show Tryz.prog.elem 32 = 81 by kernel_rfl]; exact size_of_info Tryz.infoEn W
theorem sizeNd (W : World) : (sizeOf (Tryz.prog.elem 23)).run Tryz.prog W = .ok 9 W := by
 rw [show Tryz.prog.elem 23 = 75 by kernel_rfl]; exact size_of_info Tryz.infoNd W
theorem sliceHE (xa : Option Addr) (n c k : Nat) (hk : k ≤ c) (W : World) : (Instr.sliceAt 32 (.slice xa n c) none (some (.i (k : Int))) none).run Tryz.prog W = .ok (.slice xa k c) W := sliceH_run _ elemEn sizeEn xa n c k hk W
theorem sliceLE (xa : Option Addr) (n c k : Nat) (hk : k ≤ n) (W : World) : (Instr.sliceAt 32 (.slice xa n c) (some (.i (k : Int))) none none).run Tryz.prog W = .ok (.slice (if c = k then xa else xa.map (·.add (k * 4))) (n - k) (c - k)) W := sliceL_run _ elemEn sizeEn xa n c k hk W
theorem sliceHN (xa : Option Addr) (n c k : Nat) (hk : k ≤ c) (W : World) : (Instr.sliceAt 23 (.slice xa n c) none (some (.i (k : Int))) none).run Tryz.prog W = .ok (.slice xa k c) W := sliceH_run _ elemNd sizeNd xa n c k hk W
theorem sliceLN (xa : Option Addr) (n c k : Nat) (hk : k ≤ n) (W : World) : (Instr.sliceAt 23 (.slice xa n c) (some (.i (k : Int))) none none).run Tryz.prog W = .ok (.slice (if c = k then xa else xa.map (·.add (k * 9))) (n - k) (c - k)) W := sliceL_run _ elemNd sizeNd xa n c k hk W
theorem wpList_sl {ops : Array Oper} {rest : List Oper} {t t' : TypeId} {dst : Option Tmp} {x : Operand} {lo hi : Option Operand} {pos : String} {af : Array Edge} {a : Act} {Q : Exit → Act → World → Prop} {w : World} (v : Value)
  (hrun : (Instr.sliceAt t (a.eval x) (lo.map a.eval) (hi.map a.eval) none).run Tryz.prog w = .ok v w) (hK : wpList Tryz.prog ops Q rest (a.put dst v) w) : wpList Tryz.prog ops Q (⟨dst, .slice t x lo hi none, t', pos, af, none⟩ :: rest) a w := by
 refine wpList_plain rfl fun K' hK' => ?_
 unfold Oper.wp execOp
 simp only [Option.map_none, hrun, Sem.run_bind, Sem.run_pure, Result.andThen_ok]
 exact hK' _ _ hK
theorem RdV.lies {w : World} {S : Nat → Prop} {xa : Option Addr} {xc : Nat} {es : List En} (r : RdV w S (.slice xa es.length xc) (ensDt es)) :
  ∃ V : Nat → Value, (∀ i, i < es.length → RdV w S (V i) (.bytes (es[i]?.getD en0).nm)) ∧ ∀ k, k ≤ es.length → Lies w xa xc (es.take k) V ∧ Lies w (if xc = k then xa else xa.map (·.add (k * 4))) (xc - k) (es.drop k) (fun i => V (k + i)) := by
 unfold ensDt at r
 obtain ⟨a, cap, V, hv, hh, hc, he⟩ := r.inv
 simp only [Value.slice.injEq] at hv
 obtain ⟨rfl, -, rfl⟩ := hv
 refine ⟨fun i => V i 0, fun i hi => he i 0 hi (by omega), fun k hk => ?_⟩
 have hval : ∀ i j, i < es.length → j < 4 → V i j = enVal (es[i]?.getD en0) (V i 0) j := fun i j hi hj => by
  have := he i j hi hj
  match j, hj with
  | 0, _ => rfl
  | 1, _ => exact this
  | 2, _ => exact this
  | 3, _ => exact this
 cases xa with
 | none =>
  obtain ⟨h0, h1⟩ := hh.2.2 rfl
  have : es = [] := List.eq_nil_of_length_eq_zero h0
  subst this
  subst h1
  exact ⟨.inl ⟨rfl, by simp, rfl⟩, .inl ⟨by simp, by simp, by simp⟩⟩
 | some ad =>
  rcases hc with h0 | ⟨b, off, ha, h1, h2, hc⟩
  ·have : es = [] := List.eq_nil_of_length_eq_zero h0
   subst this
   refine ⟨.inr ⟨ad, rfl, fun t u ht => by simp [enRow] at ht⟩, .inr ?_⟩
   obtain ⟨ad2, e2⟩ : ∃ ad2, (if xc = k then some ad else Option.map (fun x => x.add (k * 4)) (some ad)) = some ad2 := by split <;> exact ⟨_, rfl⟩
   exact ⟨ad2, e2, fun t u ht => by simp [enRow] at ht⟩
  ·simp only [Option.some.injEq] at ha
   subst ha
   refine ⟨.inr ⟨_, rfl, fun t u ht => ?_⟩, .inr ?_⟩
   ·obtain ⟨ht1, rfl⟩ := enRow_of ht
    have hlt : t / 4 < (es.take k).length := by omega
    have hlt2 : t / 4 < es.length := by rw [List.length_take] at hlt; omega
    rw [add_plainT, getD_take _ _ _ _ hlt, ← hval _ _ hlt2 (by omega), ← hc (t / 4) (t % 4) hlt2 (by omega), show t / 4 * 4 + t % 4 = t by omega]
   ·by_cases hck : xc = k
    ·refine ⟨⟨b, off, none⟩, by rw [if_pos hck], fun t u ht => ?_⟩
     obtain ⟨ht1, rfl⟩ := enRow_of ht
     have := hh.1
     rw [List.length_drop] at ht1
     omega
    ·refine ⟨(Addr.mk b off none).add (k * 4), by rw [if_neg hck]; rfl, fun t u ht => ?_⟩
     obtain ⟨ht1, rfl⟩ := enRow_of ht
     rw [List.length_drop] at ht1
     have hlt2 : k + t / 4 < es.length := by omega
     rw [add_plainT, add_plainT, getD_drop, ← hval _ _ hlt2 (by omega), ← hc (k + t / 4) (t % 4) hlt2 (by omega), show off + k * 4 + t = off + ((k + t / 4) * 4 + t % 4) by omega]
theorem SG.lies {L : Nat → Prop} {w : World} {lo g c : Nat} {l : List Nd} (s : SG w lo L (.slice (some ⟨g, 0, none⟩) l.length c) l) :
  ∃ V : Nat → Value, (∀ i, i < l.length → RdV w (fun b => L b ∧ b < w.heap.size ∧ b ≠ g) (V i) (ensO (l[i]?.getD nd0).es)) ∧ l.length ≤ c ∧ ∀ k, k ≤ l.length → LiesN w (some ⟨g, 0, none⟩) c (l.take k) V ∧ LiesN w (if c = k then some ⟨g, 0, none⟩ else (some (Addr.mk g 0 none)).map (·.add (k * 9))) (c - k) (l.drop k) (fun i => V (k + i)) := by
 obtain ⟨V, C, h1, h2, h3⟩ := s
 have hcap : l.length ≤ c := by
  rcases h1.2 with ⟨hv, h0⟩ | ⟨g', c', cur, hv, hg, hh, hnc, hm, _⟩
  ·cases hv
  ·simp only [Value.slice.injEq] at hv; obtain ⟨-, -, rfl⟩ := hv; exact hnc
 refine ⟨V, fun i hi => RdV.mono (fun b hb => ⟨hb.1, hb.2.1, fun e => hb.2.2 (by rw [e]; rfl)⟩) (h3 i hi), hcap, fun k hk => ⟨.inr ⟨_, rfl, fun t u ht => ?_⟩, .inr ?_⟩⟩
 ·obtain ⟨ht1, rfl⟩ := ndRow_of ht
  have hlt : t / 9 < (l.take k).length := by omega
  have hlt2 : t / 9 < l.length := by rw [List.length_take] at hlt; omega
  rw [add_plainT, getD_take _ _ _ _ hlt, ← h2 _ _ hlt2 (by omega), Nat.zero_add, show t / 9 * 9 + t % 9 = t by omega]
  exact World.ownsRow.cellAt h1 t (by omega)
 ·by_cases hck : c = k
  ·refine ⟨⟨g, 0, none⟩, by rw [if_pos hck], fun t u ht => ?_⟩
   obtain ⟨ht1, rfl⟩ := ndRow_of ht
   rw [List.length_drop] at ht1
   omega
  ·refine ⟨(Addr.mk g 0 none).add (k * 9), by rw [if_neg hck]; rfl, fun t u ht => ?_⟩
   obtain ⟨ht1, rfl⟩ := ndRow_of ht
   rw [List.length_drop] at ht1
   have hlt2 : k + t / 9 < l.length := by omega
   rw [add_plainT, add_plainT, getD_drop, ← h2 _ _ hlt2 (by omega), Nat.zero_add, show (k + t / 9) * 9 + t % 9 = k * 9 + t by omega]
   exact World.ownsRow.cellAt h1 _ (by omega)
theorem LiesN.step {w W : World} {ao : Option Addr} {c : Nat} {l2 : List Nd} {V2 : Nat → Value} (h : LiesN w ao c l2 V2) (hb : Below w.heap.size w W) : LiesN W ao c l2 V2 := by
 rcases h with h | ⟨ad, ha, hc⟩
 ·exact .inl h
 ·exact .inr ⟨ad, ha, fun t u ht => (hb.cell (p := ad.add t) (block_lt_of_cell (hc t u ht))).trans (hc t u ht)⟩
theorem SG.low {w : World} {lo lo' : Nat} {L : Nat → Prop} {v : Value} {l : List Nd} (s : SG w lo L v l) (h : lo' ≤ lo) : SG w lo' L v l := by
 obtain ⟨V, C, h1, h2, h3⟩ := s
 exact ⟨V, C, ⟨h1.1, h1.2.imp id (fun ⟨g, c, cur, hv, hg, r⟩ => ⟨g, c, cur, hv, Nat.le_trans h hg, r⟩)⟩, h2, h3⟩
theorem ndRow_one (n : Nd) (V : Nat → Value) : ndRow [n] V = [.i n.h.sh, .i n.h.ino, .bool n.h.dir, .i n.par.sh, .i n.par.ino, .bool n.par.dir, .i n.links, .i n.val, V 0] := by simp [ndRow, List.range, List.range.loop, ndVal]
end
section
def isLow (c : Int) : Bool := decide (97 ≤ c) && decide (c ≤ 122)
def isNm (zs : List Int) : Bool := (decide (1 ≤ zs.length) && decide (zs.length ≤ 6)) && zs.all isLow
theorem all_take_next (zs : List Int) (k : Nat) (hk : k < zs.length) (h : (zs.take k).all isLow = true) : (isLow (zs[k]?.getD 0) = true → (zs.take (k + 1)).all isLow = true) ∧ (isLow (zs[k]?.getD 0) = false → zs.all isLow = false) := by
  constructor
  · intro hc
    rw [List.take_succ_eq_append_getElem hk, List.all_append, h]
    simp [hk] at hc
    simp [hc]
  · intro hc
    simp [hk] at hc
    rw [List.all_eq_false]
    exact ⟨zs[k], List.getElem_mem hk, by simp [hc]⟩

set_option maxHeartbeats 1000000 in
theorem specName_any (v : Value) (zs : List Int) (S : Nat → Prop) (w : World) (r : RdV w S v (.bytes zs)) (hl : zs.length ≤ 2097152) :
    Calls Tryz.prog 47 #[v] w fun e w' => e = .returned (.bool (isNm zs)) ∧ w' = w := by
  obtain ⟨a, cap, rfl, hh, hb, hc⟩ := r.b.reads
  clear r
  obtain ⟨n, hn⟩ : ∃ n, zs.length = n := ⟨_, rfl⟩
  have HC : Hid _ := hc
  have HN : Hid _ := hn
  have HI : Hid (isNm zs = ((decide (1 ≤ n) && decide (n ≤ 6)) && zs.all isLow)) := by show _ = _; unfold isNm; rw [hn]
  rw [hn] at hl ⊢
  rw [HI.out]
  clear hc hn hh hb HI
  by_cases h0 : 1 ≤ n
  case neg =>
    have e1 : decide (1 ≤ n) = false := by simpa using h0
    rw [e1]
    go_enter Tryz.func47, Tryz.ntmps47
    go_wp2
    go_ret
    exact ⟨by simp, rfl⟩
  by_cases h6 : n ≤ 6
  case neg =>
    have e1 : decide (n ≤ 6) = false := by simpa using h6
    rw [e1]
    go_enter Tryz.func47, Tryz.ntmps47
    go_wp2
    go_ret
    exact ⟨by simp, rfl⟩
  have e1 : decide (1 ≤ n) = true := by simpa using h0
  have e2 : decide (n ≤ 6) = true := by simpa using h6
  rw [e1, e2]
  clear e1 e2
  go_enter Tryz.func47, Tryz.ntmps47
  go_wp2
  go_loop [3] (fun i => ∃ k : Nat, k ≤ n ∧ i = .i k ∧ Hid ((zs.take k).all isLow = true)) (fun i => n - (intOf i).toNat)
  case atStart => exact ⟨0, Nat.zero_le _, rfl, by show _ = _; simp⟩
  case round =>
    obtain ⟨k, hk, rfl, HA⟩ := hrel
    by_cases hlt : k < n
    · obtain ⟨b, off, rfl, hbl, hcell⟩ := HC.out.resolve_left (fun e => by have := HN.out; rw [e] at this; simp at this; omega)
      have c1 := hcell k (by rw [HN.out]; exact hlt)
      have HST : Hid _ := all_take_next zs k (by rw [HN.out]; exact hlt) HA.out
      generalize zs[k]?.getD 0 = c at c1 HST
      clear hcell HA
      go_wp2
      all_goals first
        | (go_ret
           exact ⟨by rw [HST.out.2 (by simp [isLow]; omega)]; rfl, rfl⟩)
        | (go_round
           case rel => exact ⟨k + 1, by omega, by go_num, HST.out.1 (by simp [isLow]; omega)⟩
           case measure => simp [intOf]; omega)
    · have he : k = n := by omega
      subst he
      have HF : Hid (zs.all isLow = true) := by
        have := HA.out
        rwa [List.take_of_length_le (by rw [HN.out]; exact Nat.le_refl _)] at this
      go_wp2
      go_ret
      exact ⟨by rw [HF.out]; rfl, rfl⟩

set_option maxHeartbeats 1000000 in
theorem implName_any (v : Value) (zs : List Int) (S : Nat → Prop) (w : World) (r : RdV w S v (.bytes zs)) (hl : zs.length ≤ 2097152) :
    Calls Tryz.prog 56 #[v] w fun e w' => e = .returned (.bool (isNm zs)) ∧ w' = w := by
  obtain ⟨a, cap, rfl, hh, hb, hc⟩ := r.b.reads
  clear r
  obtain ⟨n, hn⟩ : ∃ n, zs.length = n := ⟨_, rfl⟩
  have HC : Hid _ := hc
  have HN : Hid _ := hn
  have HI : Hid (isNm zs = ((decide (1 ≤ n) && decide (n ≤ 6)) && zs.all isLow)) := by show _ = _; unfold isNm; rw [hn]
  rw [hn] at hl ⊢
  rw [HI.out]
  clear hc hn hh hb HI
  by_cases h0 : 1 ≤ n
  case neg =>
    have e1 : decide (1 ≤ n) = false := by simpa using h0
    rw [e1]
    go_enter Tryz.func56, Tryz.ntmps56
    go_wp2
    go_ret
    exact ⟨by simp, rfl⟩
  by_cases h6 : n ≤ 6
  case neg =>
    have e1 : decide (n ≤ 6) = false := by simpa using h6
    rw [e1]
    go_enter Tryz.func56, Tryz.ntmps56
    go_wp2
    go_ret
    exact ⟨by simp, rfl⟩
  have e1 : decide (1 ≤ n) = true := by simpa using h0
  have e2 : decide (n ≤ 6) = true := by simpa using h6
  rw [e1, e2]
  clear e1 e2
  go_enter Tryz.func56, Tryz.ntmps56
  go_wp2
  go_loop [15] (fun i => ∃ k : Nat, k ≤ n ∧ i = .i k ∧ Hid ((zs.take k).all isLow = true)) (fun i => n - (intOf i).toNat)
  case atStart => exact ⟨0, Nat.zero_le _, rfl, by show _ = _; simp⟩
  case round =>
    obtain ⟨k, hk, rfl, HA⟩ := hrel
    by_cases hlt : k < n
    · obtain ⟨b, off, rfl, hbl, hcell⟩ := HC.out.resolve_left (fun e => by have := HN.out; rw [e] at this; simp at this; omega)
      have c1 := hcell k (by rw [HN.out]; exact hlt)
      have HST : Hid _ := all_take_next zs k (by rw [HN.out]; exact hlt) HA.out
      generalize zs[k]?.getD 0 = c at c1 HST
      clear hcell HA
      go_wp2
      all_goals first
        | (go_ret
           exact ⟨by rw [HST.out.2 (by simp [isLow]; omega)]; rfl, rfl⟩)
        | (go_round
           case rel => exact ⟨k + 1, by omega, by go_num, HST.out.1 (by simp [isLow]; omega)⟩
           case measure => simp [intOf]; omega)
    · have he : k = n := by omega
      subst he
      have HF : Hid (zs.all isLow = true) := by
        have := HA.out
        rwa [List.take_of_length_le (by rw [HN.out]; exact Nat.le_refl _)] at this
      go_wp2
      go_ret
      exact ⟨by rw [HF.out]; rfl, rfl⟩
end
section
section
variable {P : Program} {ops : Array Oper} {Q : Exit → Act → World → Prop} {md : Region.Mode} {S : World → Prop} {z : Nat}

def wpAnyZ (P : Program) (md : Region.Mode) (ops : Array Oper) (Q : Exit → Act → World → Prop) (S : World → Prop) (z : Nat) : Nat → Array Bool → Act → World → Prop
 | 0, listed, a, w => Region.ready md ops listed = [] ∧ Q .normal a w
 | fuel + 1, listed, a, w =>
  (Region.ready md ops listed = [] → Q .normal a w) ∧
  ∀ i ∈ Region.ready md ops listed, wpOp P ops Q i (fun a' w' => (i ≠ z → S w') ∧ wpAnyZ P md ops Q S z fuel (listed.setIfInBounds i true) a' w') a w
theorem wpAny_of_Z : ∀ (fuel : Nat) (listed : Array Bool) (a : Act) (w : World), wpAnyZ P md ops Q S z fuel listed a w → wpAny P md ops Q fuel listed a w
 | 0, _, _, _, h => h
 | fuel + 1, _, _, _, h => ⟨h.1, fun i hi => wpOp_mono (fun a' w' h' => wpAny_of_Z fuel _ a' w' h'.2) (h.2 i hi)⟩
theorem wpAnyZ_first {i : Nat} {oi : Oper} {v : Value} (hi : ops[i]? = some oi) (hsel : ∀ (j : Nat) (o : Oper) cs b, ops[j]? = some o → o.op ≠ .select cs b) (hzi : ∀ oz, ops[z]? = some oz → ∃ e ∈ oz.after, Region.binds md e = true ∧ e.on = i)
  (hQ : ∀ c a w, Q (.panic c) (a.put oi.dst v) w → Q (.panic c) a w) :
  ∀ (fuel : Nat) (listed : Array Bool) (a : Act) (w : World),
   (∀ j oj, ops[j]? = some oj → j ≠ i → listed.getD j true = false → (∀ e ∈ oj.after, Region.binds md e = true → e.on ≠ i) → oi.apart ops oj = true) →
   i ∈ Region.ready md ops listed → YieldsIf P ops S oi v a → S w →
   wpAnyZ P md ops Q S z fuel (listed.setIfInBounds i true) (a.put oi.dst v) w → wpAnyZ P md ops Q S z (fuel + 1) listed a w := by
 intro fuel
 induction fuel with
 | zero =>
  intro listed a w _ hr hy hS H
  refine ⟨fun h => (by rw [h] at hr; cases hr), fun j hj => ?_⟩
  by_cases hji : j = i
  ·subst hji; exact hy.wpOp hi hS ⟨fun _ => hS, H⟩
  ·have := ready_mono hj hji
   rw [H.1] at this
   cases this
 | succ fuel ih =>
  intro listed a w hfree hr hy hS H
  refine ⟨fun h => (by rw [h] at hr; cases hr), fun j hj => ?_⟩
  by_cases hji : j = i
  ·subst hji; exact hy.wpOp hi hS ⟨fun _ => hS, H⟩
  ·have h1 := H.2 j (ready_mono hj hji)
   obtain ⟨hjun, oj, hoj, hall⟩ := mem_ready.1 hj
   have hnot : ∀ e ∈ oj.after, Region.binds md e = true → e.on ≠ i := fun e he hb heq => by
    have h1 := hall e he hb
    have h0 := (mem_ready.1 hr).1
    rw [heq] at h1
    rcases Nat.lt_or_ge i listed.size with h' | h'
    ·simp [h'] at h0 h1; rw [h0] at h1; cases h1
    ·simp [Array.getElem?_eq_none h'] at h1
   have hjz : j ≠ z := fun e => by
    subst e
    obtain ⟨e, he, hb, ho⟩ := hzi oj hoj
    exact hnot e he hb ho
   have h2 := wpOp_putIf hoj (hfree j oj hoj hji hjun hnot) (fun cs b => hsel i oi cs b hi) (fun cs b => hsel j oj cs b hoj) hQ hy h1
   have hfree' : ∀ k ok, ops[k]? = some ok → k ≠ i → (listed.setIfInBounds j true).getD k true = false →
     (∀ e ∈ ok.after, Region.binds md e = true → e.on ≠ i) → oi.apart ops ok = true := fun k ok hk hki hun hno => by
    refine hfree k ok hk hki ?_ hno
    by_cases hjk : j = k
    ·subst hjk; exact hjun
    ·rw [getD_set_ne true hjk] at hun; exact hun
   refine wpOp_mono (fun a' w' h3 => ⟨h3.2.1, ih (listed.setIfInBounds j true) a' w' hfree' (ready_mono hr (Ne.symm hji)) h3.1 (h3.2.1 hjz) ?_⟩) h2
   rw [Array.setIfInBounds_comm _ _ hji]
   exact h3.2.2
theorem wpAnyZ_take {i : Nat} {oi : Oper} {v : Value} {fuel : Nat} {listed : Array Bool} {a : Act} {w : World} (hi : ops[i]? = some oi)
  (hs : Region.noSelect ops = true) (hf : Region.free md ops listed i = true) (hr : (Region.ready md ops listed).contains i = true) (hz : (ops[z]?.map (fun o => o.after.any (fun e => Region.binds md e && e.on == i))) = some true)
  (hQ : ∀ c a w, Q (.panic c) (a.put oi.dst v) w → Q (.panic c) a w) (hy : YieldsIf P ops S oi v a) (hS : S w)
  (h : wpAnyZ P md ops Q S z fuel (listed.setIfInBounds i true) (a.put oi.dst v) w) : wpAnyZ P md ops Q S z (fuel + 1) listed a w :=
 wpAnyZ_first hi (Region.noSelect_spec hs) (fun oz ho => by
  rw [ho, Option.map_some, Option.some.injEq, Array.any_eq_true] at hz
  obtain ⟨k, hk, h3⟩ := hz
  rw [Bool.and_eq_true, beq_iff_eq] at h3
  exact ⟨_, Array.getElem_mem hk, h3.1, h3.2⟩) hQ fuel listed a w (Region.free_spec hi hf) (by simpa using hr) hy hS h
theorem wpAnyZ_done {listed : Array Bool} {a : Act} {w : World} (hr : Region.ready md ops listed = []) (h : Q .normal a w) :
  ∀ fuel, wpAnyZ P md ops Q S z fuel listed a w
 | 0 => ⟨hr, h⟩
 | _ + 1 => ⟨fun _ => h, by rw [hr]; simp⟩
theorem wpAnyZ_one {i : Nat} {o : Oper} {fuel : Nat} {listed : Array Bool} {a : Act} {w : World} (hr : Region.ready md ops listed = [i]) (ho : ops[i]? = some o)
  (h : ∀ K' : Act → World → Prop, Shut (∀ a w, S w → (S w → wpAnyZ P md ops Q S z fuel (listed.setIfInBounds i true) a w) → K' a w) → if Region.wanted o (yielded ops a.tmps) = true then Oper.wp P o a w K' Q else K' (a.put o.dst undef) w) : wpAnyZ P md ops Q S z (fuel + 1) listed a w :=
 ⟨fun h0 => (by rw [hr] at h0; cases h0), fun j hj => by
  rw [hr] at hj
  simp only [List.mem_cons, List.not_mem_nil, or_false] at hj
  subst hj
  exact wpOp_step ho (fun K' hK => h K' (fun a w hS hW => hK a w ⟨fun _ => hS, hW hS⟩))⟩
theorem wpAnyZ_last {o : Oper} {fuel : Nat} {listed : Array Bool} {a : Act} {w : World} (hr : Region.ready md ops listed = [z]) (ho : ops[z]? = some o)
  (h : ∀ K' : Act → World → Prop, Shut (∀ a w, wpAnyZ P md ops Q S z fuel (listed.setIfInBounds z true) a w → K' a w) → if Region.wanted o (yielded ops a.tmps) = true then Oper.wp P o a w K' Q else K' (a.put o.dst undef) w) : wpAnyZ P md ops Q S z (fuel + 1) listed a w :=
 ⟨fun h0 => (by rw [hr] at h0; cases h0), fun j hj => by
  rw [hr] at hj
  simp only [List.mem_cons, List.not_mem_nil, or_false] at hj
  subst hj
  exact wpOp_step ho (fun K' hK => h K' (fun a w hW => hK a w ⟨fun h => absurd rfl h, hW⟩))⟩
theorem wp_region_Z {id : Nat} {a : Act} {w : World} (S : World → Prop) (z : Nat) (hm : P.follows .mixedOrders = true) (hS : S w.drew)
  (h : S w.drew → wpAnyZ P .any ops Q S z ops.size (Array.replicate ops.size false) a w.drew) : (Code.region id ops true).wp P Q a w :=
 wp_region_any hm (wpAny_of_Z _ _ _ _ (h hS))
end
end
section
theorem tkz {P : Program} {md : Region.Mode} {ops : Array Oper} {Q : Exit → Act → World → Prop} {S : World → Prop} {z : Nat} {oi : Oper} {fuel : Nat} {listed : Array Bool} {a : Act} {w : World} (i : Nat) (v : Value) (hi : ops[i]? = some oi)
    (hb : (Region.noSelect ops && (Region.free md ops listed i && ((Region.ready md ops listed).contains i && ((ops[z]?.map (fun o => o.after.any (fun e => Region.binds md e && e.on == i))) == some true)))) = true) (hw : Region.wanted oi (yielded ops a.tmps) = true) (hS : S w) (hy : ∀ w, S w → (execOp a.eval oi).run P w = .ok (.value v) w)
    (h : wpAnyZ P md ops (NoPanic Q) S z fuel (listed.setIfInBounds i true) (a.put oi.dst v) w) : wpAnyZ P md ops (NoPanic Q) S z (fuel + 1) listed a w := by
  simp only [Bool.and_eq_true, beq_iff_eq] at hb
  exact wpAnyZ_take hi hb.1 hb.2.1 hb.2.2.1 hb.2.2.2 (fun _ _ _ h => h) (Or.inl ⟨hw, hy⟩) hS h
end
section
theorem and255 (y : Int) : 0 ≤ bits .and .i64 y 255 ∧ bits .and .i64 y 255 ≤ 255 := by
 have h : (BitVec.ofInt 64 y &&& BitVec.ofInt 64 255).toNat ≤ 255 := by
  rw [BitVec.toNat_and]; exact Nat.le_trans Nat.and_le_right (by decide)
 have e : bits .and .i64 y 255 = IntKind.i64.wrap ((BitVec.ofInt 64 y &&& BitVec.ofInt 64 255).toNat : Int) := rfl
 rw [e]
 simp only [IntKind.wrap, IntKind.bits, IntKind.signed]
 generalize (BitVec.ofInt 64 y &&& BitVec.ofInt 64 255).toNat = n at h
 simp
 omega

def CurAt (w : World) (pb : Nat) : Prop :=
 ∃ (a : Option Addr) (zs : List Int) (cap i : Nat) (h : Int), isBytes zs ∧ zs.length ≤ maxLen ∧ i ≤ zs.length ∧
  (zs = [] ∨ ∃ b off, a = some ⟨b, off, none⟩ ∧ b < pb ∧ ∀ j, j < zs.length → w.cell? ⟨b, off + j, none⟩ = some (.int .u8 (zs[j]?.getD 0))) ∧
  w.heap[pb]? = some (.cells #[.slice a zs.length cap, .i i, .i h] 102 (0, 0))

theorem grown_refl (w : World) (r : Option Nat) : w.grownBy w r := ⟨rfl, rfl, rfl, Nat.le_refl _, fun _ _ _ => rfl⟩

theorem grown_drewN {a w : World} {r : Option Nat} (h : a.grownBy w r) (n : Nat) : a.grownBy (w.drewN n) r := ⟨h.os, h.tape, h.output, h.size, h.block⟩

theorem grown_set {a w : World} {p j : Nat} (h : a.grownBy w (some p)) (u : Value) : a.grownBy (w.setCell ⟨p, j, none⟩ u) (some p) :=
 grown_trans h ⟨rfl, rfl, rfl, by simp, fun k _ hk => heap_setCell_other w ⟨p, j, none⟩ k u (fun e => hk (by simp [e]))⟩

theorem grown_below {w w' : World} {r : Option Nat} (h : Below w.heap.size w w') : w.grownBy w' r := ⟨h.os, h.tape, h.output, h.size, fun k hk _ => h.block k hk⟩

theorem CurAt.lt {w : World} {pb : Nat} (h : CurAt w pb) : pb < w.heap.size := by
 obtain ⟨_, _, _, _, _, _, _, _, _, hh⟩ := h
 exact lt_of_block hh

theorem CurAt.grown {w w' : World} {pb : Nat} {r : Option Nat} (h : CurAt w pb) (hg : w.grownBy w' r) (hr : ∀ k, r = some k → pb < k) : CurAt w' pb := by
 have hlt := h.lt
 obtain ⟨a, zs, cap, i, hh, h1, h2, h3, h4, h5⟩ := h
 refine ⟨a, zs, cap, i, hh, h1, h2, h3, ?_, ?_⟩
 ·rcases h4 with h4 | ⟨b, off, ha, hb, hc⟩
  ·exact .inl h4
  ·exact .inr ⟨b, off, ha, hb, fun j hj => hg.cell (hc j hj) (fun e => by have := hr _ e.symm; simp at this; omega)⟩
 ·rw [hg.block pb hlt (fun e => by have := hr _ e.symm; omega)]; exact h5

theorem CurAt.below {w w' : World} {pb : Nat} (h : CurAt w pb) (hb : Below w.heap.size w w') : CurAt w' pb := h.grown (r := none) (grown_below hb) (fun k hk => by cases hk)

theorem cur_turned {w w' : World} {pb : Nat} {a : Option Addr} {zs : List Int} {cap i : Nat} {h : Int} (hzb : isBytes zs) (hzl : zs.length ≤ maxLen) (hi : i ≤ zs.length)
  (hc : zs = [] ∨ ∃ b off, a = some ⟨b, off, none⟩ ∧ b < pb ∧ ∀ j, j < zs.length → w.cell? ⟨b, off + j, none⟩ = some (.int .u8 (zs[j]?.getD 0)))
  (hg : w.grownBy w' (some pb)) (hh : w'.heap[pb]? = some (.cells #[.slice a zs.length cap, .i i, .i h] 102 (0, 0))) : CurAt w' pb := by
 refine ⟨a, zs, cap, i, h, hzb, hzl, hi, ?_, hh⟩
 rcases hc with h0 | ⟨b, off, ha, hb, hc⟩
 ·exact .inl h0
 ·exact .inr ⟨b, off, ha, hb, fun j hj => hg.cell (hc j hj) (fun e => by simp at e; omega)⟩

set_option maxHeartbeats 1000000 in
theorem byte_any (pb : Nat) (w : World) (h : CurAt w pb) :
  Calls Tryz.prog 112 #[.pointer (some ⟨pb, 0, none⟩)] w fun e w' => ∃ x : Int, e = .returned (.i x) ∧ 0 ≤ x ∧ x ≤ 255 ∧ CurAt w' pb ∧ w.grownBy w' (some pb) := by
 obtain ⟨a, zs, cap, i, hh, hzb, hzl, hi, hcode, hheap⟩ := h
 obtain ⟨L, hL⟩ : ∃ L, zs.length = L := ⟨_, rfl⟩
 have c0 : w.cell? ⟨pb, 0, none⟩ = some (.slice a L cap) := by rw [cell_of_row w pb 0 _ _ _ hheap, ← hL]; rfl
 have c1 : w.cell? ⟨pb, 1, none⟩ = some (.i i) := by rw [cell_of_row w pb 1 _ _ _ hheap]; rfl
 have c2 : w.cell? ⟨pb, 2, none⟩ = some (.i hh) := by rw [cell_of_row w pb 2 _ _ _ hheap]; rfl
 have f1 : w.frozen? ⟨pb, 1, none⟩ = false := frozen_of_row w pb 1 _ _ hheap
 have f2 : w.frozen? ⟨pb, 2, none⟩ = false := frozen_of_row w pb 2 _ _ hheap
 have HH : Hid _ := hheap
 have HC : Hid _ := hcode
 have HL : Hid _ := hL
 have hLi : i ≤ L := by omega
 have hLm : L ≤ 9223372036854775807 := by unfold maxLen at hzl; omega
 clear hheap hcode hi hzl hL
 go_enter Tryz.func112, Tryz.ntmps112
 go_wp2
 generalize wrap64 (wrap64 (hh * 6364136223846793005) + 1442695040888963407) = H
 go_quiet (fail)
 go_wp2
 have hx := and255 (bits BinOp.xor IntKind.i64 (H / 8589934592) (H / 35184372088832))
 generalize bits BinOp.and IntKind.i64 (bits BinOp.xor IntKind.i64 (H / 8589934592) (H / 35184372088832)) 255 = x at hx
 by_cases hlt : i < L
 ·rcases HC.out with h0 | ⟨b, off, rfl, hb, hc⟩
  ·have := HL.out; rw [h0] at this; simp at this; omega
  have hc1 := hc i (by rw [HL.out]; exact hlt)
  have hcb := hzb i
  generalize zs[i]?.getD 0 = c at hc1 hcb
  clear hc
  go_quiet (fail)
  go_wp2
  go_quiet (fail)
  go_wp2
  go_ret
  have hy := and255 (x + c)
  have e1 := heap_setCell_same w pb 2 _ _ (.i H) HH.out
  have e2 := fun n => heap_setCell_same ((w.setCell ⟨pb, 2, none⟩ (.i H)).drewN n) pb 1 _ _ (.i ((i : Int) + 1)) e1
  have hgr := fun n => grown_set (j := 1) (grown_drewN (grown_set (j := 2) (grown_refl w (some pb)) (.i H)) n) (.i ((i : Int) + 1))
  exact ⟨_, rfl, hy.1, hy.2, cur_turned (i := i + 1) (h := H) hzb (by rw [HL.out]; unfold maxLen; omega) (by rw [HL.out]; omega) HC.out (hgr _) (e2 _), hgr _⟩
 ·go_quiet (fail)
  go_wp2
  go_ret
  have e1 := heap_setCell_same w pb 2 _ _ (.i H) HH.out
  have hgr := fun n m => grown_drewN (grown_drewN (grown_set (j := 2) (grown_refl w (some pb)) (.i H)) n) m
  exact ⟨_, rfl, hx.1, hx.2, cur_turned (i := i) (h := H) hzb (by rw [HL.out]; unfold maxLen; omega) (by rw [HL.out]; omega) HC.out (hgr _ _) e1, hgr _ _⟩

set_option maxHeartbeats 1000000 in
theorem below_any (pb : Nat) (n : Int) (w : World) (h : CurAt w pb) (h0 : 0 < n) (hn : n ≤ 9223372036854775807) :
  Calls Tryz.prog 74 #[.pointer (some ⟨pb, 0, none⟩), .i n] w fun e w' => ∃ x : Int, e = .returned (.i x) ∧ 0 ≤ x ∧ x < n ∧ CurAt w' pb ∧ w.grownBy w' (some pb) := by
 by_cases h256 : n ≤ 256
 ·go_enter Tryz.func74, Tryz.ntmps74
  go_wp2_with fail
  refine (byte_any pb w h).mono ?_
  rintro e w1 ⟨x, rfl, hx0, hx1, hc1, hg1⟩
  go_wp2
  go_ret
  exact ⟨_, rfl, Int.emod_nonneg _ (by omega), Int.emod_lt_of_pos _ h0, hc1, hg1⟩
 ·go_enter Tryz.func74, Tryz.ntmps74
  go_wp2_with fail
  refine (byte_any pb w h).mono ?_
  rintro e w1 ⟨x, rfl, hx0, hx1, hc1, hg1⟩
  go_wp2_with fail
  refine (byte_any pb w1 hc1).mono ?_
  rintro e w2 ⟨y, rfl, hy0, hy1, hc2, hg2⟩
  go_wp2_with fail
  refine (byte_any pb w2 hc2).mono ?_
  rintro e w3 ⟨z, rfl, hz0, hz1, hc3, hg3⟩
  go_wp2_with fail
  refine (byte_any pb w3 hc3).mono ?_
  rintro e w4 ⟨u, rfl, hu0, hu1, hc4, hg4⟩
  go_wp2
  go_ret
  exact ⟨_, rfl, Int.emod_nonneg _ (by omega), Int.emod_lt_of_pos _ h0, hc4, grown_trans (grown_trans (grown_trans hg1 hg2) hg3) hg4⟩

theorem once_any (pb : Nat) (n : Int) (w : World) (h : CurAt w pb) (h0 : 0 < n) (hn : n ≤ 9223372036854775807) :
  Calls Tryz.prog 33 #[.pointer (some ⟨pb, 0, none⟩), .i n] w fun e w' => ∃ x : Bool, e = .returned (.bool x) ∧ CurAt w' pb ∧ w.grownBy w' (some pb) := by
 go_enter Tryz.func33, Tryz.ntmps33
 go_wp2_with fail
 refine (below_any pb n w h h0 hn).mono ?_
 rintro e w1 ⟨x, rfl, hx0, hx1, hc1, hg1⟩
 go_wp2
 go_ret
 exact ⟨_, rfl, hc1, hg1⟩

theorem pick_any (pb g : Nat) (xs : List Int) (w : World) (h : CurAt w pb) (h0 : 0 < xs.length) (hl : xs.length ≤ 100) (hne : g ≠ pb) (hg : w.heap[g]? = some (.cells (xs.map (Value.int .i64)).toArray 3 (0, 0))) :
  Calls Tryz.prog 32 #[.pointer (some ⟨pb, 0, none⟩), .slice (some ⟨g, 0, none⟩) xs.length xs.length] w fun e w' => ∃ x : Int, e = .returned (.i x) ∧ x ∈ xs ∧ CurAt w' pb ∧ w.grownBy w' (some pb) := by
 obtain ⟨L, hL⟩ : ∃ L, xs.length = L := ⟨_, rfl⟩
 have HL : Hid _ := hL
 rw [hL] at h0 hl ⊢
 have HG : Hid _ := hg
 clear hL hg
 go_enter Tryz.func32, Tryz.ntmps32
 go_wp2_with fail
 refine (below_any pb (L : Int) w h (by omega) (by omega)).mono ?_
 rintro e w1 ⟨x, rfl, hx0, hx1, hc1, hg1⟩
 obtain ⟨k, rfl⟩ : ∃ k : Nat, x = (k : Int) := ⟨x.toNat, by omega⟩
 have hk : k < xs.length := by rw [HL.out]; omega
 have hcell : w1.cell? ⟨g, k, none⟩ = some (.i xs[k]) := by
  refine hg1.cell ?_ (by simpa using hne)
  rw [cell_of_row w g k _ _ _ HG.out]
  simp [hk]
 have hmem : xs[k] ∈ xs := List.getElem_mem hk
 generalize xs[k] = y at hcell hmem
 go_wp2
 go_ret
 exact ⟨_, rfl, hmem, hc1, hg1⟩

theorem CurAt.alloc {w : World} {pb : Nat} (h : CurAt w pb) (o : Obj) : CurAt (w.alloc o) pb := h.grown (r := none) (World.grownBy_alloc w o none) (fun k hk => by cases hk)

theorem cur_new (w : World) (a : Option Addr) (zs : List Int) (len cap : Nat) (x : Int) (h : Reads w a zs) (hlen : len = zs.length) (hm : zs.length ≤ maxLen) : CurAt (w.alloc (.cells #[.slice a len cap, .i 0, .i x] 102)) w.heap.size := by
 subst hlen
 refine ⟨a, zs, cap, 0, x, h.1, hm, Nat.zero_le _, ?_, heap_alloc_new w _⟩
 rcases h.2 with h0 | ⟨b, off, ha, hb, hc⟩
 ·exact .inl h0
 ·exact .inr ⟨b, off, ha, hb, fun j hj => (World.cell?_alloc_past _ b (off + j) hb).trans (hc j hj)⟩

set_option maxHeartbeats 1000000 in
set_option maxRecDepth 100000 in
theorem new_any (a : Option Addr) (zs : List Int) (len cap : Nat) (w : World) (h : Reads w a zs) (hlen : len = zs.length) (hm : zs.length ≤ maxLen) :
  Calls Tryz.prog 27 #[.slice a len cap] w fun e w' => e = .returned (.pointer (some ⟨w.heap.size, 0, none⟩)) ∧ CurAt w' w.heap.size ∧ Below w.heap.size w w' := by
 have HLEN : Hid _ := hlen
 have hmm : len ≤ 9223372036854775807 := by unfold maxLen at hm; omega
 have HM : Hid _ := hm
 have HR : Hid _ := h
 clear h hlen hm
 go_enter Tryz.func27, Tryz.ntmps27
 go_wp2
 go_loop [3, 4] (fun q i => ∃ (k : Nat) (x : Int), k ≤ len ∧ k ≤ 4000 ∧ i = .i k ∧ q = .i x) (fun _ i => 4000 - (intOf i).toNat)
 case atStart => exact ⟨0, _, Nat.zero_le _, Nat.zero_le _, rfl, rfl⟩
 case round =>
  obtain ⟨k, x, hk, hk4, rfl, rfl⟩ := hrel
  by_cases hlt : k < len ∧ k < 4000
  ·obtain ⟨hlt, hlt4⟩ := hlt
   rcases HR.out.2 with h0 | ⟨b, off, rfl, hb, hc⟩
   ·have := HLEN.out; rw [h0] at this; simp at this; omega
   have hc1 := hc k (by rw [← HLEN.out]; exact hlt)
   generalize zs[k]?.getD 0 = c at hc1
   clear hc
   go_wp2
   go_round
   case rel => exact ⟨k + 1, _, by omega, by omega, by go_num, rfl⟩
   case measure => simp [intOf]; omega
  ·by_cases hlt1 : k < len
   ·have hge : 4000 ≤ k := by omega
    go_wp2
    go_ret
    exact ⟨rfl, cur_new w a zs len cap x HR.out HLEN.out HM.out, (Below.refl _ _).alloc (Nat.le_refl _) _⟩
   ·go_wp2
    go_ret
    exact ⟨rfl, cur_new w a zs len cap x HR.out HLEN.out HM.out, (Below.refl _ _).alloc (Nat.le_refl _) _⟩
end
section
def bsOf (s : ByteArray) : List Int := s.data.toList.map (fun b => (b.toNat : Int))
theorem bsOf_bytes (s : ByteArray) : isBytes (bsOf s) := fun j => by
 unfold bsOf
 rw [List.getElem?_map]
 cases h : s.data.toList[j]? with
 | none => simp
 | some b => have := b.toNat_lt; simp; omega
theorem bsOf_len (s : ByteArray) : (bsOf s).length = s.size := by unfold bsOf; rw [List.length_map, Array.length_toList]; rfl
theorem bytesWorld_below (W : World) (s : ByteArray) : Below W.heap.size W (Lib.bytesWorld W 5 s) :=
 ⟨rfl, rfl, rfl, by rw [Lib.bytesWorld_size]; omega, fun k hk => Lib.bytesWorld_at_old W _ s k hk⟩
theorem bytesWorld_rd (W : World) (s : ByteArray) (hm : s.size ≤ 100) : RdV (Lib.bytesWorld W 5 s) (fun b => b = W.heap.size) (.slice (some ⟨W.heap.size, 0, none⟩) s.size (grownCap W s.size 0 5)) (.bytes (bsOf s)) :=
 ⟨bsOf_bytes s, _, s.size, _, rfl, (bsOf_len s).symm, ⟨grownCap_ge _ _ _ _, grownCap_le_maxLen _ _ _ _ (by unfold maxLen; omega), fun e => by cases e⟩, .inr ⟨W.heap.size, 0, rfl, rfl, by rw [Lib.bytesWorld_size]; omega, ⟨_, _, Lib.bytesWorld_at_new W _ s⟩, fun i hi => by
  rw [bsOf_len] at hi
  rw [Nat.zero_add, Lib.bytesWorld_cell W _ s i hi]
  have hi' : i < s.data.toList.length := by rw [Array.length_toList]; exact hi
  unfold bsOf
  rw [List.getElem?_map, List.getElem?_eq_getElem hi']
  simp [List.getD, List.getElem?_eq_getElem hi']⟩⟩
set_option maxHeartbeats 2000000 in
theorem draws4_any (pb : Nat) (w : World) (h : CurAt w pb) :
  Calls Tryz.prog 77 #[.pointer (some ⟨pb, 0, none⟩)] w fun e w' => ∃ a n c zs, e = .returned (.slice a n c) ∧ RdV w' (fun b => w.heap.size ≤ b ∧ b < w'.heap.size) (.slice a n c) (.bytes zs) ∧ zs.length ≤ 2 ∧ CurAt w' pb ∧ w.grownBy w' (some pb) := by
 have hpb := h.lt
 have hcv : ∀ s W, (convert 9 22 (.string s)).run Tryz.prog W = .ok (.slice (some ⟨W.heap.size, 0, none⟩) s.size (grownCap W s.size 0 5)) (Lib.bytesWorld W 5 s) := fun s W => Lib.run_convert_string_bytes W _ _ _ s Tryz.underlying9 Tryz.underlying22 Tryz.underlying5
 have HCV : Hid _ := hcv
 clear hcv
 go_enter Tryz.func77, Tryz.ntmps77
 go_wp2_with fail
 refine (below_any pb 6 _ (h.alloc _) (by omega) (by omega)).mono ?_
 rintro e w1 ⟨x, rfl, hx0, hx1, hc1, hg1⟩
 have hV : VarA w1 w.heap.size 9 _ := (hg1.block w.heap.size (by simp) (fun e => by have e2 : w.heap.size = pb := (by simpa using e); omega)).trans (heap_alloc_new w _)
 have v0 := hV.c 0 rfl
 have v1 := hV.c 1 rfl
 have v2 := hV.c 2 rfl
 have v3 := hV.c 3 rfl
 have v4 := hV.c 4 rfl
 have v5 := hV.c 5 rfl
 have HC1 : Hid (CurAt w1 pb) := hc1
 have HG1 : Hid _ := hg1
 have z1 := hg1.size
 rw [World.size_alloc] at z1
 have HFIN : Hid (∀ s : ByteArray, s.size ≤ 2 → ∃ a n c zs, Ending.returned (.slice (some ⟨w1.heap.size, 0, none⟩) s.size (grownCap w1 s.size 0 5)) = Ending.returned (.slice a n c) ∧ RdV (Lib.bytesWorld w1 5 s) (fun b => w.heap.size ≤ b ∧ b < (Lib.bytesWorld w1 5 s).heap.size) (.slice a n c) (.bytes zs) ∧ zs.length ≤ 2 ∧ CurAt (Lib.bytesWorld w1 5 s) pb ∧ w.grownBy (Lib.bytesWorld w1 5 s) (some pb)) := fun s hs =>
  ⟨_, _, _, bsOf s, rfl, RdV.mono (fun b hb => ⟨by omega, by rw [Lib.bytesWorld_size]; omega⟩) (bytesWorld_rd w1 s (by omega)), by rw [bsOf_len]; exact hs, hc1.below (bytesWorld_below w1 s), grown_trans (grown_trans (World.grownBy_alloc w _ _) hg1) (grown_below (bytesWorld_below w1 s))⟩
 clear hV hg1 hc1 h
 have hx : x = 0 ∨ x = 1 ∨ x = 2 ∨ x = 3 ∨ x = 4 ∨ x = 5 := by omega
 rcases hx with rfl | rfl | rfl | rfl | rfl | rfl
 ·have hcv := HCV.out ⟨#[97]⟩ w1
  go_wp2
  go_ret
  exact HFIN.out ⟨#[97]⟩ (by decide)
 ·have hcv := HCV.out ⟨#[98]⟩ w1
  go_wp2
  go_ret
  exact HFIN.out ⟨#[98]⟩ (by decide)
 ·have hcv := HCV.out ⟨#[99]⟩ w1
  go_wp2
  go_ret
  exact HFIN.out ⟨#[99]⟩ (by decide)
 ·have hcv := HCV.out ⟨#[100]⟩ w1
  go_wp2
  go_ret
  exact HFIN.out ⟨#[100]⟩ (by decide)
 ·have hcv := HCV.out ⟨#[97, 98]⟩ w1
  go_wp2
  go_ret
  exact HFIN.out ⟨#[97, 98]⟩ (by decide)
 ·have hcv := HCV.out ⟨#[122, 122]⟩ w1
  go_wp2
  go_ret
  exact HFIN.out ⟨#[122, 122]⟩ (by decide)
end
section
theorem psum_len {α : Type} (f g : α → Nat) (h : ∀ a, f a ≤ g a) (l : List α) (j : Nat) : psum f l j ≤ (l.map g).sum := by
 have h1 := psum_mono0 f g h (l.take j)
 have h2 := psum_le g l j
 unfold psum at *
 omega

set_option maxHeartbeats 4000000 in
theorem specCount_any (x : Value) (l : List Nd) (h : Hd) (S : Nat → Prop) (w : World) (r : RdV w S x (ndsDt l)) (hl : szNds l ≤ 2097152) :
  Calls Tryz.prog 43 #[.agg #[x], h.v] w fun e w' => e = .returned (.i (cntH l h : Int)) ∧ Below w.heap.size w w' := by
 obtain ⟨a, cap, rfl, _⟩ := RdV.sliced r
 obtain ⟨s, ino, d⟩ := h
 have HR : Hid (∀ W, Below w.heap.size w W → RdV W S (.slice a l.length cap) (.rows 75 9 l.length (fun i j => ndCell (l[i]?.getD nd0) j))) := RdV.old r
 have HP : Hid (∀ j, psum (fun n => cntE n.es (s, ino, d)) l j ≤ 2097152) := fun j => Nat.le_trans (psum_len _ (fun n : Nd => szEns n.es) (fun n => by unfold cntE szEns; exact Nat.le_trans List.countP_le_length (by omega)) l j) (by unfold szNds at hl; omega)
 have HX : Hid (cntH l (s, ino, d) = psum (fun n => cntE n.es (s, ino, d)) l l.length) := rfl
 have HU : Hid (∀ j, j < l.length → psum (fun n => cntE n.es (s, ino, d)) l (j + 1) = psum (fun n => cntE n.es (s, ino, d)) l j + cntE (l[j]?.getD nd0).es (s, ino, d)) := fun j hj => psum_next _ l _ j hj
 have HU0 : Hid (psum (fun n => cntE n.es (s, ino, d)) l 0 = 0) := psum_zero _ _
 have HE : Hid (∀ j : Nat, (l[j]?.getD nd0).es.length ≤ 2097152) := fun j => Nat.le_trans (Nat.le_trans (show (l[j]?.getD nd0).es.length ≤ szEns (l[j]?.getD nd0).es by unfold szEns; omega) (szNds_at l j)) hl
 generalize psum (fun n => cntE n.es (s, ino, d)) l = P at HP HX HU HU0
 have hnn : l.length ≤ 2097152 := by unfold szNds at hl; omega
 rw [HX.out]
 clear r hl HX
 generalize l.length = n at *
 go_enter Tryz.func43, Tryz.ntmps43
 go_wp2
 go_loopw [5, 6] (fun c i wr => ∃ k : Nat, k ≤ n ∧ i = .i k ∧ c = .i (P k : Int) ∧ Below w.heap.size w wr ∧ VarA wr w.heap.size 25 #[.slice a n cap] ∧ VarA wr (w.heap.size + 1) 27 #[.i s, .i ino, .bool d]) (fun _ i _ => n - (intOf i).toNat)
 case atStart => exact ⟨0, Nat.zero_le _, rfl, by rw [HU0.out]; rfl, Below.newH2 _ _, (VarA.new w _ _).alloc _, by have := VarA.new (w.alloc (.cells #[.slice a n cap] 25)) 27 #[.i s, .i ino, .bool d]; simpa using this⟩
 case round =>
  obtain ⟨k, hk, rfl, rfl, hbel, v0, v1⟩ := hrel
  have c0 := v0.l1
  by_cases hlt : k < n
  ·obtain ⟨b, off, rfl, hbl, _, hx⟩ := RdV.at (HR.out wr hbel) hlt
   obtain ⟨e, he⟩ : ∃ e, l[k]?.getD nd0 = e := ⟨_, rfl⟩
   obtain ⟨x8, c8, r8⟩ := hx 8 (by omega)
   have hu := HU.out k hlt
   have he2 := HE.out k
   have hp := HP.out k
   have hp1 := HP.out (k + 1)
   rw [he] at r8 hu he2
   clear hx he
   obtain ⟨hh, par, lk, vl, es⟩ := e
   dsimp only at hu he2
   have RE : Hid (RdV wr S x8 (ensDt es)) := r8
   clear r8
   obtain ⟨ea, ec, rfl, _⟩ := RdV.sliced RE.out
   have HRE : Hid (∀ W, Below wr.heap.size wr W → RdV W S (.slice ea es.length ec) (.rows 81 4 es.length (fun i j => enCell (es[i]?.getD en0) j))) := RdV.old RE.out
   obtain ⟨m0, hm0⟩ : ∃ m0, es.length = m0 := ⟨_, rfl⟩
   rw [hm0] at HRE c8 he2
   have HM0 : Hid _ := hm0
   have HFIN : Hid (P k + cntE (es.take m0) (s, ino, d) = P (k + 1)) := by show _ = _; rw [hu, ← hm0, List.take_length]
   have HLE : Hid (∀ m, P k + cntE (es.take m) (s, ino, d) ≤ 4194304) := fun m => by have := cntE_le es (s, ino, d) m; omega
   clear RE hm0 hu hp1
   generalize P k = pk at *
   have hc8 : ∀ W, Below wr.heap.size wr W → W.cell? ⟨b, off + k * 9 + 8, none⟩ = some (.slice ea m0 ec) := fun W hW => (hW.cell (p := ⟨b, off + k * 9 + 8, none⟩) hbl).trans c8
   have HC8 : Hid _ := hc8
   clear hc8
   go_wp2
   go_loopw [5, 7] (fun c i wq => ∃ m : Nat, m ≤ m0 ∧ i = .i m ∧ ∃ z : Nat, c = .i (z : Int) ∧ Hid (z = pk + cntE (es.take m) (s, ino, d)) ∧ Below wr.heap.size wr wq ∧ VarA wq w.heap.size 25 #[.slice (some ⟨b, off, none⟩) n cap] ∧ VarA wq (w.heap.size + 1) 27 #[.i s, .i ino, .bool d]) (fun _ i _ => m0 - (intOf i).toNat)
   case atStart => exact ⟨0, Nat.zero_le _, rfl, pk, rfl, by show _ = _; simp [cntE], Below.refl _ _, v0, v1⟩
   case round =>
    clear c0 v0 v1 c8
    obtain ⟨m, hm, rfl, z, rfl, HZ0, hbel2, v0, v1⟩ := hrel
    have c0 := v0.l1
    obtain ⟨f0, f1, f2⟩ := v1.l3
    have c8 := HC8.out _ hbel2
    by_cases hlt2 : m < m0
    ·obtain ⟨b2, off2, rfl, hbl2, _, hy⟩ := RdV.at (HRE.out _ hbel2) hlt2
     obtain ⟨e, he⟩ : ∃ e, es[m]?.getD en0 = e := ⟨_, rfl⟩
     obtain ⟨x1, g1, r1⟩ := hy 1 (by omega)
     obtain ⟨x2, g2, r2⟩ := hy 2 (by omega)
     obtain ⟨x3, g3, r3⟩ := hy 3 (by omega)
     rw [he] at r1 r2 r3
     have hcn := cntE_next es (s, ino, d) m (by rw [HM0.out]; exact hlt2)
     rw [he] at hcn
     have hle := HLE.out (m + 1)
     clear hy he
     obtain ⟨nm, ⟨p, q, dd⟩⟩ := e
     obtain rfl : x1 = .i p := r1
     obtain rfl : x2 = .i q := r2
     obtain rfl : x3 = .bool dd := r3
     have HNX : Hid (((p = s ∧ q = ino ∧ dd = d) → z + 1 = pk + cntE (es.take (m + 1)) (s, ino, d)) ∧ (¬ (p = s ∧ q = ino ∧ dd = d) → z = pk + cntE (es.take (m + 1)) (s, ino, d))) := by
      have hz := HZ0.out
      refine ⟨?_, ?_⟩
      ·rintro ⟨rfl, rfl, rfl⟩
       rw [hcn, if_pos rfl]; omega
      ·intro hne
       rw [hcn, if_neg (fun e => hne (by simpa using e))]; omega
     have hzb : z ≤ 4194304 := by have := HZ0.out; have := HLE.out m; omega
     clear hcn hle HZ0
     by_cases h1 : p = s
     case neg =>
      have k1 : (p == s) = false := by simpa using h1
      have HF : Hid _ := HNX.out.2 (fun e => h1 e.1)
      clear HNX
      go_wp2
      go_quiet (fail)
      go_wp2
      go_roundw
      case rel => exact ⟨m + 1, by omega, by go_num, z, rfl, HF.out, below_drewN2 hbel2 _, v0, v1⟩
      case measure => simp [intOf]; omega
     subst h1
     by_cases h2 : q = ino
     case neg =>
      have k1 : (q == ino) = false := by simpa using h2
      have HF : Hid _ := HNX.out.2 (fun e => h2 e.2.1)
      clear HNX
      go_wp2
      go_quiet (fail)
      go_wp2
      go_roundw
      case rel => exact ⟨m + 1, by omega, by go_num, z, rfl, HF.out, below_drewN2 hbel2 _, v0, v1⟩
      case measure => simp [intOf]; omega
     subst h2
     by_cases h3 : dd = d
     case neg =>
      have k1 : (dd == d) = false := by simpa using h3
      have HF : Hid _ := HNX.out.2 (fun e => h3 e.2.2)
      clear HNX
      go_wp2
      go_quiet (fail)
      go_wp2
      go_roundw
      case rel => exact ⟨m + 1, by omega, by go_num, z, rfl, HF.out, below_drewN2 hbel2 _, v0, v1⟩
      case measure => simp [intOf]; omega
     subst h3
     have HF : Hid _ := HNX.out.1 ⟨rfl, rfl, rfl⟩
     clear HNX
     go_wp2
     go_quiet (fail)
     go_wp2
     go_roundw
     case rel => exact ⟨m + 1, by omega, by go_num, z + 1, by go_num, HF.out, below_drewN2 hbel2 _, v0, v1⟩
     case measure => simp [intOf]; omega
    ·have hmm : m = m0 := by omega
     subst hmm
     have HF : Hid (z = P (k + 1)) := by show _ = _; rw [HZ0.out]; exact HFIN.out
     have hb3 := hbel.trans (hbel2.mono hbel.size)
     go_wp2
     go_roundw
     case rel => exact ⟨k + 1, by omega, by go_num, by rw [← HF.out], hb3, v0, v1⟩
     case measure => simp [intOf]; omega
  ·have hkn : k = n := by omega
   subst hkn
   go_wp2
   go_ret
   exact ⟨rfl, hbel⟩
end
section
def SomeRel (w : World) (pb N : Nat) (o i : Value) (wr : World) : Prop :=
 ∃ (k : Nat) (ys : List Int), k ≤ N ∧ i = .i k ∧ ys.length = k ∧ isBytes ys ∧ Owns wr w.heap.size o ys ∧ CurAt wr pb ∧ w.grownBy wr (some pb)
end
section
set_option maxHeartbeats 4000000 in
theorem sameEns_any (x y : Value) (l : List En) (S S2 : Nat → Prop) (w : World) (r : RdV w S x (ensDt l)) (r2 : RdV w S2 y (ensDt l)) (hl : l.length ≤ 1048576) :
  Calls Tryz.prog 58 #[x, y] w fun e w' => e = .returned (.bool true) ∧ Below w.heap.size w w' := by
 obtain ⟨a, cap, rfl, _⟩ := RdV.sliced r
 obtain ⟨a2, cap2, rfl, _⟩ := RdV.sliced r2
 have HR : Hid (∀ W, Below w.heap.size w W → RdV W S (.slice a l.length cap) (.rows 81 4 l.length (fun i j => enCell (l[i]?.getD en0) j))) := RdV.old r
 have HR2 : Hid (∀ W, Below w.heap.size w W → RdV W S2 (.slice a2 l.length cap2) (.rows 81 4 l.length (fun i j => enCell (l[i]?.getD en0) j))) := RdV.old r2
 clear r r2
 obtain ⟨m, hm⟩ : ∃ m, l.length = m := ⟨_, rfl⟩
 rw [hm] at hl HR HR2 ⊢
 have HN : Hid _ := hm
 clear hm
 go_enter Tryz.func58, Tryz.ntmps58
 go_wp2
 go_loopw [5] (fun i wr => ∃ k : Nat, k ≤ m ∧ i = .i k ∧ Below w.heap.size w wr) (fun i _ => m - (intOf i).toNat)
 case atStart => exact ⟨0, Nat.zero_le _, rfl, Below.refl _ _⟩
 case round =>
  obtain ⟨k, hk, rfl, hbel⟩ := hrel
  by_cases hlt : k < m
  ·obtain ⟨b, off, rfl, hbl, _, hx⟩ := RdV.at (HR.out wr hbel) hlt
   obtain ⟨b2, off2, rfl, hbl2, _, hx2⟩ := RdV.at (HR2.out wr hbel) hlt
   obtain ⟨e, he⟩ : ∃ e, l[k]?.getD en0 = e := ⟨_, rfl⟩
   obtain ⟨x0, q0, r0⟩ := hx 0 (by omega)
   obtain ⟨x1, q1, r1⟩ := hx 1 (by omega)
   obtain ⟨x2, q2, r2⟩ := hx 2 (by omega)
   obtain ⟨x3, q3, r3⟩ := hx 3 (by omega)
   obtain ⟨y0, p0, s0⟩ := hx2 0 (by omega)
   obtain ⟨y1, p1, s1⟩ := hx2 1 (by omega)
   obtain ⟨y2, p2, s2⟩ := hx2 2 (by omega)
   obtain ⟨y3, p3, s3⟩ := hx2 3 (by omega)
   rw [he] at r0 r1 r2 r3 s0 s1 s2 s3
   clear hx hx2 he
   obtain ⟨nm, ⟨t0, t1, t2⟩⟩ := e
   simp only [Nat.add_zero] at q0 p0
   obtain rfl : x1 = .i t0 := r1
   obtain rfl : x2 = .i t1 := r2
   obtain rfl : x3 = .bool t2 := r3
   obtain rfl : y1 = .i t0 := s1
   obtain rfl : y2 = .i t1 := s2
   obtain rfl : y3 = .bool t2 := s3
   have RB : RdV wr S x0 (.bytes nm) := r0
   have RB2 : RdV wr S2 y0 (.bytes nm) := s0
   obtain ⟨xa, xc, hxe, _, hrx⟩ := RB.b.reads
   obtain ⟨ya, yc, hye, _, hry⟩ := RB2.b.reads
   subst hxe
   subst hye
   have HSB : Hid (∀ W, Below wr.heap.size wr W → Calls Tryz.prog 100 #[.slice xa nm.length xc, .slice ya nm.length yc] W fun e w' => e = .returned (.bool true) ∧ w' = W) := fun W hW => sameBytes_any xa ya nm _ xc _ yc W (hrx.below hW) (hry.below hW) rfl rfl
   generalize nm.length = xn at *
   haveI : Nonempty (Cls wr) := Cls.ne wr
   have k0 := Cls.cell hbl q0
   have k1 := Cls.cell hbl q1
   have k2 := Cls.cell hbl q2
   have k3 := Cls.cell hbl q3
   have j0 := Cls.cell hbl2 p0
   have j1 := Cls.cell hbl2 p1
   have j2 := Cls.cell hbl2 p2
   have j3 := Cls.cell hbl2 p3
   have hne : ∀ W, (binOp .neq 27 (.agg #[.i t0, .i t1, .bool t2]) (.agg #[.i t0, .i t1, .bool t2])).run Tryz.prog W = .ok (.bool false) W := fun W => by rw [neH_run]; simp
   have hki : (0 : Int) ≤ (k : Int) := by omega
   have hkm : (k : Int) < (m : Int) := by omega
   clear r0 s0 RB RB2 hrx hry q0 q1 q2 q3 p0 p1 p2 p3
   go_wp2
   refine wp_region_cls (by kernel_rfl) (by kernel_rfl) ?_
   repeat (go_big_quiet_step (first | (go_at_call 100; exact Calls.cls_same (HSB.out _ (Cls.h _)))))
   refine wpQuiet_nil ?_
   rintro w' ⟨⟨w', hb'⟩, rfl⟩
   go_wp2
   go_roundw
   case rel => exact ⟨k + 1, by omega, by go_num, hbel.trans (hb'.mono hbel.size)⟩
   case measure => simp [intOf]; omega
  ·have he : k = m := by omega
   subst he
   go_wp2
   go_ret
   exact ⟨rfl, hbel⟩
end
section
def num (n : Int) : Bool := decide (0 ≤ n) && decide (n ≤ 2147483647)
def TOk (t : TxD) : Bool := (decide (0 ≤ t.1) && decide (t.1 < 4)) && (num t.2.1 && num t.2.2)
end
section
def POk (p : PtD) : Bool :=
 if p.kind = 0 then HOk p.h && (decide (p.asn.length = 0) && decide (p.to = hd0))
 else if p.kind = 1 then (HOk p.h && !p.h.dir) && (decide (p.asn.length = 0) && decide (p.to = hd0))
 else if p.kind = 2 then ((decide (0 ≤ p.h.sh) && decide (p.h.sh < 4)) && decide (p.h.ino = 0)) && (decide (p.asn.length = 0) && (HOk p.to && p.to.dir))
 else if p.kind = 3 then (HOk p.h && p.h.dir) && (isNm p.asn && HOk p.to)
 else if p.kind = 4 then (HOk p.h && p.h.dir) && (decide (p.asn.length = 0) && (HOk p.to && p.to.dir))
 else if p.kind = 5 then decide (p.h = hd0) && (decide (p.asn.length = 0) && decide (p.to = hd0))
 else false
end
section
set_option maxHeartbeats 4000000 in
theorem implCopyEn_any (v : Value) (l : List En) (S : Nat → Prop) (w : World) (r : RdV w S v (ensDt l)) (hl : szEns l ≤ 2097152) (hn : l.length ≤ 4000) :
    Calls Tryz.prog 83 #[v] w fun e w' => ∃ a n c, e = .returned (.slice a n c) ∧ OwV w' (fun b => w.heap.size ≤ b ∧ b < w'.heap.size) (.slice a n c) (ensDt l) ∧ Below w.heap.size w w' := by
  obtain ⟨a, cap, rfl, _⟩ := RdV.sliced r
  have HR : Hid (∀ W, Below w.heap.size w W → RdV W S (.slice a l.length cap) (ensDt l)) := fun W hW => r.step hW
  have HLN : Hid (∀ k, k < l.length → (l[k]?.getD en0).nm.length ≤ 2097152) := fun k hk => Nat.le_trans (szEns_at l k) hl
  clear r hl
  go_enter Tryz.func83, Tryz.ntmps83
  go_wp2
  go_loopw [3, 8] (fun o i wr => ∃ (k : Nat) (ga : Option Addr) (gn gc : Nat), k ≤ l.length ∧ i = .i k ∧ o = .slice ga gn gc ∧ Hid (OwV wr (fun b => w.heap.size ≤ b ∧ b < wr.heap.size) (.slice ga gn gc) (ensDt (l.take k))) ∧ Hid (Below w.heap.size w wr)) (fun _ i _ => l.length - (intOf i).toNat)
  case atStart => exact ⟨0, none, 0, 0, Nat.zero_le _, rfl, rfl, OwV.nilR _ _ _ _ _, Below.refl _ _⟩
  case round =>
    obtain ⟨k, ga, gn, gc, hk, rfl, rfl, HO, HB⟩ := hrel
    by_cases hlt : k < l.length
    · obtain ⟨b, off, rfl, hbl, hSb, hc⟩ := (HR.out w (Below.refl _ _)).at hlt
      obtain ⟨x0, q0, r0⟩ := hc 0 (by omega)
      obtain ⟨x1, q1, r1⟩ := hc 1 (by omega)
      obtain ⟨x2, q2, r2⟩ := hc 2 (by omega)
      obtain ⟨x3, q3, r3⟩ := hc 3 (by omega)
      have htk : l.take (k + 1) = l.take k ++ [l[k]?.getD en0] := by rw [List.take_succ_eq_append_getElem hlt]; simp [hlt]
      have hnm := HLN.out k hlt
      generalize l[k]?.getD en0 = e at r0 r1 r2 r3 htk hnm
      obtain ⟨nm, ⟨sh, ino, dr⟩⟩ := e
      obtain rfl : x1 = .i sh := r1
      obtain rfl : x2 = .i ino := r2
      obtain rfl : x3 = .bool dr := r3
      have r0' : RdV w S x0 (.bytes nm) := r0
      obtain ⟨a0, c0, rfl⟩ := r0'.sliceB
      have p0 := (HB.out.cell (p := ⟨b, off + k * 4 + 0, none⟩) hbl).trans q0
      have p1 := (HB.out.cell (p := ⟨b, off + k * 4 + 1, none⟩) hbl).trans q1
      have p2 := (HB.out.cell (p := ⟨b, off + k * 4 + 2, none⟩) hbl).trans q2
      have p3 := (HB.out.cell (p := ⟨b, off + k * 4 + 3, none⟩) hbl).trans q3
      rw [Nat.add_zero] at p0
      have HRB : Hid (∀ W, Below w.heap.size w W → Reads W a0 nm ∧ Headed a0 nm.length c0) := fun W hW => by
        obtain ⟨a', cap', he, hh, hr⟩ := (r0'.step hW).b.reads
        simp only [Value.slice.injEq, true_and] at he
        obtain ⟨rfl, rfl⟩ := he
        exact ⟨hr, hh⟩
      have HZ : Hid (isBytes nm) := r0'.b.1
      have hix : (k : Int) < (l.length : Int) := by omega
      have HTK : Hid _ := htk
      have hsw := HB.out.size
      clear r0 r0' hc htk q0 q1 q2 q3
      go_wp2
      obtain ⟨w4, hw4⟩ : ∃ W, W = wr.alloc (.cells #[.slice a0 nm.length c0, .i sh, .i ino, .bool dr] 81) := ⟨_, rfl⟩
      have b4 : Below wr.heap.size wr w4 := by rw [hw4]; exact Below.newH _
      have V4 : VarA w4 wr.heap.size 81 #[.slice a0 nm.length c0, .i sh, .i ino, .bool dr] := by rw [hw4]; exact VarA.new _ _ _
      rw [← hw4]
      clear hw4 p0 p1 p2 p3
      have HS : Hid (∀ W, Below w4.heap.size w4 W → W.cell? ⟨wr.heap.size, 0, none⟩ = some (.slice a0 nm.length c0) ∧ W.cell? ⟨wr.heap.size, 1, none⟩ = some (.i sh) ∧ W.cell? ⟨wr.heap.size, 2, none⟩ = some (.i ino) ∧ W.cell? ⟨wr.heap.size, 3, none⟩ = some (.bool dr)) := fun W hW => by
        have V := V4.step hW
        exact ⟨V.c 0 rfl, V.c 1 rfl, V.c 2 rfl, V.c 3 rfl⟩
      refine wp_region_noPanic ?_
      refine wp_region_held_drew (S := fun w' => w'.cell? ⟨wr.heap.size, 0, none⟩ = some (.slice a0 nm.length c0) ∧ w'.cell? ⟨wr.heap.size, 1, none⟩ = some (.i sh) ∧ w'.cell? ⟨wr.heap.size, 2, none⟩ = some (.i ino) ∧ w'.cell? ⟨wr.heap.size, 3, none⟩ = some (.bool dr)) (by kernel_rfl) (HS.out _ (Below.drew (Below.refl w4.heap.size w4))) (fun hHeld => ?_)
      apply tkh 0 _ rfl (by kernel_rfl) rfl (by assumption)
      · (intro _ h; (try dsimp only at h); go_simp; try with_reducible rfl)
      try simp only [qz]
      apply tkh 1 _ rfl (by kernel_rfl) rfl (by assumption)
      · (intro _ h; (try dsimp only at h); go_simp; try with_reducible rfl)
      try simp only [qz]
      apply tkh 2 _ rfl (by kernel_rfl) rfl (by assumption)
      · (intro _ h; (try dsimp only at h); go_simp; try with_reducible rfl)
      try simp only [qz]
      apply tkh 4 _ rfl (by kernel_rfl) rfl (by assumption)
      · (intro _ h; (try dsimp only at h); go_simp; try with_reducible rfl)
      try simp only [qz]
      apply tkh 5 _ rfl (by kernel_rfl) rfl (by assumption)
      · (intro _ h; (try dsimp only at h); go_simp; try with_reducible rfl)
      try simp only [qz]
      refine doH 3 (by kernel_rfl) rfl fun K hK => ?_
      go_simp
      refine Calls.mono (joined_any none a0 [] nm 0 c0 w4.drew (reads_none _ _) (HRB.out _ (HB.out.trans ((b4.trans (Below.mono (Below.drew (Below.refl w4.heap.size w4)) b4.size)).mono HB.out.size))).1 (by simp) hnm) ?_
      rintro e6 w6 ⟨rfl, ho6, bb6, z6⟩
      rw [List.nil_append] at ho6
      dsimp only
      simp only [List.nil_append]
      have b46 : Below w4.heap.size w4 w6 := Below.trans (Below.drew (Below.refl w4.heap.size w4)) bb6
      have b6 : Below wr.heap.size wr w6 := b4.trans (b46.mono b4.size)
      have s6 := b46.size
      refine hK.out _ _ (HS.out _ b46) (fun hHeld => ?_)
      clear hK K
      try simp only [qz]
      apply tkh 6 _ rfl (by kernel_rfl) rfl (by assumption)
      · (intro _ h; (try dsimp only at h); go_simp; try with_reducible rfl)
      try simp only [qz]
      refine doH 7 (by kernel_rfl) rfl fun K hK => ?_
      go_simp
      have b47 : Below w4.heap.size w4 (w6.alloc (.cells #[.slice (some ⟨w4.heap.size, 0, none⟩) nm.length nm.length, .i sh, .i ino, .bool dr] 81)) := Below.alloc b46 b46.size _
      have b7 : Below wr.heap.size wr (w6.alloc (.cells #[.slice (some ⟨w4.heap.size, 0, none⟩) nm.length nm.length, .i sh, .i ino, .bool dr] 81)) := b4.trans (b47.mono b4.size)
      refine hK.out _ _ (HS.out _ b47) (fun hHeld => ?_)
      clear hK K
      try simp only [qz]
      refine doH 8 (by kernel_rfl) rfl fun K hK => ?_
      refine step_appEn (w6.alloc (.cells #[.slice (some ⟨w4.heap.size, 0, none⟩) nm.length nm.length, .i sh, .i ino, .bool dr] 81)) rfl (.tmp 12) (.tmp 19) (by rfl) _ (by rfl) (l.take k) ⟨nm, (sh, ino, dr)⟩ (.slice (some ⟨w4.heap.size, 0, none⟩) nm.length nm.length) w.heap.size wr.heap.size w6.heap.size w6.heap.size (by rfl) rfl (0, 0) (heap_alloc_new _ _) (OwV.step HO.out b7) (OwV.step (OwV.mono (fun q hq => ⟨by have := b4.size; have := hq.1; simp at this; omega, hq.2⟩) (OwV.ofOwns HZ.out ho6)) (Below.newH _)) (by simp) (by have := b6.size; omega) (by omega) (by rw [List.length_take]; omega) ?_
      intro g8 n8 c8 w8 ho8 t8
      have s8 := t8.size
      rw [World.size_alloc] at s8
      have HB8 : Below w.heap.size w w8 := Turned.below (HB.out.trans (b7.mono HB.out.size)) t8 (by have := HB.out.size; have := b6.size; simp; omega) (fun i hi => hi.1)
      have V8 := (V4.step b47).turn t8 (fun e => by have e2 : wr.heap.size < wr.heap.size := e.2; omega)
      refine hK.out _ _ ⟨V8.c 0 rfl, V8.c 1 rfl, V8.c 2 rfl, V8.c 3 rfl⟩ (fun hHeld => ?_)
      clear hK K
      try simp only [qz]
      apply tkh 9 _ rfl (by kernel_rfl) rfl (by assumption)
      · (intro _ h; (try dsimp only at h); go_simp; try with_reducible rfl)
      try simp only [qz]
      refine wpAnyH_done (by kernel_rfl) (NoPanic.normal ?_) _
      clear hHeld
      rw [← HTK.out] at ho8
      have HO8 : Hid (OwV w8 (fun b => w.heap.size ≤ b ∧ b < w8.heap.size) (.slice g8 n8 c8) (ensDt (l.take (k + 1)))) := ho8
      have HB9 : Hid (Below w.heap.size w w8) := HB8
      clear ho8 HB8 t8 b4 b6 b7 ho6 bb6 V4
      go_wp2
      first
      | exact ⟨⟨k + 1, g8, n8, c8, by omega, by go_num, rfl, HO8, HB9⟩, by simp [intOf]; omega⟩
      | (go_roundw
         case rel => exact ⟨k + 1, g8, n8, c8, by omega, by go_num, rfl, HO8, HB9⟩
         case measure => simp [intOf]; omega)
    · have he : k = l.length := by omega
      subst he
      rw [List.take_length] at HO
      go_wp2
      go_ret
      exact ⟨_, _, _, rfl, HO.out, HB.out⟩
end
section
theorem OwV.snocNd {w w' : World} {lo hi hi2 g cap : Nat} {v u : Value} {l : List Nd} {e : Nd} (hown : OwV w (fun b => lo ≤ b ∧ b < hi) v (ndsDt l)) (hu : OwV w (fun b => hi ≤ b ∧ b < hi2) u (ensDt e.es)) (h2 : hi2 ≤ w.heap.size) (hh2 : hi ≤ hi2) (hlh : lo ≤ hi)
    (C : List Value) (hC : w.ownsRow 0 75 9 v l.length C) (V : Nat → Nat → Value) (Q : Nat → Nat → Nat → Prop) (hS : ∀ b, v.ownBlock = some b → lo ≤ b ∧ b < hi) (hV : ∀ i j, i < l.length → j < 9 → C[i * 9 + j]? = some (V i j)) (hQ : ∀ i j, i < l.length → j < 9 → OwV w (Q i j) (V i j) (ndCell (l[i]?.getD nd0) j))
    (hq1 : ∀ i j b, i < l.length → j < 9 → Q i j b → (lo ≤ b ∧ b < hi) ∧ v.ownBlock ≠ some b) (hq2 : ∀ i j i' j' b, i < l.length → j < 9 → i' < l.length → j' < 9 → Q i j b → Q i' j' b → i = i' ∧ j = j')
    (ho : w'.ownsRow 0 75 9 (.slice (some ⟨g, 0, none⟩) (l.length + 1) cap) (l.length + 1) (C ++ [.i e.h.sh, .i e.h.ino, .bool e.h.dir, .i e.par.sh, .i e.par.ino, .bool e.par.dir, .i e.links, .i e.val, u])) (hg : w.grownBy w' v.ownBlock) (hgg : v.ownBlock = some g ∨ g = w.heap.size) (hgl : g < w'.heap.size) :
    OwV w' (fun b => lo ≤ b ∧ b < w'.heap.size) (.slice (some ⟨g, 0, none⟩) (l.length + 1) cap) (ndsDt (l ++ [e])) := by
  have hsz := hg.size
  have hCl : C.length = l.length * 9 := hC.1
  have hkeep : ∀ (R : Nat → Prop), (∀ b, R b → v.ownBlock ≠ some b) → Keeps R w w' := fun R hR => ⟨hsz, fun b hb hlt => hg.block b hlt (fun h => hR b hb h.symm)⟩
  have hln : (l ++ [e]).length = l.length + 1 := by simp
  unfold ndsDt
  rw [hln]
  refine OwV.mkRows ⟨fun i j => if i < l.length then V i j else ndVal e u j, _, fun i j => if i < l.length then Q i j else if j = 8 then (fun b => hi ≤ b ∧ b < hi2) else (fun _ => False), ho, ?_, ?_, ?_, ?_, ?_⟩
  · intro b hb
    obtain rfl : g = b := by simpa [Value.ownBlock] using hb
    rcases hgg with h | h
    · exact ⟨(hS _ h).1, hgl⟩
    · exact ⟨by omega, hgl⟩
  · intro i j hi' hj
    by_cases hlt : i < l.length
    · simp only [hlt, if_true]
      rw [List.getElem?_append_left (by rw [hCl]; exact place_lt hlt hj)]
      exact hV i j hlt hj
    · obtain rfl : i = l.length := by omega
      simp only [Nat.lt_irrefl, if_false]
      rw [List.getElem?_append_right (by omega), hCl, show l.length * 9 + j - l.length * 9 = j by omega]
      match j, hj with
      | 0, _ => rfl
      | 1, _ => rfl
      | 2, _ => rfl
      | 3, _ => rfl
      | 4, _ => rfl
      | 5, _ => rfl
      | 6, _ => rfl
      | 7, _ => rfl
      | 8, _ => rfl
  · intro i j hi' hj
    by_cases hlt : i < l.length
    · simp only [hlt, if_true]
      rw [show (l ++ [e])[i]?.getD nd0 = l[i]?.getD nd0 by rw [List.getElem?_append_left hlt]]
      exact OwV.keep (hkeep _ (fun b hb => (hq1 i j b hlt hj hb).2)) (hQ i j hlt hj)
    · obtain rfl : i = l.length := by omega
      simp only [Nat.lt_irrefl, if_false]
      rw [show (l ++ [e])[l.length]?.getD nd0 = e by simp]
      match j, hj with
      | 0, _ => rfl
      | 1, _ => rfl
      | 2, _ => rfl
      | 3, _ => rfl
      | 4, _ => rfl
      | 5, _ => rfl
      | 6, _ => rfl
      | 7, _ => rfl
      | 8, _ => exact OwV.keep (hkeep (fun b => hi ≤ b ∧ b < hi2) (fun b hb h => by have := hS b h; omega)) hu
  · intro i j b hi' hj hb
    by_cases hlt : i < l.length
    · simp only [hlt, if_true] at hb
      have h1 := hq1 i j b hlt hj hb
      refine ⟨⟨h1.1.1, by omega⟩, ?_⟩
      intro h
      obtain rfl : g = b := by simpa [Value.ownBlock] using h
      rcases hgg with h3 | h3
      · exact h1.2 h3
      · omega
    · simp only [hlt, if_false] at hb
      by_cases hj0 : j = 8
      · simp only [hj0, if_true] at hb
        refine ⟨⟨by omega, by omega⟩, ?_⟩
        intro h
        obtain rfl : g = b := by simpa [Value.ownBlock] using h
        rcases hgg with h3 | h3
        · have := hS _ h3; omega
        · omega
      · simp only [hj0, if_false] at hb
  · intro i j i' j' b hi' hj hi2' hj' hb hb'
    by_cases hlt : i < l.length <;> by_cases hlt' : i' < l.length
    · simp only [hlt, hlt', if_true] at hb hb'
      exact hq2 i j i' j' b hlt hj hlt' hj' hb hb'
    · simp only [hlt, hlt', if_true, if_false] at hb hb'
      have h1 := hq1 i j b hlt hj hb
      by_cases hj0 : j' = 8
      · simp only [hj0, if_true] at hb'; omega
      · simp only [hj0, if_false] at hb'
    · simp only [hlt, hlt', if_true, if_false] at hb hb'
      have h1 := hq1 i' j' b hlt' hj' hb'
      by_cases hj0 : j = 8
      · simp only [hj0, if_true] at hb; omega
      · simp only [hj0, if_false] at hb
    · simp only [hlt, hlt', if_false] at hb hb'
      by_cases hj0 : j = 8 <;> by_cases hj0' : j' = 8
      · exact ⟨by omega, by omega⟩
      · simp only [hj0', if_false] at hb'
      · simp only [hj0, if_false] at hb
      · simp only [hj0, if_false] at hb
theorem wpList_appNdO {ops : Array Oper} {rest : List Oper} {o : Oper} {a : Act} {Q : Exit → Act → World → Prop} (w : World) (hgd : o.guard = none) (s x : Operand)
    (ho : o.op = .call { callee := .builtin .append, args := #[s, x], argTypes := #[23, 23] })
    (v : Value) (hs : a.eval s = v) (l : List Nd) (e : Nd) (u : Value) (lo hi hi2 q : Nat) (hx : a.eval x = .slice (some ⟨q, 0, none⟩) 1 1) (hone : u.oneCell' = true) (fr : Nat × Nat) (hq : w.heap[q]? = some (.cells #[.i e.h.sh, .i e.h.ino, .bool e.h.dir, .i e.par.sh, .i e.par.ino, .bool e.par.dir, .i e.links, .i e.val, u] 75 fr))
    (hown : OwV w (fun b => lo ≤ b ∧ b < hi) v (ndsDt l)) (hu : OwV w (fun b => hi ≤ b ∧ b < hi2) u (ensDt e.es)) (h2 : hi2 ≤ w.heap.size) (hh2 : hi ≤ hi2) (hlh : lo ≤ hi) (hl : l.length ≤ 4000)
    (h : ∀ g n cap w', OwV w' (fun b => lo ≤ b ∧ b < w'.heap.size) (.slice g n cap) (ndsDt (l ++ [e])) → Turned (fun b => lo ≤ b ∧ b < hi) w w' → wpList Tryz.prog ops Q rest (a.put o.dst (.slice g n cap)) w') : wpList Tryz.prog ops Q (o :: rest) a w := by
  obtain ⟨i0, hi0, hz0, hz1, hz2⟩ := info_parts Tryz.infoNd
  have hown' := hown
  unfold ndsDt at hown'
  obtain ⟨V, C, Qs, h1, hS, h3, h4, h5, h6⟩ := OwV.inv hown'
  refine wpList_append_lies w hgd s x 23 ho 0 75 i0 (.agg #[.i 0, .i 0, .bool false, .i 0, .i 0, .bool false, .i 0, .i 0, .n0]) 9 88 Tryz.underlying23 hi0 hz0 hz1 hz2 rfl (by decide) v l.length C hs h1 ⟨q, 0, none⟩ 1 1 [.i e.h.sh, .i e.h.ino, .bool e.h.dir, .i e.par.sh, .i e.par.ino, .bool e.par.dir, .i e.links, .i e.val, u] hx rfl (World.news_of_block hq) (fun y hy => ?_) (by decide) (by unfold maxLen; omega) (by omega) (Nat.zero_le _) w.heap.size rfl ?_
  · simp only [List.mem_cons, List.not_mem_nil, or_false] at hy
    rcases hy with rfl | rfl | rfl | rfl | rfl | rfl | rfl | rfl | rfl
    · rfl
    · rfl
    · rfl
    · rfl
    · rfl
    · rfl
    · rfl
    · rfl
    · exact hone
  intro g cap w' ho' hg hgg hgl
  exact h _ _ _ w' (OwV.snocNd hown hu h2 hh2 hlh C h1 V Qs hS h3 h4 h5 h6 ho' hg hgg hgl) (Turned.ofGrown hg (fun k hk => hS k hk))
set_option maxHeartbeats 4000000 in
theorem implCopyNd_any (v : Value) (l : List Nd) (S : Nat → Prop) (w : World) (r : RdV w S v (ndsDt l)) (hl : szNds l ≤ 2097152) (hn : l.length ≤ 4000) (hes : ∀ i : Nat, (l[i]?.getD nd0).es.length ≤ 4000) :
    Calls Tryz.prog 36 #[v] w fun e w' => ∃ a n c, e = .returned (.slice a n c) ∧ OwV w' (fun b => w.heap.size ≤ b ∧ b < w'.heap.size) (.slice a n c) (ndsDt l) ∧ Below w.heap.size w w' := by
  obtain ⟨a, cap, rfl, _⟩ := RdV.sliced r
  have HR : Hid (∀ W, Below w.heap.size w W → RdV W S (.slice a l.length cap) (ndsDt l)) := fun W hW => r.step hW
  clear r
  go_enter Tryz.func36, Tryz.ntmps36
  go_wp2
  go_loopw [3, 8] (fun o i wr => ∃ (k : Nat) (ga : Option Addr) (gn gc : Nat), k ≤ l.length ∧ i = .i k ∧ o = .slice ga gn gc ∧ Hid (OwV wr (fun b => w.heap.size ≤ b ∧ b < wr.heap.size) (.slice ga gn gc) (ndsDt (l.take k))) ∧ Hid (Below w.heap.size w wr)) (fun _ i _ => l.length - (intOf i).toNat)
  case atStart => exact ⟨0, none, 0, 0, Nat.zero_le _, rfl, rfl, OwV.nilR _ _ _ _ _, Below.refl _ _⟩
  case round =>
    obtain ⟨k, ga, gn, gc, hk, rfl, rfl, HO, HB⟩ := hrel
    by_cases hlt : k < l.length
    · obtain ⟨b, off, rfl, hbl, hSb, hc⟩ := (HR.out w (Below.refl _ _)).at hlt
      have htk : l.take (k + 1) = l.take k ++ [l[k]?.getD nd0] := by rw [List.take_succ_eq_append_getElem hlt]; simp [hlt]
      have hel := hes k
      have hzn : szEns (l[k]?.getD nd0).es ≤ 2097152 := Nat.le_trans (szNds_at l k) hl
      obtain ⟨x0, cq0, r0⟩ := hc 0 (by omega)
      obtain ⟨x1, cq1, r1⟩ := hc 1 (by omega)
      obtain ⟨x2, cq2, r2⟩ := hc 2 (by omega)
      obtain ⟨x3, cq3, r3⟩ := hc 3 (by omega)
      obtain ⟨x4, cq4, r4⟩ := hc 4 (by omega)
      obtain ⟨x5, cq5, r5⟩ := hc 5 (by omega)
      obtain ⟨x6, cq6, r6⟩ := hc 6 (by omega)
      obtain ⟨x7, cq7, r7⟩ := hc 7 (by omega)
      obtain ⟨x8, cq8, r8⟩ := hc 8 (by omega)
      generalize l[k]?.getD nd0 = nd at r0 r1 r2 r3 r4 r5 r6 r7 r8 htk hel hzn
      obtain ⟨⟨p, q, d⟩, ⟨p2, q2, d2⟩, lk, vl, es⟩ := nd
      dsimp only at hel hzn
      obtain rfl : x0 = .i p := r0
      obtain rfl : x1 = .i q := r1
      obtain rfl : x2 = .bool d := r2
      obtain rfl : x3 = .i p2 := r3
      obtain rfl : x4 = .i q2 := r4
      obtain rfl : x5 = .bool d2 := r5
      obtain rfl : x6 = .i lk := r6
      obtain rfl : x7 = .i vl := r7
      have r8' : RdV w S x8 (ensDt es) := r8
      obtain ⟨xa, xc, rfl, _⟩ := RdV.sliced r8'
      have HCE : Hid (∀ W, Below w.heap.size w W → _) := fun W hW => implCopyEn_any _ es S W (r8'.step hW) hzn hel
      have p0_ := (HB.out.cell (p := ⟨b, off + k * 9 + 0, none⟩) hbl).trans cq0
      have p1_ := (HB.out.cell (p := ⟨b, off + k * 9 + 1, none⟩) hbl).trans cq1
      have p2_ := (HB.out.cell (p := ⟨b, off + k * 9 + 2, none⟩) hbl).trans cq2
      have p3_ := (HB.out.cell (p := ⟨b, off + k * 9 + 3, none⟩) hbl).trans cq3
      have p4_ := (HB.out.cell (p := ⟨b, off + k * 9 + 4, none⟩) hbl).trans cq4
      have p5_ := (HB.out.cell (p := ⟨b, off + k * 9 + 5, none⟩) hbl).trans cq5
      have p6_ := (HB.out.cell (p := ⟨b, off + k * 9 + 6, none⟩) hbl).trans cq6
      have p7_ := (HB.out.cell (p := ⟨b, off + k * 9 + 7, none⟩) hbl).trans cq7
      have p8_ := (HB.out.cell (p := ⟨b, off + k * 9 + 8, none⟩) hbl).trans cq8
      rw [Nat.add_zero] at p0_
      have HTK : Hid _ := htk
      have hix : (k : Int) < (l.length : Int) := by omega
      have hsw := HB.out.size
      clear r8 r8' hc htk
      generalize es.length = xn at *
      go_wp2_with fail
      obtain ⟨w4, hw4⟩ : ∃ W, W = wr.alloc (.cells #[.i p, .i q, .bool d, .i p2, .i q2, .bool d2, .i lk, .i vl, .slice xa xn xc] 75) := ⟨_, rfl⟩
      have b4 : Below wr.heap.size wr w4 := by rw [hw4]; exact Below.newH _
      have V4 : VarA w4 wr.heap.size 75 #[.i p, .i q, .bool d, .i p2, .i q2, .bool d2, .i lk, .i vl, .slice xa xn xc] := by rw [hw4]; exact VarA.new _ _ _
      rw [← hw4]
      have z4 : w4.heap.size = wr.heap.size + 1 := by rw [hw4]; simp
      clear hw4
      refine Calls.mono (HCE.out _ (HB.out.trans (b4.mono HB.out.size))) ?_
      rintro e5 w5 ⟨ea, en, ec, rfl, oe, b5⟩
      have V5 := V4.step b5
      have z5 := b5.size
      have HV5 : Hid (VarA w5 wr.heap.size 75 #[.i p, .i q, .bool d, .i p2, .i q2, .bool d2, .i lk, .i vl, .slice xa xn xc]) := V5
      have HE5 : Hid (OwV w5 (fun b => w4.heap.size ≤ b ∧ b < w5.heap.size) (.slice ea en ec) (ensDt es)) := oe
      have HB5 : Hid (Below wr.heap.size wr w5) := b4.trans (b5.mono b4.size)
      clear V4 V5 oe b5 b4 p0_ p1_ p2_ p3_ p4_ p5_ p6_ p7_ p8_ HCE
      go_wp2_with (first | ((with_reducible refine gS 32 ?_); refine wpList_storeG HV5.out rfl rfl rfl (by kernel_rfl) rfl (of_decide_eq_true rfl) rfl ?_; intro w6 v6 t6; have HV6 : Hid (VarA w6 wr.heap.size 75 #[.i p, .i q, .bool d, .i p2, .i q2, .bool d2, .i lk, .i vl, .slice ea en ec]) := v6; have HU6 : Hid (OwV w6 (fun b => wr.heap.size ≤ b ∧ b < w6.heap.size) (.slice ea en ec) (ensDt es)) := OwV.mono (fun x hx => ⟨by omega, Nat.lt_of_lt_of_le hx.2 t6.size⟩) (OwV.keep (t6.keeps (fun x hx e => by omega)) HE5.out); have HO6 : Hid (OwV w6 (fun b => w.heap.size ≤ b ∧ b < wr.heap.size) (.slice ga gn gc) (ndsDt (l.take k))) := OwV.keep (t6.keeps (fun x hx e => by omega)) (OwV.step HO.out HB5.out); obtain ⟨o0, o1, o2, o3, o4, o5, o6, o7, o8⟩ := v6.l9) | (at_builtin; go_must (refine wpList_appNdO (w6.alloc (.cells #[.i p, .i q, .bool d, .i p2, .i q2, .bool d2, .i lk, .i vl, .slice ea en ec] 75)) rfl (.tmp 16) (.tmp 18) rfl _ rfl (l.take k) ⟨(p, q, d), (p2, q2, d2), lk, vl, es⟩ (.slice ea en ec) w.heap.size wr.heap.size w6.heap.size w6.heap.size rfl rfl (0, 0) (heap_alloc_new _ _) (OwV.step HO6.out (Below.newH _)) (OwV.step HU6.out (Below.newH _)) (by simp) (by have := t6.size; omega) hsw (by rw [List.length_take]; omega) ?_; intro g8 n8 c8 w8 ho8 t8)))
      rw [← HTK.out] at ho8
      have HO8 : Hid (OwV w8 (fun b => w.heap.size ≤ b ∧ b < w8.heap.size) (.slice g8 n8 c8) (ndsDt (l.take (k + 1)))) := ho8
      have HB9 : Hid (Below w.heap.size w w8) := by
        have z6 := t6.size
        have z8 := t8.size
        have hb6 : Below w.heap.size w w6 := Turned.below (HB.out.trans (HB5.out.mono HB.out.size)) t6 (by have := HB5.out.size; omega) (fun i hi => by omega)
        exact Turned.below (hb6.alloc hb6.size _) t8 (by have := hb6.size; simp; omega) (fun i hi => hi.1)
      clear ho8 t8 t6 HO HO6 HU6 HE5 HB5 HV5 HV6 o0 o1 o2 o3 o4 o5 o6 o7 o8
      go_wp2
      first
      | exact ⟨⟨k + 1, g8, n8, c8, by omega, by go_num, rfl, HO8, HB9⟩, by simp [intOf]; omega⟩
      | (go_roundw
         case rel => exact ⟨k + 1, g8, n8, c8, by omega, by go_num, rfl, HO8, HB9⟩
         case measure => simp [intOf]; omega)
    · have he : k = l.length := by omega
      subst he
      rw [List.take_length] at HO
      go_wp2
      go_ret
      exact ⟨_, _, _, rfl, HO.out, HB.out⟩
end
section
def cmpI (a b : Int) : Int := if a < b then -1 else if b < a then 1 else 0
theorem isNaN_any (a : Int) (w : World) : Calls Tryz.prog 146 #[.i a] w fun e w' => e = .returned (.bool false) ∧ w' = w := by
 go_enter Tryz.func146, Tryz.ntmps146
 go_wp2
 go_ret
 exact ⟨by simp, rfl⟩
theorem compare_any (a b : Int) (w : World) : Calls Tryz.prog 123 #[.i a, .i b] w fun e w' => e = .returned (.i (cmpI a b)) ∧ w' = w := by
 have H1 : Hid (∀ W, _) := fun W => isNaN_any a W
 have H2 : Hid (∀ W, _) := fun W => isNaN_any b W
 go_enter Tryz.func123, Tryz.ntmps123
 go_wp2_with fail
 refine Calls.mono (H1.out _) ?_
 rintro e w2 ⟨rfl, rfl⟩
 go_wp2_with fail
 refine Calls.mono (H2.out _) ?_
 rintro e w2 ⟨rfl, rfl⟩
 go_wp2
 all_goals (go_ret; exact ⟨by unfold cmpI; first | (rw [if_pos (by omega)]; rfl) | (rw [if_neg (by omega), if_pos (by omega)]; rfl) | (rw [if_neg (by omega), if_neg (by omega)]; rfl), rfl⟩)
def orI (x y : Int) : Int := if x = 0 then y else x
theorem or_any (B : Nat) (x y : Int) (w : World) (h0 : w.cell? ⟨B, 0, none⟩ = some (.i x)) (h1 : w.cell? ⟨B, 1, none⟩ = some (.i y)) :
  Calls Tryz.prog 122 #[.slice (some ⟨B, 0, none⟩) 2 2] w fun e w' => e = .returned (.i (orI x y)) ∧ w' = w := by
 unfold orI
 by_cases hx : x = 0
 ·subst hx
  by_cases hy : y = 0
  ·subst hy
   go_enter Tryz.func122, Tryz.ntmps122
   go_wp2
   refine wp_loop_rounds 3 ?_
   rw [rounds_succ]
   go_wp2
   rw [rounds_succ]
   go_wp2
   rw [rounds_succ]
   go_wp2
   go_ret
   exact ⟨rfl, rfl⟩
  ·have hd : (y != 0) = true := by simpa using hy
   go_enter Tryz.func122, Tryz.ntmps122
   go_wp2
   refine wp_loop_rounds 2 ?_
   rw [rounds_succ]
   go_wp2
   rw [rounds_succ]
   go_wp2
   go_ret
   exact ⟨rfl, rfl⟩
 ·have hd : (x != 0) = true := by simpa using hx
  rw [if_neg hx]
  go_enter Tryz.func122, Tryz.ntmps122
  go_wp2
  refine wp_loop_rounds 1 ?_
  rw [rounds_succ]
  go_wp2
  go_ret
  exact ⟨rfl, rfl⟩
def byP (a b : Hd) : Int := if cmpI a.sh b.sh = 0 then cmpI a.ino b.ino else cmpI a.sh b.sh
theorem byP_less (a b : Hd) : decide (byP a b ≥ 0) = !lessH a b := by
 obtain ⟨s, i, d⟩ := a
 obtain ⟨s2, i2, d2⟩ := b
 simp only [byP, cmpI, lessH, Hd.sh, Hd.ino]
 by_cases h1 : s < s2
 ·simp [h1]
 ·by_cases h2 : s2 < s
  ·have h3 : s ≠ s2 := by omega
   simp [h1, h2, h3]
  ·have h3 : s = s2 := by omega
   subst h3
   by_cases h4 : i < i2
   ·simp [h4]
   ·by_cases h5 : i2 < i
    ·simp [h4, h5]
    ·simp [h4, h5]

set_option maxHeartbeats 400000 in
theorem byPlace_any (a b : Hd) (w : World) : Calls Tryz.prog 96 #[a.v, b.v] w fun e w' => e = .returned (.i (byP a b)) ∧ Below w.heap.size w w' := by
 obtain ⟨s, i, d⟩ := a
 obtain ⟨s2, i2, d2⟩ := b
 have HB : Hid (byP (s, i, d) (s2, i2, d2) = orI (cmpI s s2) (cmpI i i2)) := rfl
 rw [HB.out]
 clear HB
 go_enter Tryz.func96, Tryz.ntmps96
 go_wp2
 go_region_held3 (fun w' => w'.cell? ⟨w.heap.size, 0, none⟩ = some (.i s) ∧ w'.cell? ⟨w.heap.size, 1, none⟩ = some (.i i) ∧ w'.cell? ⟨w.heap.size + 1, 0, none⟩ = some (.i s2) ∧ w'.cell? ⟨w.heap.size + 1, 1, none⟩ = some (.i i2)) (first | go_keep) (first
  | (go_at_call 123; refine Calls.mono (compare_any _ _ _) ?_; rintro e w' ⟨rfl, rfl⟩)
  | (go_at_call 122; refine Calls.mono (or_any _ (cmpI s s2) (cmpI i i2) _ (by simp [go_sem]) (by simp [go_sem])) ?_; rintro e w' ⟨rfl, rfl⟩))
 all_goals go_wp2
 all_goals go_ret
 all_goals exact ⟨rfl, ((Below.newH2 (w := w) _ _).alloc (by simp; omega) _).drew⟩

def ascAt (l : List Nd) (i : Nat) : Bool := decide (i = 0) || lessH (l[i - 1]?.getD nd0).h (l[i]?.getD nd0).h
theorem range_all_nextT (f : Nat → Bool) (k : Nat) (h : (List.range k).all f = true) (hk : f k = true) : (List.range (k + 1)).all f = true := by rw [List.range_succ, List.all_append, h]; simp [hk]
theorem range_all_falseT (f : Nat → Bool) (n k : Nat) (hk : k < n) (h : f k = false) : (List.range n).all f = false := by
 rw [List.all_eq_false]
 exact ⟨k, by simpa using hk, by simp [h]⟩
def ascL (l : List Nd) : Bool := (List.range l.length).all (ascAt l)

set_option maxRecDepth 100000 in
set_option maxHeartbeats 2000000 in
theorem ascending_any (x : Value) (l : List Nd) (S : Nat → Prop) (w : World) (r : RdV w S x (ndsDt l)) (hl : l.length ≤ 2097152) :
  Calls Tryz.prog 48 #[x] w fun e w' => e = .returned (.bool (ascL l)) ∧ Below w.heap.size w w' := by
 obtain ⟨a, cap, rfl, _⟩ := RdV.sliced r
 have HR : Hid (∀ W, Below w.heap.size w W → RdV W S (.slice a l.length cap) (.rows 75 9 l.length (fun i j => ndCell (l[i]?.getD nd0) j))) := RdV.old r
 obtain ⟨n, hn⟩ : ∃ n, l.length = n := ⟨_, rfl⟩
 have HN : Hid _ := hn
 have HAS : Hid (ascL l = (List.range n).all (ascAt l)) := by show _ = _; unfold ascL; rw [hn]
 rw [hn] at hl HR ⊢
 rw [HAS.out]
 clear r hn HAS
 go_enter Tryz.func48, Tryz.ntmps48
 go_wp2
 go_loopw [3] (fun i wr => ∃ k : Nat, 1 ≤ k ∧ i = .i k ∧ k ≤ n + 1 ∧ Below w.heap.size w wr ∧ Hid ((List.range k).all (ascAt l) = true)) (fun i _ => n - (intOf i).toNat)
 case atStart => exact ⟨1, Nat.le_refl _, rfl, by omega, Below.refl _ _, by show _ = _; simp [ascAt]⟩
 case round =>
  obtain ⟨k, hk1, rfl, hk, hbel, HA⟩ := hrel
  by_cases hlt : k < n
  ·obtain ⟨j, rfl⟩ : ∃ j, k = j + 1 := ⟨k - 1, by omega⟩
   obtain ⟨b, off, rfl, hbl, _, hx⟩ := RdV.at (HR.out wr hbel) hlt
   obtain ⟨b9, off9, hbb, hbl9, _, hz⟩ := RdV.at (HR.out wr hbel) (show j < n by omega)
   simp only [Option.some.injEq, Addr.mk.injEq, and_true] at hbb
   obtain ⟨rfl, rfl⟩ := hbb
   obtain ⟨x0, g0, s0⟩ := hx 0 (by omega)
   obtain ⟨x1, g1, s1⟩ := hx 1 (by omega)
   obtain ⟨x2, g2, s2⟩ := hx 2 (by omega)
   obtain ⟨z0, u0, r0⟩ := hz 0 (by omega)
   obtain ⟨z1, u1, r1⟩ := hz 1 (by omega)
   obtain ⟨z2, u2, r2⟩ := hz 2 (by omega)
   have HAT : Hid (ascAt l (j + 1) = lessH (l[j]?.getD nd0).h (l[j + 1]?.getD nd0).h) := by show _ = _; simp [ascAt]
   generalize l[j]?.getD nd0 = ef at r0 r1 r2 HAT
   generalize l[j + 1]?.getD nd0 = eg at s0 s1 s2 HAT
   obtain ⟨⟨pp, qq, dp⟩, parf, lkf, vlf, esf⟩ := ef
   obtain ⟨⟨p, q, d⟩, parg, lkg, vlg, esg⟩ := eg
   obtain rfl : z0 = .i pp := r0
   obtain rfl : z1 = .i qq := r1
   obtain rfl : z2 = .bool dp := r2
   obtain rfl : x0 = .i p := s0
   obtain rfl : x1 = .i q := s1
   obtain rfl : x2 = .bool d := s2
   simp only [Nat.add_zero] at u0 g0
   dsimp only at HAT
   have HBP : Hid (∀ W, _) := fun W => byPlace_any (pp, qq, dp) (p, q, d) W
   have hbp := byP_less (pp, qq, dp) (p, q, d)
   generalize byP (pp, qq, dp) (p, q, d) = bp at HBP hbp
   haveI : Nonempty (Cls wr) := Cls.ne wr
   have k0 := Cls.cell hbl g0
   have k1 := Cls.cell hbl g1
   have k2 := Cls.cell hbl g2
   have j0 := Cls.cell hbl u0
   have j1 := Cls.cell hbl u1
   have j2 := Cls.cell hbl u2
   clear hx hz g0 g1 g2 u0 u1 u2 hbl9
   have i1 : (0 : Int) ≤ (j : Int) := by omega
   have i2 : (j : Int) < (n : Int) := by omega
   cases hbl : lessH (pp, qq, dp) (p, q, d) with
   | false =>
    rw [hbl] at HAT hbp
    have HF : Hid ((List.range n).all (ascAt l) = false) := range_all_falseT _ _ (j + 1) hlt HAT.out
    have hge : (0 : Int) ≤ bp := by simpa using hbp
    have hge2 : decide ((0 : Int) ≤ bp) = true := by simpa using hge
    clear hbp HAT HA
    go_wp2
    refine wp_region_cls (by kernel_rfl) (by kernel_rfl) ?_
    repeat (go_big_quiet_step (first | (go_at_call 96; exact Calls.cls (HBP.out _))))
    refine wpQuiet_nil ?_
    rintro w' ⟨⟨w', hb'⟩, rfl⟩
    go_wp2
    go_ret
    exact ⟨by rw [HF.out]; rfl, hbel.trans (hb'.mono hbel.size)⟩
   | true =>
    rw [hbl] at HAT hbp
    have HF : Hid ((List.range (j + 1 + 1)).all (ascAt l) = true) := range_all_nextT _ _ HA.out HAT.out
    have hge : bp < 0 := by simpa using hbp
    have hge2 : decide ((0 : Int) ≤ bp) = false := by simpa using hge
    clear hbp HAT HA
    go_wp2
    refine wp_region_cls (by kernel_rfl) (by kernel_rfl) ?_
    repeat (go_big_quiet_step (first | (go_at_call 96; exact Calls.cls (HBP.out _))))
    refine wpQuiet_nil ?_
    rintro w' ⟨⟨w', hb'⟩, rfl⟩
    go_wp2
    go_roundw
    case rel => exact ⟨j + 1 + 1, by omega, by go_num, by omega, hbel.trans (hb'.mono hbel.size), HF.out⟩
    case measure => simp [intOf]; omega
  ·have HF : Hid ((List.range n).all (ascAt l) = true) := by
    have := HA.out
    rw [List.all_eq_true] at this
    show _ = _
    rw [List.all_eq_true]
    exact fun i hi => this i (by simp at hi ⊢; omega)
   go_wp2
   go_ret
   exact ⟨by rw [HF.out]; rfl, hbel⟩
end
section
def IsRow (k : IntKind) (w : World) (a : Option Addr) (len cap : Nat) (zs : List Int) : Prop :=
 (a = none ∧ len = 0 ∧ cap = 0 ∧ zs = []) ∨
 ∃ x, a = some x ∧ len ≤ cap ∧ cap ≤ maxLen ∧ zs.length = cap ∧ (∀ i, i < zs.length → w.cell? (x.add i) = some (.int k (zs.getD i 0))) ∧ ∀ n ∈ zs, (Lit.int k n).wf = true

theorem row_reads {w : World} {a : Option Addr} {len cap : Nat} {zs : List Int} (h : IsRow .u8 w a len cap zs) : ∃ ys : List Int, len = ys.length ∧ Reads w a ys ∧ ys.length ≤ cap ∧ cap ≤ maxLen := by
 rcases h with ⟨rfl, rfl, rfl, rfl⟩ | ⟨x, rfl, hl, hm, hz, hcell, hw⟩
 ·exact ⟨[], rfl, ⟨isBytes_nil, .inl rfl⟩, Nat.le_refl _, Nat.zero_le _⟩
 ·refine ⟨zs.take len, by simp; omega, ⟨?_, ?_⟩, by simp; omega, hm⟩
  ·intro j
   by_cases hj : j < len
   ·rw [List.getElem?_take, if_pos hj]
    have hj' : j < zs.length := by omega
    have := hw _ (List.getElem_mem hj')
    simp only [List.getElem?_eq_getElem hj', Option.getD_some]
    have hb := bounds_u8 this
    omega
   ·rw [List.getElem?_take, if_neg hj]; simp
  ·by_cases h0 : len = 0
   ·exact .inl (by simp [h0])
   ·right
    obtain ⟨b, off, spot⟩ := x
    have hc := hcell 0 (by omega)
    have hspot : spot = none := by simpa [Addr.add] using World.cell?_spot hc
    subst hspot
    refine ⟨b, off, rfl, block_lt_of_cell hc, fun i hi => ?_⟩
    have hi' : i < len := by simp at hi; omega
    have := hcell i (by omega)
    rw [List.getElem?_take, if_pos hi']
    by_cases hi0 : i = 0
    ·subst hi0; simpa [Addr.add] using this
    ·simpa [Addr.add, hi0] using this
end
end Go.Proofs.YtcicadfhfojdpaaGreat
