/- Joined: SpecD5 SpecD6 SpecD7 SpecD8 DW1 SpecD9 SpecD10 DW2 DW3 DW9 DW11. -/
import Derived.Test.YtklhikadhohjbaaGreatMA02
import Derived.Test.YtklhikadhohjbaaGreatMSpecT5
import Derived.Test.YtklhikadhohjbaaGreatMA01
import Derived.Deep.AppendLies
import Derived.Maps.AppendAt
import Derived.Laws.AppendOwnNone
import Derived.Lib.ConvBytes
import Derived.Test.YtklhikadhohjbaaGreatMSpecT4a
import Derived.Test.YtklhikadhohjbaaGreatMTkz

namespace Go.Proofs.YtklhikadhohjbaaGreat
open Go.RowKit
set_option linter.unusedVariables false
set_option linter.unusedSimpArgs false
set_option maxRecDepth 100000
section
def undN (l : List Nd) (by' : Hd) : Nat → Hd → Int
 | 0, _ => 2
 | f + 1, h => if h = by' then 1 else if h = rootH then 0 else if fi l h < l.length then undN l by' f (l[fi l h]?.getD nd0).par else 0

theorem decH_f {p q s i : Int} {d e : Bool} (h : ¬ ((p, q, d) : Hd) = (s, i, e)) : decide (p = s ∧ q = i ∧ d = e) = false := by
 rw [decide_eq_false_iff_not]
 rintro ⟨rfl, rfl, rfl⟩
 exact h rfl
theorem decH_t {p q s i : Int} {d e : Bool} (h : ((p, q, d) : Hd) = (s, i, e)) : decide (p = s ∧ q = i ∧ d = e) = true := by
 rw [decide_eq_true_iff]
 simp only [Prod.mk.injEq] at h
 exact h
def UnRel (w : World) (v : Value) (l : List Nd) (by' : Hd) (res : Int) (i : Value) (wr : World) : Prop :=
 ∃ (k : Nat) (h : Hd), k ≤ 12 ∧ i = .i k ∧ VarA wr w.heap.size 55 #[v] ∧ VarA wr (w.heap.size + 1) 24 #[.i h.sh, .i h.ino, .bool h.dir] ∧ VarA wr (w.heap.size + 1 + 1) 24 #[.i by'.sh, .i by'.ino, .bool by'.dir] ∧ Below w.heap.size w wr ∧ undN l by' (12 - k) h = res
set_option maxHeartbeats 4000000 in
theorem specUnder_any (x : Value) (l : List Nd) (h0 by' : Hd) (S : Nat → Prop) (w : World) (r : RdV w S x (ndsDt l)) (hl : l.length ≤ 2097152) :
  Calls Tryz.prog 238 #[.agg #[x], h0.v, by'.v] w fun e w' => e = .returned (.i (undN l by' 12 h0)) ∧ Below w.heap.size w w' := by
 obtain ⟨a, cap, rfl, _⟩ := RdV.sliced r
 have HR : Hid (∀ W, Below w.heap.size w W → RdV W S (.slice a l.length cap) (.rows 133 9 l.length (fun i j => ndCell (l[i]?.getD nd0) j))) := RdV.old r
 have HFI : Hid (∀ h W, Below w.heap.size w W → _) := fun h W hW => specFind_any _ l h S W (RdV.step r hW) hl
 have HRT : Hid (∀ W, _) := fun W => specRootH_any W
 obtain ⟨res, hres⟩ : ∃ res, undN l by' 12 h0 = res := ⟨_, rfl⟩
 rw [hres]
 have HRES : Hid _ := hres
 clear r hres
 obtain ⟨p, q, d⟩ := h0
 obtain ⟨p2, q2, d2⟩ := by'
 go_enter Tryz.func238, Tryz.ntmps238
 go_wp2
 go_loopw [7] (fun i wr => UnRel w (.slice a l.length cap) l (p2, q2, d2) res i wr) (fun i _ => 12 - (intOf i).toNat)
 case atStart =>
  refine ⟨0, (p, q, d), Nat.zero_le _, rfl, ((VarA.new w _ _).alloc _).alloc _, ?_, ?_, (((Below.refl _ _).alloc (Nat.le_refl _) _).alloc (by simp) _).alloc (by simp; omega) _, HRES.out⟩
  ·have := (VarA.new (w.alloc (.cells #[.slice a l.length cap] 55)) 24 #[.i p, .i q, .bool d]).alloc (.cells #[.i p2, .i q2, .bool d2] 24)
   simpa using this
  ·have := VarA.new ((w.alloc (.cells #[.slice a l.length cap] 55)).alloc (.cells #[.i p, .i q, .bool d] 24)) 24 #[.i p2, .i q2, .bool d2]
   simpa using this
 case round =>
  clear HRES
  obtain ⟨k, ⟨p, q, d⟩, hk, rfl, vT, vH, vB, bw, hres⟩ := hrel
  replace vH : VarA wr (w.heap.size + 1) 24 #[.i p, .i q, .bool d] := vH
  replace vB : VarA wr (w.heap.size + 1 + 1) 24 #[.i p2, .i q2, .bool d2] := vB
  have c0 := vT.l1
  obtain ⟨a0, a1, a2⟩ := vH.l3
  obtain ⟨b0, b1, b2⟩ := vB.l3
  have HE : Hid _ := hres
  clear hres
  by_cases hlt : k < 12
  case neg =>
   have HF : Hid ((2 : Int) = res) := by rw [← HE.out]; show _ = _; rw [show 12 - k = 0 by omega]; rfl
   have hk9 : ¬ (k : Int) < 12 := by omega
   have HB : Hid _ := bw
   clear vT vH vB bw
   go_wp2
   go_ret
   exact ⟨by rw [← HF.out]; rfl, HB.out⟩
  have hk9 : (k : Int) < 12 := by omega
  have eq1 := fun W => eqH_run p q p2 q2 d d2 W
  by_cases hby : ((p, q, d) : Hd) = (p2, q2, d2)
  ·have d1 := decH_t hby
   have HF : Hid ((1 : Int) = res) := by rw [← HE.out]; show _ = _; rw [show 12 - k = (12 - (k + 1)) + 1 by omega, undN, if_pos hby]
   have HB : Hid _ := bw
   rw [d1] at eq1
   clear vT vH vB bw hby d1
   go_wp2
   go_ret
   exact ⟨by rw [← HF.out]; rfl, HB.out⟩
  ·have d1 := decH_f hby
   rw [d1] at eq1
   have hlH := vH.lt
   haveI : Nonempty (Cls wr) := Cls.ne wr
   have ka0 := Cls.cell hlH a0
   have ka1 := Cls.cell hlH a1
   have ka2 := Cls.cell hlH a2
   have hst : undN l (p2, q2, d2) (12 - k) (p, q, d) = if ((p, q, d) : Hd) = rootH then 0 else if fi l (p, q, d) < l.length then undN l (p2, q2, d2) (12 - (k + 1)) (l[fi l (p, q, d)]?.getD nd0).par else 0 := by rw [show 12 - k = (12 - (k + 1)) + 1 by omega, undN, if_neg hby]
   have HST : Hid _ := hst
   clear hst hby d1
   by_cases hrt : ((p, q, d) : Hd) = (0, 1, true)
   ·have hne : ∀ W : World, (binOp .eql 24 (.agg #[.i p, .i q, .bool d]) (.agg #[.i 0, .i 1, .bool true])).run Tryz.prog W = .ok (.bool true) W := fun W => by rw [eqH_run, decH_t hrt]
    have HF : Hid ((0 : Int) = res) := by rw [← HE.out]; show _ = _; rw [HST.out, if_pos (show ((p, q, d) : Hd) = rootH from hrt)]
    have HB : Hid _ := bw
    clear vT vH vB bw hrt
    go_wp2
    refine wp_region_cls (by kernel_rfl) (by kernel_rfl) ?_
    repeat (go_big_quiet_step (first | (go_at_call 93; exact Calls.cls_new (HRT.out _))))
    refine wpQuiet_nil ?_
    rintro w' ⟨⟨w', hb'⟩, rfl⟩
    have HB9 : Hid (Below w.heap.size w w') := HB.out.trans (hb'.mono HB.out.size)
    clear hb'
    go_wp2
    go_ret
    exact ⟨by rw [← HF.out]; rfl, HB9.out⟩
   ·have hne : ∀ W : World, (binOp .eql 24 (.agg #[.i p, .i q, .bool d]) (.agg #[.i 0, .i 1, .bool true])).run Tryz.prog W = .ok (.bool false) W := fun W => by rw [eqH_run, decH_f hrt]
    have HN : Hid (¬ ((p, q, d) : Hd) = rootH) := hrt
    have HVT : Hid (VarA wr w.heap.size 55 _) := vT
    have HVH : Hid (VarA wr (w.heap.size + 1) 24 _) := vH
    have HVB : Hid (VarA wr (w.heap.size + 1 + 1) 24 _) := vB
    have HB : Hid (Below w.heap.size w wr) := bw
    clear vT vH vB bw hrt
    go_wp2
    refine wp_region_cls (by kernel_rfl) (by kernel_rfl) ?_
    repeat (go_big_quiet_step (first | (go_at_call 93; exact Calls.cls_new (HRT.out _))))
    refine wpQuiet_nil ?_
    rintro w' ⟨⟨w', hb'⟩, rfl⟩
    have vT := HVT.out.step hb'
    have vH := HVH.out.step hb'
    have vB := HVB.out.step hb'
    have bw := HB.out.trans (hb'.mono HB.out.size)
    clear hb' HVT HVH HVB HB c0 a0 a1 a2 b0 b1 b2 ka0 ka1 ka2 hlH hne eq1
    have c0 := vT.l1
    obtain ⟨a0, a1, a2⟩ := vH.l3
    go_wp2_with fail
    refine Calls.mono (HFI.out (p, q, d) _ bw) ?_
    rintro e w3 ⟨rfl, b3⟩
    have vT3 := vT.step b3
    have vH3 := vH.step b3
    have vB3 := vB.step b3
    have bw3 := bw.trans (b3.mono bw.size)
    clear vT vH vB bw b3 c0 a0 a1 a2
    have c0 := vT3.l1
    obtain ⟨a0, a1, a2⟩ := vH3.l3
    have fz := vH3.fz
    rcases findH_cases l (p, q, d) with ⟨hf1, hf2⟩ | ⟨hf1, hf2⟩
    case inr =>
     have HF : Hid ((0 : Int) = res) := by rw [← HE.out]; show _ = _; rw [HST.out, if_neg HN.out, if_neg hf1]
     have HB : Hid _ := bw3
     rw [hf2]
     clear HE HST hf1 hf2 vT3 vH3 vB3 bw3
     go_wp2
     go_ret
     exact ⟨by rw [← HF.out]; rfl, HB.out⟩
    have HF : Hid (undN l (p2, q2, d2) (12 - (k + 1)) (l[fi l (p, q, d)]?.getD nd0).par = res) := by rw [← HE.out]; show _ = _; rw [HST.out, if_neg HN.out, if_pos hf1]
    rw [hf2]
    clear HE HST hf2 HN
    generalize fi l (p, q, d) = f0 at *
    obtain ⟨b, off, rfl, hbl, _, hx⟩ := RdV.at (HR.out w3 bw3) hf1
    generalize l[f0]?.getD nd0 = en at hx HF
    obtain ⟨x3, g3, s3⟩ := hx 3 (by omega)
    obtain ⟨x4, g4, s4⟩ := hx 4 (by omega)
    obtain ⟨x5, g5, s5⟩ := hx 5 (by omega)
    clear hx
    obtain ⟨hh, ⟨p', q', d'⟩, lk', vl', es'⟩ := en
    obtain rfl : x3 = .i p' := s3
    obtain rfl : x4 = .i q' := s4
    obtain rfl : x5 = .bool d' := s5
    have HT : Hid (VarA w3 w.heap.size 55 _) := vT3
    have HH : Hid (VarA w3 (w.heap.size + 1) 24 _) := vH3
    have HBB : Hid (VarA w3 (w.heap.size + 1 + 1) 24 _) := vB3
    have HB : Hid (Below w.heap.size w w3) := bw3
    have hi0 : (f0 : Int) < (l.length : Int) := by omega
    clear vT3 vH3 vB3 bw3
    go_wp2
    refine ⟨⟨k + 1, (p', q', d'), by omega, by go_num, (((HT.out.aside (p := ⟨w.heap.size + 1, 0, none⟩) (by show w.heap.size ≠ w.heap.size + 1; omega) _).aside (p := ⟨w.heap.size + 1, 1, none⟩) (by show w.heap.size ≠ w.heap.size + 1; omega) _).aside (p := ⟨w.heap.size + 1, 2, none⟩) (by show w.heap.size ≠ w.heap.size + 1; omega) _), ((HH.out.set 0 _).set 1 _).set 2 _, (((HBB.out.aside (p := ⟨w.heap.size + 1, 0, none⟩) (by show w.heap.size + 1 + 1 ≠ w.heap.size + 1; omega) _).aside (p := ⟨w.heap.size + 1, 1, none⟩) (by show w.heap.size + 1 + 1 ≠ w.heap.size + 1; omega) _).aside (p := ⟨w.heap.size + 1, 2, none⟩) (by show w.heap.size + 1 + 1 ≠ w.heap.size + 1; omega) _), ((HB.out.setCell (by show w.heap.size ≤ w.heap.size + 1; omega) _).setCell (by show w.heap.size ≤ w.heap.size + 1; omega) _).setCell (by show w.heap.size ≤ w.heap.size + 1; omega) _, HF.out⟩, by simp [intOf]; omega⟩
end
section
def Nm (w : World) (T : Nat → Prop) (v : Value) : Nat → Prop := fun b => T b ∧ b < w.heap.size ∧ v.ownBlock ≠ some b
def SE (w : World) (lo : Nat) (T : Nat → Prop) (v : Value) (l : List En) : Prop :=
 ∃ (V : Nat → Value) (C : List Value), w.ownsRow lo 139 4 v l.length C ∧ (∀ i j, i < l.length → j < 4 → C[i * 4 + j]? = some (enVal (l[i]?.getD en0) (V i) j)) ∧ ∀ i, i < l.length → RdV w (Nm w T v) (V i) (.bytes (l[i]?.getD en0).nm)
theorem SE.nil (w : World) (lo : Nat) (T : Nat → Prop) : SE w lo T (.slice none 0 0) [] :=
 ⟨fun _ => undef, [], World.ownsRow_nil _ _ _ _, fun i j hi => absurd hi (Nat.not_lt_zero _), fun i hi => absurd hi (Nat.not_lt_zero _)⟩
theorem SE.lt {w : World} {lo : Nat} {T : Nat → Prop} {v : Value} {l : List En} (s : SE w lo T v l) : ∀ b, v.ownBlock = some b → lo ≤ b ∧ b < w.heap.size := by
 obtain ⟨V, C, h1, h2, h3⟩ := s
 exact fun b hb => h1.lt b hb
theorem SE.step {w w' : World} {lo : Nat} {T : Nat → Prop} {v : Value} {l : List En} (s : SE w lo T v l) (hb : Below w.heap.size w w') : SE w' lo T v l := by
 have hlt := s.lt
 obtain ⟨V, C, h1, h2, h3⟩ := s
 exact ⟨V, C, ownsRow_keep (S := fun b => lo ≤ b ∧ b < w.heap.size) h1 hlt (Keeps.ofBelow hb), h2, fun i hi => RdV.mono (fun b hb' => ⟨hb'.1, Nat.lt_of_lt_of_le hb'.2.1 hb.size, hb'.2.2⟩) (RdV.step (h3 i hi) hb)⟩
theorem SE.rd {w : World} {lo : Nat} {T : Nat → Prop} {v : Value} {l : List En} (s : SE w lo T v l) : RdV w (fun b => (T b ∨ lo ≤ b) ∧ b < w.heap.size) v (ensDt l) := by
 obtain ⟨V, C, h1, h2, h3⟩ := s
 unfold ensDt
 refine RdV.mkRows _ ?_
 rcases h1.2 with ⟨hv, h0⟩ | ⟨g, c, cur, hv, hg, hh, hnc, hm, _⟩
 ·subst hv
  rw [h0]
  exact ⟨none, 0, fun _ _ => undef, rfl, ⟨Nat.le_refl _, Nat.zero_le _, fun _ => ⟨rfl, rfl⟩⟩, .inl rfl, fun i j hi => absurd hi (Nat.not_lt_zero _)⟩
 ·subst hv
  refine ⟨some ⟨g, 0, none⟩, c, fun i j => enVal (l[i]?.getD en0) (V i) j, rfl, ⟨hnc, hm, fun e => by cases e⟩, .inr ⟨g, 0, rfl, ⟨.inr hg, lt_of_block hh⟩, lt_of_block hh, fun i j hi hj => ?_⟩, fun i j hi hj => ?_⟩
  ·rw [Nat.zero_add, World.ownsRow.cellAt h1 (i * 4 + j) (place_lt hi hj)]
   exact h2 i j hi hj
  ·match j, hj with
   | 0, _ => exact RdV.mono (fun b hb => ⟨.inl hb.1, hb.2.1⟩) (h3 i hi)
   | 1, _ => rfl
   | 2, _ => rfl
   | 3, _ => rfl
def enRow (l : List En) (V : Nat → Value) : List Value := (List.range (l.length * 4)).map (fun t => enVal (l[t / 4]?.getD en0) (V (t / 4)) (t % 4))
theorem enRow_at (l : List En) (V : Nat → Value) (i j : Nat) (hi : i < l.length) (hj : j < 4) : (enRow l V)[i * 4 + j]? = some (enVal (l[i]?.getD en0) (V i) j) := by
 unfold enRow
 rw [List.getElem?_map, List.getElem?_range (place_lt hi hj)]
 simp only [Option.map_some]
 rw [show (i * 4 + j) / 4 = i by omega, show (i * 4 + j) % 4 = j by omega]
theorem enRow_of {l : List En} {V : Nat → Value} {t : Nat} {u : Value} (h : (enRow l V)[t]? = some u) : t < l.length * 4 ∧ u = enVal (l[t / 4]?.getD en0) (V (t / 4)) (t % 4) := by
 unfold enRow at h
 rw [List.getElem?_map] at h
 by_cases ht : t < l.length * 4
 ·rw [List.getElem?_range ht] at h
  simp only [Option.map_some, Option.some.injEq] at h
  exact ⟨ht, h.symm⟩
 ·rw [List.getElem?_eq_none (by simpa using ht)] at h
  cases h
theorem enVal_one (e : En) (x : Value) (hx : x.oneCell' = true) : ∀ j, (enVal e x j).oneCell' = true
 | 0 => hx
 | 1 => rfl
 | 2 => rfl
 | (_ + 3) => rfl
end
section
theorem SE.manyV {w w' : World} {lo : Nat} {T : Nat → Prop} {v v' : Value} {l l2 : List En} (V V2 : Nat → Value) (C news : List Value) (h1 : w.ownsRow lo 139 4 v l.length C)
  (h2 : ∀ i j, i < l.length → j < 4 → C[i * 4 + j]? = some (enVal (l[i]?.getD en0) (V i) j)) (h3 : ∀ i, i < l.length → RdV w (Nm w T v) (V i) (.bytes (l[i]?.getD en0).nm))
  (hn : ∀ i j, i < l2.length → j < 4 → news[i * 4 + j]? = some (enVal (l2[i]?.getD en0) (V2 i) j)) (hr : ∀ i, i < l2.length → RdV w (Nm w T v) (V2 i) (.bytes (l2[i]?.getD en0).nm))
  (ho : w'.ownsRow lo 139 4 v' (l.length + l2.length) (C ++ news)) (hg : w.grownBy w' v.ownBlock) (hgg : v'.ownBlock = v.ownBlock ∨ v'.ownBlock = some w.heap.size) :
  SE w' lo T v' (l ++ l2) := by
 have hsz := hg.size
 have hCl : C.length = l.length * 4 := h1.1
 have hln : (l ++ l2).length = l.length + l2.length := List.length_append
 have hrd : ∀ (y : Value) (zs : List Int), RdV w (Nm w T v) y (.bytes zs) → RdV w' (Nm w' T v') y (.bytes zs) := fun y zs r =>
  RdV.mono (fun b hb => ⟨hb.1, by have := hb.2.1; omega, fun e => by
   rcases hgg with h | h
   ·exact hb.2.2 (by rw [← h, e])
   ·rw [h] at e
    have e' : w.heap.size = b := by simpa using e
    have := hb.2.1
    omega⟩) (RdV.keep ⟨hsz, fun b hb hlt => hg.block b hlt (fun h => hb.2.2 h.symm)⟩ r)
 refine ⟨fun i => if i < l.length then V i else V2 (i - l.length), _, by rw [hln]; exact ho, fun i j hi hj => ?_, fun i hi => ?_⟩
 ·rw [hln] at hi
  by_cases hlt : i < l.length
  ·simp only [hlt, if_true]
   rw [List.getElem?_append_left (by rw [hCl]; exact place_lt hlt hj), List.getElem?_append_left hlt]
   exact h2 i j hlt hj
  ·simp only [hlt, if_false]
   rw [List.getElem?_append_right (by omega), hCl, show i * 4 + j - l.length * 4 = (i - l.length) * 4 + j by omega, List.getElem?_append_right (by omega)]
   exact hn (i - l.length) j (by omega) hj
 ·rw [hln] at hi
  by_cases hlt : i < l.length
  ·simp only [hlt, if_true]
   rw [List.getElem?_append_left hlt]
   exact hrd _ _ (h3 i hlt)
  ·simp only [hlt, if_false]
   rw [List.getElem?_append_right (by omega)]
   exact hrd _ _ (hr (i - l.length) (by omega))
def Lies (w : World) (ao : Option Addr) (c : Nat) (l2 : List En) (V2 : Nat → Value) : Prop :=
 (ao = none ∧ l2 = [] ∧ c = 0) ∨ ∃ ad, ao = some ad ∧ ∀ t u, (enRow l2 V2)[t]? = some u → w.cell? (ad.add t) = some u
theorem wpList_appE {ops : Array Oper} {rest : List Oper} {o : Oper} {a : Act} {Q : Exit → Act → World → Prop} (w : World) (hgd : o.guard = none) (s x : Operand)
  (ho : o.op = .call { callee := .builtin .append, args := #[s, x], argTypes := #[27, 27] })
  (v : Value) (hs : a.eval s = v) (l l2 : List En) (lo c : Nat) (ao : Option Addr) (T : Nat → Prop) (hx : a.eval x = .slice ao l2.length c) (V2 : Nat → Value)
  (hsrc : Lies w ao c l2 V2) (hr : ∀ i, i < l2.length → RdV w (Nm w T v) (V2 i) (.bytes (l2[i]?.getD en0).nm))
  (hown : SE w lo T v l) (hlo : lo ≤ w.heap.size) (hl : l.length + l2.length ≤ 8000)
  (h : ∀ v' w', SE w' lo T v' (l ++ l2) → w.grownBy w' v.ownBlock → (v'.ownBlock = v.ownBlock ∨ v'.ownBlock = some w.heap.size) → wpList Tryz.prog ops Q rest (a.put o.dst v') w') : wpList Tryz.prog ops Q (o :: rest) a w := by
 obtain ⟨i0, hi0, hz0, hz1, hz2⟩ := info_parts Tryz.infoEn
 obtain ⟨V, C, h1, h2, h3⟩ := hown
 rcases hsrc with ⟨rfl, rfl, rfl⟩ | ⟨ad, rfl, hcell⟩
 ·refine wpList_append_own_none (w := w) hgd s x 27 ho lo 139 i0 4 Tryz.underlying27 hi0 v l.length C hs h1 hx ?_
  exact h v w (by rw [List.append_nil]; exact ⟨V, C, h1, h2, h3⟩) ⟨rfl, rfl, rfl, Nat.le_refl _, fun _ _ _ => rfl⟩ (.inl rfl)
 ·obtain ⟨v', w', hrun, ho', hg, _, hgg⟩ := run_append_own_at (P := Tryz.prog) w lo 27 o.type 139 i0 (.agg #[.slice none 0 0, .i 0, .i 0, .bool false]) 4 48 Tryz.underlying27 hi0 hz0 hz1 hz2 rfl (by decide) v l.length C h1 ad l2.length c (enRow l2 V2) (by simp [enRow]) hcell (fun u hu => by
    obtain ⟨t, ht⟩ := List.getElem?_of_mem hu
    obtain ⟨ht1, rfl⟩ := enRow_of ht
    refine enVal_one _ _ ?_ _
    obtain ⟨a', c', e'⟩ := RdV.sliceB (hr (t / 4) (by omega))
    rw [e']
    rfl) (by unfold maxLen; omega) (by omega) hlo
  have hse := SE.manyV V V2 C (enRow l2 V2) h1 h2 h3 (fun i j hi hj => enRow_at l2 V2 i j hi hj) hr ho' hg hgg
  refine wpList_plain hgd fun K hK => ?_
  unfold Oper.wp execOp
  simp only [ho, resolve, invoke, builtin, Sem.run_bind, Sem.run_pure, Result.andThen_ok, List.map_toArray, List.map_cons, List.map_nil, hs, hx, hrun]
  exact hK _ _ (h v' w' hse hg hgg)
end
section
def EntL (w : World) (L : Nat → Prop) (v : Value) : Nat → Prop := fun b => L b ∧ b < w.heap.size ∧ v.ownBlock ≠ some b
def SG (w : World) (lo : Nat) (L : Nat → Prop) (v : Value) (l : List Nd) : Prop :=
 ∃ (V : Nat → Value) (C : List Value), w.ownsRow lo 133 9 v l.length C ∧ (∀ i j, i < l.length → j < 9 → C[i * 9 + j]? = some (ndVal (l[i]?.getD nd0) (V i) j)) ∧ ∀ i, i < l.length → RdV w (EntL w L v) (V i) (ensDt (l[i]?.getD nd0).es)
theorem SN.sg {w : World} {lo : Nat} {v : Value} {l : List Nd} (s : SN w lo v l) : SG w lo (fun b => lo ≤ b) v l := s
theorem SG.mono {w : World} {lo : Nat} {L L' : Nat → Prop} {v : Value} {l : List Nd} (s : SG w lo L v l) (h : ∀ b, b < w.heap.size → L b → L' b) : SG w lo L' v l := by
 obtain ⟨V, C, h1, h2, h3⟩ := s
 exact ⟨V, C, h1, h2, fun i hi => RdV.mono (fun b hb => ⟨h b hb.2.1 hb.1, hb.2⟩) (h3 i hi)⟩
theorem SG.nil (w : World) (lo : Nat) (L : Nat → Prop) : SG w lo L (.slice none 0 0) [] :=
 ⟨fun _ => undef, [], World.ownsRow_nil _ _ _ _, fun i j hi => absurd hi (Nat.not_lt_zero _), fun i hi => absurd hi (Nat.not_lt_zero _)⟩
theorem SG.lt {w : World} {lo : Nat} {L : Nat → Prop} {v : Value} {l : List Nd} (s : SG w lo L v l) : ∀ b, v.ownBlock = some b → lo ≤ b ∧ b < w.heap.size := by
 obtain ⟨V, C, h1, h2, h3⟩ := s
 exact fun b hb => h1.lt b hb
theorem SG.keep {w w' : World} {lo : Nat} {L : Nat → Prop} {v : Value} {l : List Nd} (s : SG w lo L v l) (t : Keeps (fun b => b < w.heap.size ∧ (L b ∨ v.ownBlock = some b)) w w') : SG w' lo L v l := by
 have hb := s.lt
 obtain ⟨V, C, h1, h2, h3⟩ := s
 exact ⟨V, C, ownsRow_keep h1 (fun b h => ⟨(hb b h).2, .inr h⟩) t, h2, fun i hi => RdV.mono (fun b hb => ⟨hb.1, Nat.lt_of_lt_of_le hb.2.1 t.1, hb.2.2⟩) (RdV.keep (t.mono (fun b hb => ⟨hb.2.1, .inl hb.1⟩)) (h3 i hi))⟩
theorem SG.step {w w' : World} {lo : Nat} {L : Nat → Prop} {v : Value} {l : List Nd} (s : SG w lo L v l) (hb : Below w.heap.size w w') : SG w' lo L v l := s.keep (Keeps.ofBelow hb)
theorem SG.sn {w : World} {lo : Nat} {L : Nat → Prop} {v : Value} {l : List Nd} (s : SG w lo L v l) (h : ∀ b, L b → lo ≤ b) : SN w lo v l := s.mono (fun b _ hb => h b hb)
theorem SG.head {w : World} {lo : Nat} {L : Nat → Prop} {v : Value} {l : List Nd} (s : SG w lo L v l) (hl : 0 < l.length) : ∃ g cap, v = .slice (some ⟨g, 0, none⟩) l.length cap ∧ lo ≤ g ∧ g < w.heap.size ∧ (∀ j, w.frozen? ⟨g, j, none⟩ = false) ∧ l.length ≤ cap := by
 obtain ⟨V, C, h1, h2, h3⟩ := s
 rcases h1.2 with ⟨hv, h0⟩ | ⟨g, c, cur, hv, hg, hh, hnc, hm, _⟩
 ·omega
 ·subst hv
  exact ⟨g, c, rfl, hg, lt_of_block hh, fun j => h1.frozenAt j, hnc⟩
theorem SG.at {w : World} {lo g cap : Nat} {L : Nat → Prop} {l : List Nd} (s : SG w lo L (.slice (some ⟨g, 0, none⟩) l.length cap) l) {i : Nat} (hi : i < l.length) :
  ∃ x, RdV w (fun b => L b ∧ b < w.heap.size ∧ b ≠ g) x (ensDt (l[i]?.getD nd0).es) ∧ ∀ j, j < 9 → w.cell? ⟨g, i * 9 + j, none⟩ = some (ndVal (l[i]?.getD nd0) x j) := by
 obtain ⟨V, C, h1, h2, h3⟩ := s
 refine ⟨V i, RdV.mono (fun b hb => ⟨hb.1, hb.2.1, fun e => hb.2.2 (by rw [e]; rfl)⟩) (h3 i hi), fun j hj => ?_⟩
 rw [World.ownsRow.cellAt h1 (i * 9 + j) (place_lt hi hj)]
 exact h2 i j hi hj
def Nd.setEs (n : Nd) (es : List En) : Nd := ⟨n.h, n.par, n.links, n.val, es⟩
theorem SE.shape {w : World} {lo : Nat} {T : Nat → Prop} {v : Value} {l : List En} (s : SE w lo T v l) : ∃ a c, v = .slice a l.length c := by
 obtain ⟨V, C, h1, h2, h3⟩ := s
 rcases h1.2 with ⟨hv, h0⟩ | ⟨g, c, cur, hv, _⟩
 ·exact ⟨none, 0, by rw [h0]; exact hv⟩
 ·exact ⟨_, c, hv⟩
theorem SG.shape {L : Nat → Prop} {w : World} {lo : Nat} {v : Value} {l : List Nd} (s : SG w lo L v l) : ∃ a c, v = .slice a l.length c := by
 obtain ⟨V, C, h1, h2, h3⟩ := s
 rcases h1.2 with ⟨hv, h0⟩ | ⟨g, c, cur, hv, _⟩
 ·exact ⟨none, 0, by rw [h0]; exact hv⟩
 ·exact ⟨_, c, hv⟩
theorem SE.shapeN {w : World} {lo n : Nat} {T : Nat → Prop} {v : Value} {l : List En} (s : SE w lo T v l) (h : l.length = n) : ∃ a c, v = .slice a n c := by subst h; exact s.shape
theorem SG.shapeN {L : Nat → Prop} {w : World} {lo n : Nat} {v : Value} {l : List Nd} (s : SG w lo L v l) (h : l.length = n) : ∃ a c, v = .slice a n c := by subst h; exact s.shape
theorem SE.empty (w : World) (lo : Nat) (T : Nat → Prop) (h : lo ≤ w.heap.size) : SE (w.alloc (.cells #[] 139)) lo T (.slice (some ⟨w.heap.size, 0, none⟩) 0 0) [] :=
 ⟨fun _ => undef, [], World.ownsRow_lit w #[] 0 h (Nat.zero_le _) rfl, fun i j hi => absurd hi (Nat.not_lt_zero _), fun i hi => absurd hi (Nat.not_lt_zero _)⟩
theorem SG.empty (L : Nat → Prop) (w : World) (lo : Nat) (h : lo ≤ w.heap.size) : SG (w.alloc (.cells #[] 133)) lo L (.slice (some ⟨w.heap.size, 0, none⟩) 0 0) [] :=
 ⟨fun _ => undef, [], World.ownsRow_lit w #[] 0 h (Nat.zero_le _) rfl, fun i j hi => absurd hi (Nat.not_lt_zero _), fun i hi => absurd hi (Nat.not_lt_zero _)⟩
theorem SG.setE {L : Nat → Prop} {w : World} {lo g cap m : Nat} {l : List Nd} (s : SG w lo L (.slice (some ⟨g, 0, none⟩) m cap) l) {d : Nat} (hd : d < l.length) {x : Value} {es : List En} (hx : RdV w (fun b => L b ∧ b < w.heap.size ∧ b ≠ g) x (ensDt es)) :
  SG (w.setCell ⟨g, d * 9 + 8, none⟩ x) lo L (.slice (some ⟨g, 0, none⟩) m cap) (l.set d ((l[d]?.getD nd0).setEs es)) := by
 obtain ⟨a, c, hv⟩ := s.shape
 simp only [Value.slice.injEq] at hv
 obtain ⟨-, rfl, -⟩ := hv
 obtain ⟨V, C, h1, h2, h3⟩ := s
 have hst := h1.stored (d * 9 + 8) x
 have hCl : C.length = l.length * 9 := h1.1
 have hln : (l.set d ((l[d]?.getD nd0).setEs es)).length = l.length := List.length_set
 have kp : ∀ (y : Value) (ys : List En), RdV w (EntL w L (.slice (some ⟨g, 0, none⟩) l.length cap)) y (ensDt ys) → RdV (w.setCell ⟨g, d * 9 + 8, none⟩ x) (EntL (w.setCell ⟨g, d * 9 + 8, none⟩ x) L (.slice (some ⟨g, 0, none⟩) l.length cap)) y (ensDt ys) := fun y ys r =>
  RdV.mono (fun b hb => ⟨hb.1, by simpa using hb.2.1, hb.2.2⟩) (RdV.keep ⟨by simp, fun b hb _ => heap_setCell_other w _ b x (fun e => hb.2.2 (by rw [e]; rfl))⟩ r)
 refine ⟨fun i => if i = d then x else V i, _, by rw [hln]; exact hst.1, fun i j hi hj => ?_, fun i hi => ?_⟩
 ·rw [hln] at hi
  rw [List.getElem?_set]
  by_cases he : i = d
  ·subst he
   simp only [if_true]
   rw [List.getElem?_set_self hi]
   by_cases h8 : j = 8
   ·subst h8
    rw [if_pos rfl, if_pos (by rw [hCl]; exact place_lt hi hj)]
    rfl
   ·rw [if_neg (by omega), h2 i j hi hj]
    match j, hj with
    | 0, _ => rfl
    | 1, _ => rfl
    | 2, _ => rfl
    | 3, _ => rfl
    | 4, _ => rfl
    | 5, _ => rfl
    | 6, _ => rfl
    | 7, _ => rfl
    | 8, _ => omega
  ·simp only [he, if_false]
   rw [if_neg (fun e => he (by have := place_inj (k := 9) (by omega) hj e; omega)), List.getElem?_set_ne (by omega)]
   exact h2 i j hi hj
 ·rw [hln] at hi
  by_cases he : i = d
  ·subst he
   simp only [if_true]
   rw [List.getElem?_set_self hi]
   exact kp _ _ (RdV.mono (fun b hb => ⟨hb.1, hb.2.1, fun e => hb.2.2 (by simpa [Value.ownBlock] using e.symm)⟩) hx)
  ·simp only [he, if_false]
   rw [List.getElem?_set_ne (by omega)]
   exact kp _ _ (h3 i hi)
theorem SG.setN {L : Nat → Prop} {w : World} {lo g cap m : Nat} {l : List Nd} (s : SG w lo L (.slice (some ⟨g, 0, none⟩) m cap) l) {d j : Nat} (hd : d < l.length) (hj8 : j < 8) {u : Value} {n : Nd} (hes : n.es = (l[d]?.getD nd0).es) (hu : ∀ x, ndVal n x j = u) (ho : ∀ x j', j' < 8 → j' ≠ j → ndVal n x j' = ndVal (l[d]?.getD nd0) x j') :
  SG (w.setCell ⟨g, d * 9 + j, none⟩ u) lo L (.slice (some ⟨g, 0, none⟩) m cap) (l.set d n) := by
 obtain ⟨a, c, hv⟩ := s.shape
 simp only [Value.slice.injEq] at hv
 obtain ⟨-, rfl, -⟩ := hv
 obtain ⟨V, C, h1, h2, h3⟩ := s
 have hst := h1.stored (d * 9 + j) u
 have hCl : C.length = l.length * 9 := h1.1
 have hln : (l.set d n).length = l.length := List.length_set
 have kp : ∀ (y : Value) (ys : List En), RdV w (EntL w L (.slice (some ⟨g, 0, none⟩) l.length cap)) y (ensDt ys) → RdV (w.setCell ⟨g, d * 9 + j, none⟩ u) (EntL (w.setCell ⟨g, d * 9 + j, none⟩ u) L (.slice (some ⟨g, 0, none⟩) l.length cap)) y (ensDt ys) := fun y ys r =>
  RdV.mono (fun b hb => ⟨hb.1, by simpa using hb.2.1, hb.2.2⟩) (RdV.keep ⟨by simp, fun b hb _ => heap_setCell_other w _ b u (fun e => hb.2.2 (by rw [e]; rfl))⟩ r)
 refine ⟨V, _, by rw [hln]; exact hst.1, fun i j' hi hj => ?_, fun i hi => ?_⟩
 ·rw [hln] at hi
  rw [List.getElem?_set]
  by_cases he : i = d
  ·subst he
   rw [List.getElem?_set_self hi]
   by_cases h8 : j' = j
   ·subst h8
    rw [if_pos rfl, if_pos (by rw [hCl]; exact place_lt hi hj)]
    rw [Option.getD_some, hu]
   ·rw [if_neg (by omega), h2 i j' hi hj, Option.getD_some]
    by_cases h9 : j' < 8
    ·rw [ho _ _ h9 h8]
    ·obtain rfl : j' = 8 := by omega
     rfl
  ·rw [if_neg (fun e => he (by have := place_inj (k := 9) (by omega) hj e; omega)), List.getElem?_set_ne (by omega)]
   exact h2 i j' hi hj
 ·rw [hln] at hi
  by_cases he : i = d
  ·subst he
   rw [List.getElem?_set_self hi, Option.getD_some, hes]
   exact kp _ _ (h3 i hi)
  ·rw [List.getElem?_set_ne (by omega)]
   exact kp _ _ (h3 i hi)
theorem step_appE {ops : Array Oper} {o : Oper} {a : Act} {K : Act → World → Prop} {Q : Exit → Act → World → Prop} {E : Prop} (w : World) (hgd : o.guard = none) (s x : Operand)
  (ho : o.op = .call { callee := .builtin .append, args := #[s, x], argTypes := #[27, 27] })
  (v : Value) (hs : a.eval s = v) (l l2 : List En) (lo c : Nat) (ao : Option Addr) (T : Nat → Prop) (hx : a.eval x = .slice ao l2.length c) (V2 : Nat → Value)
  (hsrc : Lies w ao c l2 V2) (hr : ∀ i, i < l2.length → RdV w (Nm w T v) (V2 i) (.bytes (l2[i]?.getD en0).nm))
  (hown : SE w lo T v l) (hlo : lo ≤ w.heap.size) (hl : l.length + l2.length ≤ 8000)
  (h : ∀ v' w', SE w' lo T v' (l ++ l2) → w.grownBy w' v.ownBlock → (v'.ownBlock = v.ownBlock ∨ v'.ownBlock = some w.heap.size) → K (a.put o.dst v') w') : if Region.wanted o (yielded ops a.tmps) = true then Oper.wp Tryz.prog o a w K Q else E := by
 have hw : Region.wanted o (yielded ops a.tmps) = true := by simp [Region.wanted, hgd]
 rw [if_pos hw]
 obtain ⟨i0, hi0, hz0, hz1, hz2⟩ := info_parts Tryz.infoEn
 obtain ⟨V, C, h1, h2, h3⟩ := hown
 rcases hsrc with ⟨rfl, rfl, rfl⟩ | ⟨ad, rfl, hcell⟩
 ·have hrun := run_append_owned_none (P := Tryz.prog) (w := w) lo 27 o.type 139 i0 4 Tryz.underlying27 hi0 v l.length C h1
  have hx' : a.eval x = .slice none 0 0 := hx
  unfold Oper.wp execOp
  simp only [ho, resolve, invoke, builtin, Sem.run_bind, Sem.run_pure, Result.andThen_ok, List.map_toArray, List.map_cons, List.map_nil, hs, hx', hrun]
  exact h v w (by rw [List.append_nil]; exact ⟨V, C, h1, h2, h3⟩) ⟨rfl, rfl, rfl, Nat.le_refl _, fun _ _ _ => rfl⟩ (.inl rfl)
 ·obtain ⟨v', w', hrun, ho', hg, _, hgg⟩ := run_append_own_at (P := Tryz.prog) w lo 27 o.type 139 i0 (.agg #[.slice none 0 0, .i 0, .i 0, .bool false]) 4 48 Tryz.underlying27 hi0 hz0 hz1 hz2 rfl (by decide) v l.length C h1 ad l2.length c (enRow l2 V2) (by simp [enRow]) hcell (fun u hu => by
    obtain ⟨t, ht⟩ := List.getElem?_of_mem hu
    obtain ⟨ht1, rfl⟩ := enRow_of ht
    refine enVal_one _ _ ?_ _
    obtain ⟨a', c', e'⟩ := RdV.sliceB (hr (t / 4) (by omega))
    rw [e']
    rfl) (by unfold maxLen; omega) (by omega) hlo
  have hse := SE.manyV V V2 C (enRow l2 V2) h1 h2 h3 (fun i j hi hj => enRow_at l2 V2 i j hi hj) hr ho' hg hgg
  unfold Oper.wp execOp
  simp only [ho, resolve, invoke, builtin, Sem.run_bind, Sem.run_pure, Result.andThen_ok, List.map_toArray, List.map_cons, List.map_nil, hs, hx, hrun]
  exact h v' w' hse hg hgg
def ndRow (l : List Nd) (V : Nat → Value) : List Value := (List.range (l.length * 9)).map (fun t => ndVal (l[t / 9]?.getD nd0) (V (t / 9)) (t % 9))
theorem ndRow_at (l : List Nd) (V : Nat → Value) (i j : Nat) (hi : i < l.length) (hj : j < 9) : (ndRow l V)[i * 9 + j]? = some (ndVal (l[i]?.getD nd0) (V i) j) := by
 unfold ndRow
 rw [List.getElem?_map, List.getElem?_range (place_lt hi hj)]
 simp only [Option.map_some]
 rw [show (i * 9 + j) / 9 = i by omega, show (i * 9 + j) % 9 = j by omega]
theorem ndRow_of {l : List Nd} {V : Nat → Value} {t : Nat} {u : Value} (h : (ndRow l V)[t]? = some u) : t < l.length * 9 ∧ u = ndVal (l[t / 9]?.getD nd0) (V (t / 9)) (t % 9) := by
 unfold ndRow at h
 rw [List.getElem?_map] at h
 by_cases ht : t < l.length * 9
 ·rw [List.getElem?_range ht] at h
  simp only [Option.map_some, Option.some.injEq] at h
  exact ⟨ht, h.symm⟩
 ·rw [List.getElem?_eq_none (by simpa using ht)] at h
  cases h
theorem ndVal_one (n : Nd) (x : Value) (hx : x.oneCell' = true) : ∀ j, (ndVal n x j).oneCell' = true
 | 0 => rfl
 | 1 => rfl
 | 2 => rfl
 | 3 => rfl
 | 4 => rfl
 | 5 => rfl
 | 6 => rfl
 | 7 => rfl
 | (_ + 8) => hx
theorem SG.manyV {L : Nat → Prop} {w w' : World} {lo : Nat} {v v' : Value} {l l2 : List Nd} (V V2 : Nat → Value) (C news : List Value) (h1 : w.ownsRow lo 133 9 v l.length C)
  (h2 : ∀ i j, i < l.length → j < 9 → C[i * 9 + j]? = some (ndVal (l[i]?.getD nd0) (V i) j)) (h3 : ∀ i, i < l.length → RdV w (EntL w L v) (V i) (ensDt (l[i]?.getD nd0).es))
  (hn : ∀ i j, i < l2.length → j < 9 → news[i * 9 + j]? = some (ndVal (l2[i]?.getD nd0) (V2 i) j)) (hr : ∀ i, i < l2.length → RdV w (EntL w L v) (V2 i) (ensDt (l2[i]?.getD nd0).es))
  (ho : w'.ownsRow lo 133 9 v' (l.length + l2.length) (C ++ news)) (hg : w.grownBy w' v.ownBlock) (hgg : v'.ownBlock = v.ownBlock ∨ v'.ownBlock = some w.heap.size) :
  SG w' lo L v' (l ++ l2) := by
 have hsz := hg.size
 have hCl : C.length = l.length * 9 := h1.1
 have hln : (l ++ l2).length = l.length + l2.length := List.length_append
 have hrd : ∀ (y : Value) (es : List En), RdV w (EntL w L v) y (ensDt es) → RdV w' (EntL w' L v') y (ensDt es) := fun y es r =>
  RdV.mono (fun b hb => ⟨hb.1, by have := hb.2.1; omega, fun e => by
   rcases hgg with h | h
   ·exact hb.2.2 (by rw [← h, e])
   ·rw [h] at e
    have e' : w.heap.size = b := by simpa using e
    have := hb.2.1
    omega⟩) (RdV.keep ⟨hsz, fun b hb hlt => hg.block b hlt (fun h => hb.2.2 h.symm)⟩ r)
 refine ⟨fun i => if i < l.length then V i else V2 (i - l.length), _, by rw [hln]; exact ho, fun i j hi hj => ?_, fun i hi => ?_⟩
 ·rw [hln] at hi
  by_cases hlt : i < l.length
  ·simp only [hlt, if_true]
   rw [List.getElem?_append_left (by rw [hCl]; exact place_lt hlt hj), List.getElem?_append_left hlt]
   exact h2 i j hlt hj
  ·simp only [hlt, if_false]
   rw [List.getElem?_append_right (by omega), hCl, show i * 9 + j - l.length * 9 = (i - l.length) * 9 + j by omega, List.getElem?_append_right (by omega)]
   exact hn (i - l.length) j (by omega) hj
 ·rw [hln] at hi
  by_cases hlt : i < l.length
  ·simp only [hlt, if_true]
   rw [List.getElem?_append_left hlt]
   exact hrd _ _ (h3 i hlt)
  ·simp only [hlt, if_false]
   rw [List.getElem?_append_right (by omega)]
   exact hrd _ _ (hr (i - l.length) (by omega))
def LiesN (w : World) (ao : Option Addr) (c : Nat) (l2 : List Nd) (V2 : Nat → Value) : Prop :=
 (ao = none ∧ l2 = [] ∧ c = 0) ∨ ∃ ad, ao = some ad ∧ ∀ t u, (ndRow l2 V2)[t]? = some u → w.cell? (ad.add t) = some u
theorem run_appN {L : Nat → Prop} (w : World) (ty : TypeId) (v : Value) (l l2 : List Nd) (lo c : Nat) (ao : Option Addr) (V2 : Nat → Value)
  (hsrc : LiesN w ao c l2 V2) (hr : ∀ i, i < l2.length → RdV w (EntL w L v) (V2 i) (ensDt (l2[i]?.getD nd0).es)) (hown : SG w lo L v l) (hlo : lo ≤ w.heap.size) (hl : l.length + l2.length ≤ 8000) :
  ∃ v' w', (Builtin.append_ #[53, 53] ty #[v, .slice ao l2.length c]).run Tryz.prog w = .ok v' w' ∧ SG w' lo L v' (l ++ l2) ∧ w.grownBy w' v.ownBlock ∧ (v'.ownBlock = v.ownBlock ∨ v'.ownBlock = some w.heap.size) := by
 obtain ⟨i0, hi0, hz0, hz1, hz2⟩ := info_parts Tryz.infoNd
 obtain ⟨V, C, h1, h2, h3⟩ := hown
 rcases hsrc with ⟨rfl, rfl, rfl⟩ | ⟨ad, rfl, hcell⟩
 ·exact ⟨v, w, run_append_owned_none (P := Tryz.prog) (w := w) lo 53 ty 133 i0 9 Tryz.underlying53 hi0 v l.length C h1, by rw [List.append_nil]; exact ⟨V, C, h1, h2, h3⟩, ⟨rfl, rfl, rfl, Nat.le_refl _, fun _ _ _ => rfl⟩, .inl rfl⟩
 ·obtain ⟨v', w', hrun, ho', hg, _, hgg⟩ := run_append_own_at (P := Tryz.prog) w lo 53 ty 133 i0 _ 9 _ Tryz.underlying53 hi0 hz0 hz1 hz2 rfl (by decide) v l.length C h1 ad l2.length c (ndRow l2 V2) (by simp [ndRow]) hcell (fun u hu => by
    obtain ⟨t, ht⟩ := List.getElem?_of_mem hu
    obtain ⟨ht1, rfl⟩ := ndRow_of ht
    refine ndVal_one _ _ ?_ _
    obtain ⟨a', c', e', _⟩ := RdV.sliced (hr (t / 9) (by omega))
    rw [e']
    rfl) (by unfold maxLen; omega) (by omega) hlo
  exact ⟨v', w', hrun, SG.manyV V V2 C (ndRow l2 V2) h1 h2 h3 (fun i j hi hj => ndRow_at l2 V2 i j hi hj) hr ho' hg hgg, hg, hgg⟩
theorem step_appN {L : Nat → Prop} {ops : Array Oper} {o : Oper} {a : Act} {K : Act → World → Prop} {Q : Exit → Act → World → Prop} {E : Prop} (w : World) (hgd : o.guard = none) (s x : Operand)
  (ho : o.op = .call { callee := .builtin .append, args := #[s, x], argTypes := #[53, 53] })
  (v : Value) (hs : a.eval s = v) (l l2 : List Nd) (lo c : Nat) (ao : Option Addr) (hx : a.eval x = .slice ao l2.length c) (V2 : Nat → Value)
  (hsrc : LiesN w ao c l2 V2) (hr : ∀ i, i < l2.length → RdV w (EntL w L v) (V2 i) (ensDt (l2[i]?.getD nd0).es))
  (hown : SG w lo L v l) (hlo : lo ≤ w.heap.size) (hl : l.length + l2.length ≤ 8000)
  (h : ∀ v' w', SG w' lo L v' (l ++ l2) → w.grownBy w' v.ownBlock → (v'.ownBlock = v.ownBlock ∨ v'.ownBlock = some w.heap.size) → K (a.put o.dst v') w') : if Region.wanted o (yielded ops a.tmps) = true then Oper.wp Tryz.prog o a w K Q else E := by
 have hw : Region.wanted o (yielded ops a.tmps) = true := by simp [Region.wanted, hgd]
 rw [if_pos hw]
 obtain ⟨v', w', hrun, hs', hg, hgg⟩ := run_appN w o.type v l l2 lo c ao V2 hsrc hr hown hlo hl
 unfold Oper.wp execOp
 simp only [ho, resolve, invoke, builtin, Sem.run_bind, Sem.run_pure, Result.andThen_ok, List.map_toArray, List.map_cons, List.map_nil, hs, hx, hrun]
 exact h v' w' hs' hg hgg
theorem wpList_appN {L : Nat → Prop} {ops : Array Oper} {rest : List Oper} {o : Oper} {a : Act} {Q : Exit → Act → World → Prop} (w : World) (hgd : o.guard = none) (s x : Operand)
  (ho : o.op = .call { callee := .builtin .append, args := #[s, x], argTypes := #[53, 53] })
  (v : Value) (hs : a.eval s = v) (l l2 : List Nd) (lo c : Nat) (ao : Option Addr) (hx : a.eval x = .slice ao l2.length c) (V2 : Nat → Value)
  (hsrc : LiesN w ao c l2 V2) (hr : ∀ i, i < l2.length → RdV w (EntL w L v) (V2 i) (ensDt (l2[i]?.getD nd0).es))
  (hown : SG w lo L v l) (hlo : lo ≤ w.heap.size) (hl : l.length + l2.length ≤ 8000)
  (h : ∀ v' w', SG w' lo L v' (l ++ l2) → w.grownBy w' v.ownBlock → (v'.ownBlock = v.ownBlock ∨ v'.ownBlock = some w.heap.size) → wpList Tryz.prog ops Q rest (a.put o.dst v') w') : wpList Tryz.prog ops Q (o :: rest) a w := by
 obtain ⟨v', w', hrun, hs', hg, hgg⟩ := run_appN w o.type v l l2 lo c ao V2 hsrc hr hown hlo hl
 refine wpList_plain hgd fun K hK => ?_
 unfold Oper.wp execOp
 simp only [ho, resolve, invoke, builtin, Sem.run_bind, Sem.run_pure, Result.andThen_ok, List.map_toArray, List.map_cons, List.map_nil, hs, hx, hrun]
 exact hK _ _ (h v' w' hs' hg hgg)
theorem getD_take {α : Type} (l : List α) (k i : Nat) (z : α) (hi : i < (l.take k).length) : (l.take k)[i]?.getD z = l[i]?.getD z := by
 rw [List.getElem?_take, if_pos (by rw [List.length_take] at hi; omega)]
theorem getD_drop {α : Type} (l : List α) (k i : Nat) (z : α) : (l.drop k)[i]?.getD z = l[k + i]?.getD z := by rw [List.getElem?_drop]
theorem sliceH_run (t : TypeId) (h : Tryz.prog.underlying t = some (.slice (Tryz.prog.elem t))) {s : Nat} (hs : ∀ W, (sizeOf (Tryz.prog.elem t)).run Tryz.prog W = .ok s W) (xa : Option Addr) (n c k : Nat) (hk : k ≤ c) (W : World) : (Instr.sliceAt t (.slice xa n c) none (some (.i (k : Int))) none).run Tryz.prog W = .ok (.slice xa k c) W := by
 rw [run_sliceAt_slice W t _ _ _ _ h, run_slice_h W t xa n c h .i64 (k : Int) (by omega) (by omega), hs]
 simp [Result.andThen, sliced]
 intro _
 cases xa with
 | none => rfl
 | some ad => obtain ⟨b, o, p⟩ := ad; cases p <;> simp [Addr.add]
theorem sliceL_run (t : TypeId) (h : Tryz.prog.underlying t = some (.slice (Tryz.prog.elem t))) {s : Nat} (hs : ∀ W, (sizeOf (Tryz.prog.elem t)).run Tryz.prog W = .ok s W) (xa : Option Addr) (n c k : Nat) (hk : k ≤ n) (W : World) : (Instr.sliceAt t (.slice xa n c) (some (.i (k : Int))) none none).run Tryz.prog W = .ok (.slice (if c = k then xa else xa.map (·.add (k * s))) (n - k) (c - k)) W := by
 rw [run_sliceAt_slice W t _ _ _ _ h, run_slice_l W t xa n c h .i64 (k : Int) (by omega) (by omega), hs]
 simp [Result.andThen, sliced]
theorem size_of_info {t : TypeId} {x : Option Value} {s b : Nat} (h : (Tryz.prog.info? t).map (fun i => (i.zero, i.size, i.bytes)) = some (x, s, b)) (W : World) : (sizeOf t).run Tryz.prog W = .ok s W := by
 cases hq : Tryz.prog.info? t with
 | none => rw [hq] at h; cases h
 | some i => rw [hq] at h; simp only [Option.map_some, Option.some.injEq, Prod.mk.injEq] at h; simp [sizeOf, typeInfo, hq, h.2.1]
theorem elemEn : Tryz.prog.underlying 27 = some (.slice (Tryz.prog.elem 27)) := by kernel_rfl
theorem elemNd : Tryz.prog.underlying 53 = some (.slice (Tryz.prog.elem 53)) := by kernel_rfl
theorem sizeEn (W : World) : (sizeOf (Tryz.prog.elem 27)).run Tryz.prog W = .ok 4 W := by
 rw [show Tryz.prog.elem 27 = 139 by kernel_rfl]; exact size_of_info Tryz.infoEn W
theorem sizeNd (W : World) : (sizeOf (Tryz.prog.elem 53)).run Tryz.prog W = .ok 9 W := by
 rw [show Tryz.prog.elem 53 = 133 by kernel_rfl]; exact size_of_info Tryz.infoNd W
theorem sliceHE (xa : Option Addr) (n c k : Nat) (hk : k ≤ c) (W : World) : (Instr.sliceAt 27 (.slice xa n c) none (some (.i (k : Int))) none).run Tryz.prog W = .ok (.slice xa k c) W := sliceH_run _ elemEn sizeEn xa n c k hk W
theorem sliceLE (xa : Option Addr) (n c k : Nat) (hk : k ≤ n) (W : World) : (Instr.sliceAt 27 (.slice xa n c) (some (.i (k : Int))) none none).run Tryz.prog W = .ok (.slice (if c = k then xa else xa.map (·.add (k * 4))) (n - k) (c - k)) W := sliceL_run _ elemEn sizeEn xa n c k hk W
theorem sliceHN (xa : Option Addr) (n c k : Nat) (hk : k ≤ c) (W : World) : (Instr.sliceAt 53 (.slice xa n c) none (some (.i (k : Int))) none).run Tryz.prog W = .ok (.slice xa k c) W := sliceH_run _ elemNd sizeNd xa n c k hk W
theorem sliceLN (xa : Option Addr) (n c k : Nat) (hk : k ≤ n) (W : World) : (Instr.sliceAt 53 (.slice xa n c) (some (.i (k : Int))) none none).run Tryz.prog W = .ok (.slice (if c = k then xa else xa.map (·.add (k * 9))) (n - k) (c - k)) W := sliceL_run _ elemNd sizeNd xa n c k hk W
theorem wpList_sl {ops : Array Oper} {rest : List Oper} {t t' : TypeId} {dst : Option Tmp} {x : Operand} {lo hi : Option Operand} {pos : String} {af : Array Edge} {a : Act} {Q : Exit → Act → World → Prop} {w : World} (v : Value)
  (hrun : (Instr.sliceAt t (a.eval x) (lo.map a.eval) (hi.map a.eval) none).run Tryz.prog w = .ok v w) (hK : wpList Tryz.prog ops Q rest (a.put dst v) w) : wpList Tryz.prog ops Q (⟨dst, .slice t x lo hi none, t', pos, af, none⟩ :: rest) a w := by
 refine wpList_plain rfl fun K' hK' => ?_
 unfold Oper.wp execOp
 simp only [Option.map_none, hrun, Sem.run_bind, Sem.run_pure, Result.andThen_ok]
 exact hK' _ _ hK
theorem RdV.lies {w : World} {S : Nat → Prop} {xa : Option Addr} {xc : Nat} {es : List En} (r : RdV w S (.slice xa es.length xc) (ensDt es)) :
  ∃ V : Nat → Value, (∀ i, i < es.length → RdV w S (V i) (.bytes (es[i]?.getD en0).nm)) ∧ ∀ k, k ≤ es.length → Lies w xa xc (es.take k) V ∧ Lies w (if xc = k then xa else xa.map (·.add (k * 4))) (xc - k) (es.drop k) (fun i => V (k + i)) := by
 unfold ensDt at r
 obtain ⟨a, cap, V, hv, hh, hc, he⟩ := r.inv
 simp only [Value.slice.injEq] at hv
 obtain ⟨rfl, -, rfl⟩ := hv
 refine ⟨fun i => V i 0, fun i hi => he i 0 hi (by omega), fun k hk => ?_⟩
 have hval : ∀ i j, i < es.length → j < 4 → V i j = enVal (es[i]?.getD en0) (V i 0) j := fun i j hi hj => by
  have := he i j hi hj
  match j, hj with
  | 0, _ => rfl
  | 1, _ => exact this
  | 2, _ => exact this
  | 3, _ => exact this
 cases xa with
 | none =>
  obtain ⟨h0, h1⟩ := hh.2.2 rfl
  have : es = [] := List.eq_nil_of_length_eq_zero h0
  subst this
  subst h1
  exact ⟨.inl ⟨rfl, by simp, rfl⟩, .inl ⟨by simp, by simp, by simp⟩⟩
 | some ad =>
  rcases hc with h0 | ⟨b, off, ha, h1, h2, hc⟩
  ·have : es = [] := List.eq_nil_of_length_eq_zero h0
   subst this
   refine ⟨.inr ⟨ad, rfl, fun t u ht => by simp [enRow] at ht⟩, .inr ?_⟩
   obtain ⟨ad2, e2⟩ : ∃ ad2, (if xc = k then some ad else Option.map (fun x => x.add (k * 4)) (some ad)) = some ad2 := by split <;> exact ⟨_, rfl⟩
   exact ⟨ad2, e2, fun t u ht => by simp [enRow] at ht⟩
  ·simp only [Option.some.injEq] at ha
   subst ha
   refine ⟨.inr ⟨_, rfl, fun t u ht => ?_⟩, .inr ?_⟩
   ·obtain ⟨ht1, rfl⟩ := enRow_of ht
    have hlt : t / 4 < (es.take k).length := by omega
    have hlt2 : t / 4 < es.length := by rw [List.length_take] at hlt; omega
    rw [add_plainT, getD_take _ _ _ _ hlt, ← hval _ _ hlt2 (by omega), ← hc (t / 4) (t % 4) hlt2 (by omega), show t / 4 * 4 + t % 4 = t by omega]
   ·by_cases hck : xc = k
    ·refine ⟨⟨b, off, none⟩, by rw [if_pos hck], fun t u ht => ?_⟩
     obtain ⟨ht1, rfl⟩ := enRow_of ht
     have := hh.1
     rw [List.length_drop] at ht1
     omega
    ·refine ⟨(Addr.mk b off none).add (k * 4), by rw [if_neg hck]; rfl, fun t u ht => ?_⟩
     obtain ⟨ht1, rfl⟩ := enRow_of ht
     rw [List.length_drop] at ht1
     have hlt2 : k + t / 4 < es.length := by omega
     rw [add_plainT, add_plainT, getD_drop, ← hval _ _ hlt2 (by omega), ← hc (k + t / 4) (t % 4) hlt2 (by omega), show off + k * 4 + t = off + ((k + t / 4) * 4 + t % 4) by omega]
theorem SG.lies {L : Nat → Prop} {w : World} {lo g c : Nat} {l : List Nd} (s : SG w lo L (.slice (some ⟨g, 0, none⟩) l.length c) l) :
  ∃ V : Nat → Value, (∀ i, i < l.length → RdV w (fun b => L b ∧ b < w.heap.size ∧ b ≠ g) (V i) (ensDt (l[i]?.getD nd0).es)) ∧ l.length ≤ c ∧ ∀ k, k ≤ l.length → LiesN w (some ⟨g, 0, none⟩) c (l.take k) V ∧ LiesN w (if c = k then some ⟨g, 0, none⟩ else (some (Addr.mk g 0 none)).map (·.add (k * 9))) (c - k) (l.drop k) (fun i => V (k + i)) := by
 obtain ⟨V, C, h1, h2, h3⟩ := s
 have hcap : l.length ≤ c := by
  rcases h1.2 with ⟨hv, h0⟩ | ⟨g', c', cur, hv, hg, hh, hnc, hm, _⟩
  ·cases hv
  ·simp only [Value.slice.injEq] at hv; obtain ⟨-, -, rfl⟩ := hv; exact hnc
 refine ⟨V, fun i hi => RdV.mono (fun b hb => ⟨hb.1, hb.2.1, fun e => hb.2.2 (by rw [e]; rfl)⟩) (h3 i hi), hcap, fun k hk => ⟨.inr ⟨_, rfl, fun t u ht => ?_⟩, .inr ?_⟩⟩
 ·obtain ⟨ht1, rfl⟩ := ndRow_of ht
  have hlt : t / 9 < (l.take k).length := by omega
  have hlt2 : t / 9 < l.length := by rw [List.length_take] at hlt; omega
  rw [add_plainT, getD_take _ _ _ _ hlt, ← h2 _ _ hlt2 (by omega), Nat.zero_add, show t / 9 * 9 + t % 9 = t by omega]
  exact World.ownsRow.cellAt h1 t (by omega)
 ·by_cases hck : c = k
  ·refine ⟨⟨g, 0, none⟩, by rw [if_pos hck], fun t u ht => ?_⟩
   obtain ⟨ht1, rfl⟩ := ndRow_of ht
   rw [List.length_drop] at ht1
   omega
  ·refine ⟨(Addr.mk g 0 none).add (k * 9), by rw [if_neg hck]; rfl, fun t u ht => ?_⟩
   obtain ⟨ht1, rfl⟩ := ndRow_of ht
   rw [List.length_drop] at ht1
   have hlt2 : k + t / 9 < l.length := by omega
   rw [add_plainT, add_plainT, getD_drop, ← h2 _ _ hlt2 (by omega), Nat.zero_add, show (k + t / 9) * 9 + t % 9 = k * 9 + t by omega]
   exact World.ownsRow.cellAt h1 _ (by omega)
theorem LiesN.step {w W : World} {ao : Option Addr} {c : Nat} {l2 : List Nd} {V2 : Nat → Value} (h : LiesN w ao c l2 V2) (hb : Below w.heap.size w W) : LiesN W ao c l2 V2 := by
 rcases h with h | ⟨ad, ha, hc⟩
 ·exact .inl h
 ·exact .inr ⟨ad, ha, fun t u ht => (hb.cell (p := ad.add t) (block_lt_of_cell (hc t u ht))).trans (hc t u ht)⟩
theorem SG.low {w : World} {lo lo' : Nat} {L : Nat → Prop} {v : Value} {l : List Nd} (s : SG w lo L v l) (h : lo' ≤ lo) : SG w lo' L v l := by
 obtain ⟨V, C, h1, h2, h3⟩ := s
 exact ⟨V, C, ⟨h1.1, h1.2.imp id (fun ⟨g, c, cur, hv, hg, r⟩ => ⟨g, c, cur, hv, Nat.le_trans h hg, r⟩)⟩, h2, h3⟩
theorem ndRow_one (n : Nd) (V : Nat → Value) : ndRow [n] V = [.i n.h.sh, .i n.h.ino, .bool n.h.dir, .i n.par.sh, .i n.par.ino, .bool n.par.dir, .i n.links, .i n.val, V 0] := by simp [ndRow, List.range, List.range.loop, ndVal]
end
section
def bsOf (s : ByteArray) : List Int := s.data.toList.map (fun b => (b.toNat : Int))
theorem bsOf_bytes (s : ByteArray) : isBytes (bsOf s) := fun j => by
 unfold bsOf
 rw [List.getElem?_map]
 cases h : s.data.toList[j]? with
 | none => simp
 | some b => have := b.toNat_lt; simp; omega
theorem bsOf_len (s : ByteArray) : (bsOf s).length = s.size := by unfold bsOf; rw [List.length_map, Array.length_toList]; rfl
theorem bytesWorld_below (W : World) (s : ByteArray) : Below W.heap.size W (Lib.bytesWorld W 5 s) :=
 ⟨rfl, rfl, rfl, by rw [Lib.bytesWorld_size]; omega, fun k hk => Lib.bytesWorld_at_old W _ s k hk⟩
theorem bytesWorld_rd (W : World) (s : ByteArray) (hm : s.size ≤ 100) : RdV (Lib.bytesWorld W 5 s) (fun b => b = W.heap.size) (.slice (some ⟨W.heap.size, 0, none⟩) s.size (grownCap W s.size 0 5)) (.bytes (bsOf s)) :=
 ⟨bsOf_bytes s, _, s.size, _, rfl, (bsOf_len s).symm, ⟨grownCap_ge _ _ _ _, grownCap_le_maxLen _ _ _ _ (by unfold maxLen; omega), fun e => by cases e⟩, .inr ⟨W.heap.size, 0, rfl, rfl, by rw [Lib.bytesWorld_size]; omega, fun i hi => by
  rw [bsOf_len] at hi
  rw [Nat.zero_add, Lib.bytesWorld_cell W _ s i hi]
  have hi' : i < s.data.toList.length := by rw [Array.length_toList]; exact hi
  unfold bsOf
  rw [List.getElem?_map, List.getElem?_eq_getElem hi']
  simp [List.getD, List.getElem?_eq_getElem hi']⟩⟩
set_option maxHeartbeats 2000000 in
theorem draws4_any (pb : Nat) (w : World) (h : CurAt w pb) :
  Calls Tryz.prog 167 #[.pointer (some ⟨pb, 0, none⟩)] w fun e w' => ∃ a n c zs, e = .returned (.slice a n c) ∧ RdV w' (fun b => w.heap.size ≤ b ∧ b < w'.heap.size) (.slice a n c) (.bytes zs) ∧ zs.length ≤ 2 ∧ CurAt w' pb ∧ w.grownBy w' (some pb) := by
 have hpb := h.lt
 have hcv : ∀ s W, (convert 9 22 (.string s)).run Tryz.prog W = .ok (.slice (some ⟨W.heap.size, 0, none⟩) s.size (grownCap W s.size 0 5)) (Lib.bytesWorld W 5 s) := fun s W => Lib.run_convert_string_bytes W _ _ _ s Tryz.underlying9 Tryz.underlying22 Tryz.underlying5
 have HCV : Hid _ := hcv
 clear hcv
 go_enter Tryz.func167, Tryz.ntmps167
 go_wp2_with fail
 refine (below_any pb 6 _ (h.alloc _) (by omega) (by omega)).mono ?_
 rintro e w1 ⟨x, rfl, hx0, hx1, hc1, hg1⟩
 have hV : VarA w1 w.heap.size 9 _ := (hg1.block w.heap.size (by simp) (fun e => by have e2 : w.heap.size = pb := (by simpa using e); omega)).trans (heap_alloc_new w _)
 have v0 := hV.c 0 rfl
 have v1 := hV.c 1 rfl
 have v2 := hV.c 2 rfl
 have v3 := hV.c 3 rfl
 have v4 := hV.c 4 rfl
 have v5 := hV.c 5 rfl
 have HC1 : Hid (CurAt w1 pb) := hc1
 have HG1 : Hid _ := hg1
 have z1 := hg1.size
 rw [World.size_alloc] at z1
 have HFIN : Hid (∀ s : ByteArray, s.size ≤ 2 → ∃ a n c zs, Ending.returned (.slice (some ⟨w1.heap.size, 0, none⟩) s.size (grownCap w1 s.size 0 5)) = Ending.returned (.slice a n c) ∧ RdV (Lib.bytesWorld w1 5 s) (fun b => w.heap.size ≤ b ∧ b < (Lib.bytesWorld w1 5 s).heap.size) (.slice a n c) (.bytes zs) ∧ zs.length ≤ 2 ∧ CurAt (Lib.bytesWorld w1 5 s) pb ∧ w.grownBy (Lib.bytesWorld w1 5 s) (some pb)) := fun s hs =>
  ⟨_, _, _, bsOf s, rfl, RdV.mono (fun b hb => ⟨by omega, by rw [Lib.bytesWorld_size]; omega⟩) (bytesWorld_rd w1 s (by omega)), by rw [bsOf_len]; exact hs, hc1.below (bytesWorld_below w1 s), grown_trans (grown_trans (World.grownBy_alloc w _ _) hg1) (grown_below (bytesWorld_below w1 s))⟩
 clear hV hg1 hc1 h
 have hx : x = 0 ∨ x = 1 ∨ x = 2 ∨ x = 3 ∨ x = 4 ∨ x = 5 := by omega
 rcases hx with rfl | rfl | rfl | rfl | rfl | rfl
 ·have hcv := HCV.out ⟨#[97]⟩ w1
  go_wp2
  go_ret
  exact HFIN.out ⟨#[97]⟩ (by decide)
 ·have hcv := HCV.out ⟨#[98]⟩ w1
  go_wp2
  go_ret
  exact HFIN.out ⟨#[98]⟩ (by decide)
 ·have hcv := HCV.out ⟨#[99]⟩ w1
  go_wp2
  go_ret
  exact HFIN.out ⟨#[99]⟩ (by decide)
 ·have hcv := HCV.out ⟨#[100]⟩ w1
  go_wp2
  go_ret
  exact HFIN.out ⟨#[100]⟩ (by decide)
 ·have hcv := HCV.out ⟨#[97, 98]⟩ w1
  go_wp2
  go_ret
  exact HFIN.out ⟨#[97, 98]⟩ (by decide)
 ·have hcv := HCV.out ⟨#[122, 122]⟩ w1
  go_wp2
  go_ret
  exact HFIN.out ⟨#[122, 122]⟩ (by decide)
end
section
theorem guardSlice {ops : Array Oper} {rest : List Oper} {t t' : TypeId} {dst : Option Tmp} {x : Operand} {lo hi : Option Operand} {pos : String} {af : Array Edge} {a : Act} {Q : Exit → Act → World → Prop} {w : World}
  (h : wpList Tryz.prog ops Q (⟨dst, .slice t x lo hi none, t', pos, af, none⟩ :: rest) a w) : wpList Tryz.prog ops Q (⟨dst, .slice t x lo hi none, t', pos, af, none⟩ :: rest) a w := h
theorem enRow_one (e : En) (V : Nat → Value) : enRow [e] V = [V 0, .i e.h.sh, .i e.h.ino, .bool e.h.dir] := by simp [enRow, List.range, List.range.loop, enVal]
def pl (es : List En) (nm : List Int) : Nat := es.findIdx (fun e => geS e.nm nm)
theorem pl_at (es : List En) (nm : List Int) (k : Nat) (hk : k ≤ es.length) (h1 : ∀ i, i < k → geS (es[i]?.getD en0).nm nm = false) (h2 : k < es.length → geS (es[k]?.getD en0).nm nm = true) : pl es nm = k := by
 unfold pl
 by_cases hlt : k < es.length
 ·rw [List.findIdx_eq hlt]
  refine ⟨by simpa [hlt] using h2 hlt, fun j hj => ?_⟩
  have := h1 j hj
  have hj' : j < es.length := by omega
  simpa [hj'] using this
 ·have he : k = es.length := by omega
  rw [List.findIdx_eq_length.2, he]
  intro x hx
  obtain ⟨i, hi, rfl⟩ := List.getElem_of_mem hx
  have := h1 i (by omega)
  simpa [hi] using this
def addE (es : List En) (nm : List Int) (h : Hd) : List En := es.take (pl es nm) ++ [⟨nm, h⟩] ++ es.drop (pl es nm)

set_option maxHeartbeats 4000000 in
theorem specAdd_any (g o : Nat) (xa : Option Addr) (xc : Nat) (y : Value) (es : List En) (nm : List Int) (h : Hd) (S S2 : Nat → Prop) (w : World) (c8 : w.cell? ⟨g, o + 8, none⟩ = some (.slice xa es.length xc)) (hfz : w.frozen? ⟨g, o + 8, none⟩ = false) (r : RdV w S (.slice xa es.length xc) (ensDt es)) (hS : ∀ b, S b → b < w.heap.size) (r2 : RdV w S2 y (.bytes nm)) (hn : es.length ≤ 4000) (hnm : nm.length ≤ 2097152) :
  Calls Tryz.prog 192 #[.pointer (some ⟨g, o, none⟩), y, h.v] w fun e w' => e = .returned (.tuple #[]) ∧ ∃ W x, w' = W.setCell ⟨g, o + 8, none⟩ x ∧ Below w.heap.size w W ∧ RdV W (fun b => (S b ∨ w.heap.size ≤ b) ∧ b < W.heap.size) x (ensDt (addE es nm h)) := by
 obtain ⟨ya, yc, rfl⟩ := r2.sliceB
 obtain ⟨p, q, d⟩ := h
 have hgl : g < w.heap.size := block_lt_of_cell (a := ⟨g, o + 8, none⟩) c8
 have hcap : es.length ≤ xc := by obtain ⟨a', cap', V', hv', hh', _⟩ := RdV.inv r; simp only [Value.slice.injEq] at hv'; obtain ⟨-, -, rfl⟩ := hv'; exact hh'.1
 have HR : Hid (∀ W, Below w.heap.size w W → RdV W S (.slice xa es.length xc) (.rows 139 4 es.length (fun i j => enCell (es[i]?.getD en0) j))) := RdV.old r
 have HY : Hid (∀ W, Below w.heap.size w W → RdV W S2 (.slice ya nm.length yc) (.bytes nm)) := fun W hW => r2.step hW
 have HZ : Hid (isBytes nm) := r2.b.1
 have HRB : Hid (∀ W, Below w.heap.size w W → Reads W ya nm ∧ Headed ya nm.length yc) := fun W hW => by
  obtain ⟨a', cap', he, hh, hr⟩ := (r2.step hW).b.reads
  simp only [Value.slice.injEq, true_and] at he
  obtain ⟨rfl, rfl⟩ := he
  exact ⟨hr, hh⟩
 have HC8 : Hid (∀ W, Below w.heap.size w W → W.cell? ⟨g, o + 8, none⟩ = some (.slice xa es.length xc)) := fun W hW => (hW.cell (p := ⟨g, o + 8, none⟩) hgl).trans c8
 have HFZ : Hid (∀ W, Below w.heap.size w W → W.frozen? ⟨g, o + 8, none⟩ = false) := fun W hW => (hW.frozen (p := ⟨g, o + 8, none⟩) hgl).trans hfz
 have HS : Hid (∀ b, S b → b < w.heap.size) := hS
 clear r r2 c8 hfz hS
 go_enter Tryz.func192, Tryz.ntmps192
 go_wp2
 go_loopw [6] (fun i wr => ∃ k : Nat, k ≤ es.length ∧ i = .i k ∧ Below w.heap.size w wr ∧ VarA wr w.heap.size 24 #[.i p, .i q, .bool d] ∧ Hid (∀ i, i < k → geS (es[i]?.getD en0).nm nm = false)) (fun i _ => es.length - (intOf i).toNat)
 case atStart => exact ⟨0, Nat.zero_le _, rfl, Below.newH _, VarA.new w _ _, fun i hi => absurd hi (Nat.not_lt_zero _)⟩
 case round =>
  obtain ⟨k, hk, rfl, bw, vH, HA⟩ := hrel
  have c8 := HC8.out _ bw
  have hgw : g < wr.heap.size := Nat.lt_of_lt_of_le hgl bw.size
  haveI : Nonempty (Cls wr) := Cls.ne wr
  have kc8 := Cls.cell hgw c8
  by_cases hlt : k < es.length
  ·have hlt9 : (k : Int) < (es.length : Int) := by omega
   obtain ⟨b, off, rfl, hbl, _, hx⟩ := RdV.at (HR.out wr bw) hlt
   obtain ⟨x0, c1, r0⟩ := hx 0 (by omega)
   simp only [Nat.add_zero] at c1
   have kc1 := Cls.cell hbl c1
   obtain ⟨e, he⟩ : ∃ e, es[k]?.getD en0 = e := ⟨_, rfl⟩
   rw [he] at r0
   have HE : Hid _ := he
   clear hx he
   obtain ⟨nm1, hh⟩ := e
   have RB : RdV wr S x0 (.bytes nm1) := r0
   have hcv : ∀ i : Cls wr, (convert 22 9 x0).run Tryz.prog i.W = .ok (.string (strOfNums nm1)) i.W := fun i => conv_d _ nm1 S _ (RdV.step RB i.h)
   have hcy : ∀ i : Cls wr, (convert 22 9 (.slice ya nm.length yc)).run Tryz.prog i.W = .ok (.string (strOfNums nm)) i.W := fun i => conv_d _ nm S2 _ (HY.out _ (bw.trans (i.h.mono bw.size)))
   obtain ⟨xa, xc', rfl⟩ := RdV.sliceB RB
   have hgs : geS nm1 nm = !Op.bytesLess (strOfNums nm1).toList (strOfNums nm).toList := rfl
   generalize nm1.length = xn at *
   generalize strOfNums nm1 = s1 at *
   generalize strOfNums nm = s2 at *
   clear r0 RB
   by_cases hge : Op.bytesLess s1.toList s2.toList = true
   ·have HF : Hid (∀ i, i < k + 1 → geS (es[i]?.getD en0).nm nm = false) := fun i hi => by
     by_cases h1 : i < k
     ·exact HA.out i h1
     ·obtain rfl : i = k := by omega
      rw [HE.out]; rw [hgs, hge]; rfl
    go_wp2
    refine wp_region_cls (by kernel_rfl) (by kernel_rfl) ?_
    repeat (go_big_quiet_step (fail))
    refine wpQuiet_nil ?_
    rintro w' ⟨⟨w', hb'⟩, rfl⟩
    have vH' := vH.step hb'
    have hb3 := bw.trans (hb'.mono bw.size)
    go_wp2
    go_roundw
    case rel => exact ⟨k + 1, by omega, by go_num, hb3, vH', HF.out⟩
    case measure => simp [intOf]; omega
   ·have hg2 : Op.bytesLess s1.toList s2.toList = false := by simpa using hge
    have HP : Hid (pl es nm = k) := pl_at es nm k hk HA.out (fun _ => by rw [HE.out]; rw [hgs, hg2]; rfl)
    go_wp2
    refine wp_region_cls (by kernel_rfl) (by kernel_rfl) ?_
    repeat (go_big_quiet_step (fail))
    refine wpQuiet_nil ?_
    rintro w' ⟨⟨w', hb'⟩, rfl⟩
    have B1 : Below w.heap.size w w' := bw.trans (hb'.mono bw.size)
    have V1 : VarA w' w.heap.size 24 #[.i p, .i q, .bool d] := vH.step hb'
    have s1 := B1.size
    have hvl := V1.lt
    have c81 := HC8.out _ B1
    obtain ⟨VV, hV1, hV2⟩ := RdV.lies (HR.out _ B1)
    have hL := (hV2 k hk).1
    have hkc : k ≤ xc := Nat.le_trans hk hcap
    have htl : (es.take k).length = k := by rw [List.length_take]; omega
    have hr1 : ∀ i, i < (es.take k).length → RdV w' (Nm w' (fun b => S b ∨ w.heap.size ≤ b) (.slice none 0 0)) (VV i) (.bytes ((es.take k)[i]?.getD en0).nm) := fun i hi => by
     rw [getD_take _ _ _ _ hi]
     exact RdV.mono (fun b hb => ⟨.inl hb, Nat.lt_of_lt_of_le (HS.out b hb) s1, fun e => by cases e⟩) (hV1 i (by rw [List.length_take] at hi; omega))
    have H1 : Hid _ := hr1
    have H2 : Hid _ := hL
    have HB1 : Hid (Below w.heap.size w w') := B1
    have HV1 : Hid (VarA w' w.heap.size 24 #[.i p, .i q, .bool d]) := V1
    clear hr1 hL hV1 hV2 B1 V1 vH bw hb'
    go_wp2_with (first | ((with_reducible refine guardSlice ?_); refine wpList_sl _ (sliceHE _ _ _ k hkc _) ?_) | (at_builtin; go_must (refine wpList_appE _ rfl (.tmp 31) (.tmp 37) rfl (.slice none 0 0) rfl [] (es.take k) (w.heap.size + 1) _ _ (fun b => S b ∨ w.heap.size ≤ b) (by rw [htl]; rfl) VV H2.out H1.out (SE.nil _ _ _) (by omega) (by rw [htl]; simp; omega) ?_; intro v5 w5 se5 hg5 hgg5)))
    rw [List.nil_append] at se5
    obtain ⟨a5, c5, rfl⟩ := se5.shapeN htl
    have B5 : Below w.heap.size w w5 := Below.grown HB1.out hg5 s1 (fun q hq => by cases hq)
    have V5 : VarA w5 w.heap.size 24 #[.i p, .i q, .bool d] := (hg5.block _ hvl (fun e => by cases e)).trans HV1.out
    have s5 := B5.size
    have hvl5 := V5.lt
    have hb5 := se5.lt
    have HSE5 : Hid _ := se5
    have HB5 : Hid (Below w.heap.size w w5) := B5
    have HV5 : Hid (VarA w5 w.heap.size 24 #[.i p, .i q, .bool d]) := V5
    clear H1 H2 HB1 HV1 c81 hgg5 hg5 se5 B5 V5
    go_wp2
    refine wp_region_noPanic ?_
    refine wp_region_held_drew (S := fun W => W.cell? ⟨w.heap.size, 0, none⟩ = some (.i p) ∧ W.cell? ⟨w.heap.size, 1, none⟩ = some (.i q) ∧ W.cell? ⟨w.heap.size, 2, none⟩ = some (.bool d)) (by kernel_rfl) (HV5.out.dr.l3) (fun hHeld => ?_)
    refine tkh 0 ?_ rfl (by kernel_rfl) rfl (by assumption) ?_ ?_
    rotate_left
    ·(intro _ h; (try dsimp only at h); go_simp; try with_reducible rfl)
    try simp only [Act.put, qz1, qz2, qz3, qz4, qz5, qz6]
    refine tkh 2 ?_ rfl (by kernel_rfl) rfl (by assumption) ?_ ?_
    rotate_left
    ·(intro _ h; (try dsimp only at h); go_simp; try with_reducible rfl)
    try simp only [Act.put, qz1, qz2, qz3, qz4, qz5, qz6]
    refine tkh 4 ?_ rfl (by kernel_rfl) rfl (by assumption) ?_ ?_
    rotate_left
    ·(intro _ h; (try dsimp only at h); go_simp; try with_reducible rfl)
    try simp only [Act.put, qz1, qz2, qz3, qz4, qz5, qz6]
    refine doH 1 (by kernel_rfl) rfl fun K hK => ?_
    go_simp
    have b6 : Below w5.heap.size w5 (w5.drew.alloc (.cells #[] 5)) := Below.alloc (Below.drew (Below.refl w5.heap.size w5)) (Nat.le_refl _) _
    refine hK.out _ _ (HV5.out.step b6).l3 (fun hHeld => ?_)
    clear hK K
    try simp only [Act.put, qz1, qz2, qz3, qz4, qz5, qz6]
    refine doH 3 (by kernel_rfl) rfl fun K hK => ?_
    have hry := HRB.out _ (HB5.out.trans (b6.mono s5))
    refine step_appS rfl (.tmp 40) (.tmp 41) (by rfl) w5.heap.size _ [] nm (by rfl) (owns_empty w5.drew) ya nm.length yc (by rfl) rfl hry.1 (by simp) (by omega) (by simp) (fun h => hry.2.2.2 h) ?_
    intro v6 w6 ho6 hg6
    rw [List.nil_append] at ho6
    obtain ⟨ua, uc, rfl, _⟩ := ho6.shape
    have b7 : Below w5.heap.size w5 w6 := Below.grown b6 hg6 (by simp) (fun q hq => ((owns_empty w5.drew).lt q hq).1)
    have s7 := b7.size
    refine hK.out _ _ (HV5.out.step b7).l3 (fun hHeld => ?_)
    clear hK K
    try simp only [Act.put, qz1, qz2, qz3, qz4, qz5, qz6]
    refine tkh 5 ?_ rfl (by kernel_rfl) rfl (by assumption) ?_ ?_
    rotate_left
    ·(intro _ h; (try dsimp only at h); go_simp; try with_reducible rfl)
    try simp only [Act.put, qz1, qz2, qz3, qz4, qz5, qz6]
    refine doH 6 (by kernel_rfl) rfl fun K hK => ?_
    go_simp
    have b8 : Below w5.heap.size w5 (w6.alloc (.cells #[.slice ua nm.length uc, .i p, .i q, .bool d] 139)) := Below.alloc b7 s7 _
    refine hK.out _ _ (HV5.out.step b8).l3 (fun hHeld => ?_)
    clear hK K
    try simp only [Act.put, qz1, qz2, qz3, qz4, qz5, qz6]
    refine doH 7 (by kernel_rfl) rfl fun K hK => ?_
    refine step_appE (w6.alloc (.cells #[.slice ua nm.length uc, .i p, .i q, .bool d] 139)) rfl (.tmp 39) (.tmp 45) (by rfl) _ (by rfl) (es.take k) [⟨nm, (p, q, d)⟩] (w.heap.size + 1) 1 (some ⟨w6.heap.size, 0, none⟩) (fun b => S b ∨ w.heap.size ≤ b) (by rfl) (fun _ => .slice ua nm.length uc) (.inr ⟨_, rfl, fun t u ht => World.news_of_block (heap_alloc_new _ _) t u (by rw [enRow_one] at ht; exact ht)⟩) ?_ (SE.step HSE5.out b8) (by simp; omega) (by rw [htl]; simp; omega) ?_
    ·intro i hi
     obtain rfl : i = 0 := by simpa using hi
     refine RdV.mono (fun b hb => ⟨.inr (by omega), by simp; omega, fun e => by have := hb5 b e; omega⟩) (RdV.step (OwV.rd (OwV.ofOwns HZ.out ho6)) (Below.newH _))
    intro v9 w9 se9 hg9 hgg9
    have V9 : VarA w9 w.heap.size 24 _ := (hg9.block _ (by simp; omega) (fun e => by have := hb5 _ e.symm; omega)).trans (HV5.out.step b8)
    have B9 : Below w.heap.size w w9 := Below.grown (HB5.out.trans (b8.mono s5)) hg9 (by simp; omega) (fun q hq => by have := hb5 q hq; omega)
    refine hK.out _ _ V9.l3 (fun hHeld => ?_)
    clear hK K
    try simp only [Act.put, qz1, qz2, qz3, qz4, qz5, qz6]
    refine tkh 8 ?_ rfl (by kernel_rfl) rfl (by assumption) ?_ ?_
    rotate_left
    ·(intro _ h; (try dsimp only at h); go_simp; try with_reducible rfl)
    try simp only [Act.put, qz1, qz2, qz3, qz4, qz5, qz6]
    refine wpAnyH_done (by kernel_rfl) (NoPanic.normal ?_) _
    clear hHeld
    have hlen9 : (es.take k ++ [(⟨nm, (p, q, d)⟩ : En)]).length = k + 1 := by rw [List.length_append, htl]; rfl
    obtain ⟨a9, c9, rfl⟩ := se9.shapeN hlen9
    have hb9 := se9.lt
    have s9 := B9.size
    have hvl9 := V9.lt
    obtain ⟨VV, hV1, hV2⟩ := RdV.lies (HR.out _ B9)
    have hL := (hV2 k hk).2
    have hdl : (es.drop k).length = es.length - k := List.length_drop
    have hr1 : ∀ i, i < (es.drop k).length → RdV w9 (Nm w9 (fun b => S b ∨ w.heap.size ≤ b) (.slice a9 (k + 1) c9)) (VV (k + i)) (.bytes ((es.drop k)[i]?.getD en0).nm) := fun i hi => by
     rw [getD_drop]
     exact RdV.mono (fun b hb => ⟨.inl hb, Nat.lt_of_lt_of_le (HS.out b hb) s9, fun e => by have := hb9 b e; have := HS.out b hb; omega⟩) (hV1 (k + i) (by omega))
    have H1 : Hid _ := hr1
    have H2 : Hid _ := hL
    have HB9 : Hid (Below w.heap.size w w9) := B9
    have HSE9 : Hid _ := se9
    have c89 := HC8.out _ B9
    clear hr1 hL hV1 hV2 B9 V9 se9 hg9 hgg9 b6 b7 b8 ho6 hg6 hry
    go_wp2_with (first | ((with_reducible refine guardSlice ?_); refine wpList_sl _ (sliceLE _ _ _ k hk _) ?_) | (at_builtin; go_must (refine wpList_appE _ rfl (.tmp 48) (.tmp 54) rfl _ rfl _ (es.drop k) (w.heap.size + 1) _ _ (fun b => S b ∨ w.heap.size ≤ b) (by rw [hdl]; rfl) (fun i => VV (k + i)) H2.out H1.out HSE9.out (by omega) (by rw [hlen9, hdl]; omega) ?_; intro v10 w10 se10 hg10 hgg10; obtain ⟨n10, hn10⟩ : ∃ n, (es.take k ++ [(⟨nm, (p, q, d)⟩ : En)] ++ es.drop k).length = n := ⟨_, rfl⟩; obtain ⟨a10, c10, rfl⟩ := se10.shapeN hn10; clear hn10; have B10 : Below w.heap.size w w10 := Below.grown HB9.out hg10 s9 (fun q hq => by have := hb9 q hq; omega); have fz := HFZ.out _ B10; have c810 := HC8.out _ B10)))
    all_goals (have HSE10 : Hid (SE w10 (w.heap.size + 1) _ _ _) := se10; have HB10 : Hid (Below w.heap.size w w10) := B10; clear H1 H2 HB9 HSE9 hgg10 hg10 se10 B10; go_end0; refine ⟨rfl, w10, _, rfl, HB10.out, ?_⟩; unfold addE; rw [HP.out]; exact RdV.mono (fun b hb => ⟨hb.1.elim id (fun h => .inr (by omega)), hb.2⟩) (SE.rd HSE10.out))
  ·have HP : Hid (pl es nm = k) := pl_at es nm k hk HA.out (fun h => absurd h hlt)
   have hlt9 : ¬ (k : Int) < (es.length : Int) := by omega
   go_wp2
   refine wp_region_cls (by kernel_rfl) (by kernel_rfl) ?_
   repeat (go_big_quiet_step (fail))
   refine wpQuiet_nil ?_
   rintro w' ⟨⟨w', hb'⟩, rfl⟩
   have B1 : Below w.heap.size w w' := bw.trans (hb'.mono bw.size)
   have V1 : VarA w' w.heap.size 24 #[.i p, .i q, .bool d] := vH.step hb'
   have s1 := B1.size
   have hvl := V1.lt
   have c81 := HC8.out _ B1
   obtain ⟨VV, hV1, hV2⟩ := RdV.lies (HR.out _ B1)
   have hL := (hV2 k hk).1
   have hkc : k ≤ xc := Nat.le_trans hk hcap
   have htl : (es.take k).length = k := by rw [List.length_take]; omega
   have hr1 : ∀ i, i < (es.take k).length → RdV w' (Nm w' (fun b => S b ∨ w.heap.size ≤ b) (.slice none 0 0)) (VV i) (.bytes ((es.take k)[i]?.getD en0).nm) := fun i hi => by
    rw [getD_take _ _ _ _ hi]
    exact RdV.mono (fun b hb => ⟨.inl hb, Nat.lt_of_lt_of_le (HS.out b hb) s1, fun e => by cases e⟩) (hV1 i (by rw [List.length_take] at hi; omega))
   have H1 : Hid _ := hr1
   have H2 : Hid _ := hL
   have HB1 : Hid (Below w.heap.size w w') := B1
   have HV1 : Hid (VarA w' w.heap.size 24 #[.i p, .i q, .bool d]) := V1
   clear hr1 hL hV1 hV2 B1 V1 vH bw hb'
   go_wp2_with (first | ((with_reducible refine guardSlice ?_); refine wpList_sl _ (sliceHE _ _ _ k hkc _) ?_) | (at_builtin; go_must (refine wpList_appE _ rfl (.tmp 31) (.tmp 37) rfl (.slice none 0 0) rfl [] (es.take k) (w.heap.size + 1) _ _ (fun b => S b ∨ w.heap.size ≤ b) (by rw [htl]; rfl) VV H2.out H1.out (SE.nil _ _ _) (by omega) (by rw [htl]; simp; omega) ?_; intro v5 w5 se5 hg5 hgg5)))
   rw [List.nil_append] at se5
   obtain ⟨a5, c5, rfl⟩ := se5.shapeN htl
   have B5 : Below w.heap.size w w5 := Below.grown HB1.out hg5 s1 (fun q hq => by cases hq)
   have V5 : VarA w5 w.heap.size 24 #[.i p, .i q, .bool d] := (hg5.block _ hvl (fun e => by cases e)).trans HV1.out
   have s5 := B5.size
   have hvl5 := V5.lt
   have hb5 := se5.lt
   have HSE5 : Hid _ := se5
   have HB5 : Hid (Below w.heap.size w w5) := B5
   have HV5 : Hid (VarA w5 w.heap.size 24 #[.i p, .i q, .bool d]) := V5
   clear H1 H2 HB1 HV1 c81 hgg5 hg5 se5 B5 V5
   go_wp2
   refine wp_region_noPanic ?_
   refine wp_region_held_drew (S := fun W => W.cell? ⟨w.heap.size, 0, none⟩ = some (.i p) ∧ W.cell? ⟨w.heap.size, 1, none⟩ = some (.i q) ∧ W.cell? ⟨w.heap.size, 2, none⟩ = some (.bool d)) (by kernel_rfl) (HV5.out.dr.l3) (fun hHeld => ?_)
   refine tkh 0 ?_ rfl (by kernel_rfl) rfl (by assumption) ?_ ?_
   rotate_left
   ·(intro _ h; (try dsimp only at h); go_simp; try with_reducible rfl)
   try simp only [Act.put, qz1, qz2, qz3, qz4, qz5, qz6]
   refine tkh 2 ?_ rfl (by kernel_rfl) rfl (by assumption) ?_ ?_
   rotate_left
   ·(intro _ h; (try dsimp only at h); go_simp; try with_reducible rfl)
   try simp only [Act.put, qz1, qz2, qz3, qz4, qz5, qz6]
   refine tkh 4 ?_ rfl (by kernel_rfl) rfl (by assumption) ?_ ?_
   rotate_left
   ·(intro _ h; (try dsimp only at h); go_simp; try with_reducible rfl)
   try simp only [Act.put, qz1, qz2, qz3, qz4, qz5, qz6]
   refine doH 1 (by kernel_rfl) rfl fun K hK => ?_
   go_simp
   have b6 : Below w5.heap.size w5 (w5.drew.alloc (.cells #[] 5)) := Below.alloc (Below.drew (Below.refl w5.heap.size w5)) (Nat.le_refl _) _
   refine hK.out _ _ (HV5.out.step b6).l3 (fun hHeld => ?_)
   clear hK K
   try simp only [Act.put, qz1, qz2, qz3, qz4, qz5, qz6]
   refine doH 3 (by kernel_rfl) rfl fun K hK => ?_
   have hry := HRB.out _ (HB5.out.trans (b6.mono s5))
   refine step_appS rfl (.tmp 40) (.tmp 41) (by rfl) w5.heap.size _ [] nm (by rfl) (owns_empty w5.drew) ya nm.length yc (by rfl) rfl hry.1 (by simp) (by omega) (by simp) (fun h => hry.2.2.2 h) ?_
   intro v6 w6 ho6 hg6
   rw [List.nil_append] at ho6
   obtain ⟨ua, uc, rfl, _⟩ := ho6.shape
   have b7 : Below w5.heap.size w5 w6 := Below.grown b6 hg6 (by simp) (fun q hq => ((owns_empty w5.drew).lt q hq).1)
   have s7 := b7.size
   refine hK.out _ _ (HV5.out.step b7).l3 (fun hHeld => ?_)
   clear hK K
   try simp only [Act.put, qz1, qz2, qz3, qz4, qz5, qz6]
   refine tkh 5 ?_ rfl (by kernel_rfl) rfl (by assumption) ?_ ?_
   rotate_left
   ·(intro _ h; (try dsimp only at h); go_simp; try with_reducible rfl)
   try simp only [Act.put, qz1, qz2, qz3, qz4, qz5, qz6]
   refine doH 6 (by kernel_rfl) rfl fun K hK => ?_
   go_simp
   have b8 : Below w5.heap.size w5 (w6.alloc (.cells #[.slice ua nm.length uc, .i p, .i q, .bool d] 139)) := Below.alloc b7 s7 _
   refine hK.out _ _ (HV5.out.step b8).l3 (fun hHeld => ?_)
   clear hK K
   try simp only [Act.put, qz1, qz2, qz3, qz4, qz5, qz6]
   refine doH 7 (by kernel_rfl) rfl fun K hK => ?_
   refine step_appE (w6.alloc (.cells #[.slice ua nm.length uc, .i p, .i q, .bool d] 139)) rfl (.tmp 39) (.tmp 45) (by rfl) _ (by rfl) (es.take k) [⟨nm, (p, q, d)⟩] (w.heap.size + 1) 1 (some ⟨w6.heap.size, 0, none⟩) (fun b => S b ∨ w.heap.size ≤ b) (by rfl) (fun _ => .slice ua nm.length uc) (.inr ⟨_, rfl, fun t u ht => World.news_of_block (heap_alloc_new _ _) t u (by rw [enRow_one] at ht; exact ht)⟩) ?_ (SE.step HSE5.out b8) (by simp; omega) (by rw [htl]; simp; omega) ?_
   ·intro i hi
    obtain rfl : i = 0 := by simpa using hi
    refine RdV.mono (fun b hb => ⟨.inr (by omega), by simp; omega, fun e => by have := hb5 b e; omega⟩) (RdV.step (OwV.rd (OwV.ofOwns HZ.out ho6)) (Below.newH _))
   intro v9 w9 se9 hg9 hgg9
   have V9 : VarA w9 w.heap.size 24 _ := (hg9.block _ (by simp; omega) (fun e => by have := hb5 _ e.symm; omega)).trans (HV5.out.step b8)
   have B9 : Below w.heap.size w w9 := Below.grown (HB5.out.trans (b8.mono s5)) hg9 (by simp; omega) (fun q hq => by have := hb5 q hq; omega)
   refine hK.out _ _ V9.l3 (fun hHeld => ?_)
   clear hK K
   try simp only [Act.put, qz1, qz2, qz3, qz4, qz5, qz6]
   refine tkh 8 ?_ rfl (by kernel_rfl) rfl (by assumption) ?_ ?_
   rotate_left
   ·(intro _ h; (try dsimp only at h); go_simp; try with_reducible rfl)
   try simp only [Act.put, qz1, qz2, qz3, qz4, qz5, qz6]
   refine wpAnyH_done (by kernel_rfl) (NoPanic.normal ?_) _
   clear hHeld
   have hlen9 : (es.take k ++ [(⟨nm, (p, q, d)⟩ : En)]).length = k + 1 := by rw [List.length_append, htl]; rfl
   obtain ⟨a9, c9, rfl⟩ := se9.shapeN hlen9
   have hb9 := se9.lt
   have s9 := B9.size
   have hvl9 := V9.lt
   obtain ⟨VV, hV1, hV2⟩ := RdV.lies (HR.out _ B9)
   have hL := (hV2 k hk).2
   have hdl : (es.drop k).length = es.length - k := List.length_drop
   have hr1 : ∀ i, i < (es.drop k).length → RdV w9 (Nm w9 (fun b => S b ∨ w.heap.size ≤ b) (.slice a9 (k + 1) c9)) (VV (k + i)) (.bytes ((es.drop k)[i]?.getD en0).nm) := fun i hi => by
    rw [getD_drop]
    exact RdV.mono (fun b hb => ⟨.inl hb, Nat.lt_of_lt_of_le (HS.out b hb) s9, fun e => by have := hb9 b e; have := HS.out b hb; omega⟩) (hV1 (k + i) (by omega))
   have H1 : Hid _ := hr1
   have H2 : Hid _ := hL
   have HB9 : Hid (Below w.heap.size w w9) := B9
   have HSE9 : Hid _ := se9
   have c89 := HC8.out _ B9
   clear hr1 hL hV1 hV2 B9 V9 se9 hg9 hgg9 b6 b7 b8 ho6 hg6 hry
   go_wp2_with (first | ((with_reducible refine guardSlice ?_); refine wpList_sl _ (sliceLE _ _ _ k hk _) ?_) | (at_builtin; go_must (refine wpList_appE _ rfl (.tmp 48) (.tmp 54) rfl _ rfl _ (es.drop k) (w.heap.size + 1) _ _ (fun b => S b ∨ w.heap.size ≤ b) (by rw [hdl]; rfl) (fun i => VV (k + i)) H2.out H1.out HSE9.out (by omega) (by rw [hlen9, hdl]; omega) ?_; intro v10 w10 se10 hg10 hgg10; obtain ⟨n10, hn10⟩ : ∃ n, (es.take k ++ [(⟨nm, (p, q, d)⟩ : En)] ++ es.drop k).length = n := ⟨_, rfl⟩; obtain ⟨a10, c10, rfl⟩ := se10.shapeN hn10; clear hn10; have B10 : Below w.heap.size w w10 := Below.grown HB9.out hg10 s9 (fun q hq => by have := hb9 q hq; omega); have fz := HFZ.out _ B10; have c810 := HC8.out _ B10)))
   all_goals (have HSE10 : Hid (SE w10 (w.heap.size + 1) _ _ _) := se10; have HB10 : Hid (Below w.heap.size w w10) := B10; clear H1 H2 HB9 HSE9 hgg10 hg10 se10 B10; go_end0; refine ⟨rfl, w10, _, rfl, HB10.out, ?_⟩; unfold addE; rw [HP.out]; exact RdV.mono (fun b hb => ⟨hb.1.elim id (fun h => .inr (by omega)), hb.2⟩) (SE.rd HSE10.out))
end
section
theorem wrapI (x : Int) (h1 : -9223372036854775808 ≤ x) (h2 : x ≤ 9223372036854775807) : IntKind.i64.wrap x = x := by
 simp only [IntKind.wrap, IntKind.bits, IntKind.signed]
 simp
 omega
theorem exec_sl {t t' : TypeId} {dst : Option Tmp} {x : Operand} {lo hi : Option Operand} {pos : String} {af : Array Edge} {gd : Option (Nat × Bool)} {ρ : Operand → Value} {w : World} {v : Value}
  (h : (Instr.sliceAt t (ρ x) (lo.map ρ) (hi.map ρ) none).run Tryz.prog w = .ok v w) : (execOp ρ ⟨dst, .slice t x lo hi none, t', pos, af, gd⟩).run Tryz.prog w = .ok (.value v) w := by
 unfold execOp
 simp only [Option.map_none, h, Sem.run_bind, Sem.run_pure, Result.andThen_ok]
theorem exec_slH {t t' : TypeId} {dst : Option Tmp} {x y : Operand} {pos : String} {af : Array Edge} {gd : Option (Nat × Bool)} {ρ : Operand → Value} {w : World} {v u z : Value}
  (hx : ρ x = u) (hy : ρ y = z) (h : (Instr.sliceAt t u none (some z) none).run Tryz.prog w = .ok v w) : (execOp ρ ⟨dst, .slice t x none (some y) none, t', pos, af, gd⟩).run Tryz.prog w = .ok (.value v) w :=
 exec_sl (by rw [hx, Option.map_some, hy]; exact h)
theorem exec_slL {t t' : TypeId} {dst : Option Tmp} {x y : Operand} {pos : String} {af : Array Edge} {gd : Option (Nat × Bool)} {ρ : Operand → Value} {w : World} {v u z : Value}
  (hx : ρ x = u) (hy : ρ y = z) (h : (Instr.sliceAt t u (some z) none none).run Tryz.prog w = .ok v w) : (execOp ρ ⟨dst, .slice t x (some y) none none, t', pos, af, gd⟩).run Tryz.prog w = .ok (.value v) w :=
 exec_sl (by rw [hx, Option.map_some, hy]; exact h)
def cutE (es : List En) (i : Nat) : List En := es.take i ++ es.drop (i + 1)
set_option maxHeartbeats 4000000 in
theorem specCut_any (g o : Nat) (xa : Option Addr) (xc : Nat) (es : List En) (i : Nat) (S : Nat → Prop) (w : World) (c8 : w.cell? ⟨g, o + 8, none⟩ = some (.slice xa es.length xc)) (hfz : w.frozen? ⟨g, o + 8, none⟩ = false) (r : RdV w S (.slice xa es.length xc) (ensDt es)) (hS : ∀ b, S b → b < w.heap.size) (hn : es.length ≤ 4000) (hi : i < es.length) :
  Calls Tryz.prog 237 #[.pointer (some ⟨g, o, none⟩), .i i] w fun e w' => e = .returned (.tuple #[]) ∧ ∃ W x, w' = W.setCell ⟨g, o + 8, none⟩ x ∧ Below w.heap.size w W ∧ RdV W (fun b => (S b ∨ w.heap.size ≤ b) ∧ b < W.heap.size) x (ensDt (cutE es i)) := by
 have hgl : g < w.heap.size := block_lt_of_cell (a := ⟨g, o + 8, none⟩) c8
 have hcap : es.length ≤ xc := by obtain ⟨a', cap', V', hv', hh', _⟩ := RdV.inv r; simp only [Value.slice.injEq] at hv'; obtain ⟨-, -, rfl⟩ := hv'; exact hh'.1
 have HR : Hid (∀ W, Below w.heap.size w W → RdV W S (.slice xa es.length xc) (.rows 139 4 es.length (fun i j => enCell (es[i]?.getD en0) j))) := RdV.old r
 have HC8 : Hid (∀ W, Below w.heap.size w W → W.cell? ⟨g, o + 8, none⟩ = some (.slice xa es.length xc)) := fun W hW => (hW.cell (p := ⟨g, o + 8, none⟩) hgl).trans c8
 have HFZ : Hid (∀ W, Below w.heap.size w W → W.frozen? ⟨g, o + 8, none⟩ = false) := fun W hW => (hW.frozen (p := ⟨g, o + 8, none⟩) hgl).trans hfz
 have HS : Hid (∀ b, S b → b < w.heap.size) := hS
 have hic : i ≤ xc := by omega
 have hwi : IntKind.i64.wrap ((i : Int) + 1) = (i : Int) + 1 := wrapI _ (by omega) (by omega)
 have htl : (es.take i).length = i := by rw [List.length_take]; omega
 have hdl : (es.drop (i + 1)).length = es.length - (i + 1) := List.length_drop
 clear r c8 hfz hS
 go_enter Tryz.func237, Tryz.ntmps237
 refine wp_region_noPanic ?_
 refine wp_region_Z (fun W => W.cell? ⟨g, o + 8, none⟩ = some (.slice xa es.length xc)) 19 (by kernel_rfl) (HC8.out _ (Below.drew (Below.refl w.heap.size w))) (fun hHeld => ?_)
 refine tkz 0 ?_ rfl (by kernel_rfl) rfl (by assumption) ?_ ?_
 rotate_left
 ·(intro _ h; (try dsimp only at h); go_simp; try with_reducible rfl)
 try simp only [Act.put, qz1, qz2, qz3, qz4, qz5, qz6]
 refine tkz 2 ?_ rfl (by kernel_rfl) rfl (by assumption) ?_ ?_
 rotate_left
 ·(intro _ h; (try dsimp only at h); go_simp; try with_reducible rfl)
 try simp only [Act.put, qz1, qz2, qz3, qz4, qz5, qz6]
 refine tkz 3 ?_ rfl (by kernel_rfl) rfl (by assumption) ?_ ?_
 rotate_left
 ·(intro _ h; (try dsimp only at h); go_simp; try with_reducible rfl)
 try simp only [Act.put, qz1, qz2, qz3, qz4, qz5, qz6]
 refine tkz 4 ?_ rfl (by kernel_rfl) rfl (by assumption) ?_ ?_
 rotate_left
 ·(intro _ h; (try dsimp only at h); go_simp; try with_reducible rfl)
 try simp only [Act.put, qz1, qz2, qz3, qz4, qz5, qz6]
 refine tkz 5 ?_ rfl (by kernel_rfl) rfl (by assumption) ?_ ?_
 rotate_left
 ·(intro _ h; (try dsimp only at h); go_simp; try with_reducible rfl)
 try simp only [Act.put, qz1, qz2, qz3, qz4, qz5, qz6]
 refine tkz 6 ?_ rfl (by kernel_rfl) rfl (by assumption) ?_ ?_
 rotate_left
 ·(intro _ h; (try dsimp only at h); go_simp; try with_reducible rfl)
 try simp only [Act.put, qz1, qz2, qz3, qz4, qz5, qz6]
 refine wpAnyZ_take (i := 7) (v := (.slice xa i xc)) rfl (by kernel_rfl) (by kernel_rfl) (by kernel_rfl) (by kernel_rfl) (fun _ _ _ h => h) (Or.inl ⟨by rfl, ?_⟩) (by assumption) ?_
 ·(intro w_ hSw_; (try dsimp only at hSw_); exact exec_slH (u := .slice xa es.length xc) (z := .i (i : Int)) (by rfl) (by rfl) (sliceHE xa es.length xc i hic w_))
 try simp only [Act.put, qz1, qz2, qz3, qz4, qz5, qz6]
 refine tkz 9 ?_ rfl (by kernel_rfl) rfl (by assumption) ?_ ?_
 rotate_left
 ·(intro _ h; (try dsimp only at h); go_simp; try with_reducible rfl)
 try simp only [Act.put, qz1, qz2, qz3, qz4, qz5, qz6]
 refine tkz 10 ?_ rfl (by kernel_rfl) rfl (by assumption) ?_ ?_
 rotate_left
 ·(intro _ h; (try dsimp only at h); go_simp; try with_reducible rfl)
 try simp only [Act.put, qz1, qz2, qz3, qz4, qz5, qz6]
 refine tkz 11 ?_ rfl (by kernel_rfl) rfl (by assumption) ?_ ?_
 rotate_left
 ·(intro _ h; (try dsimp only at h); go_simp; try with_reducible rfl)
 try simp only [Act.put, qz1, qz2, qz3, qz4, qz5, qz6]
 refine tkz 12 ?_ rfl (by kernel_rfl) rfl (by assumption) ?_ ?_
 rotate_left
 ·(intro _ h; (try dsimp only at h); go_simp; try with_reducible rfl)
 try simp only [Act.put, qz1, qz2, qz3, qz4, qz5, qz6]
 refine tkz 13 ?_ rfl (by kernel_rfl) rfl (by assumption) ?_ ?_
 rotate_left
 ·(intro _ h; (try dsimp only at h); go_simp; try with_reducible rfl)
 try simp only [Act.put, qz1, qz2, qz3, qz4, qz5, qz6]
 refine tkz 14 ?_ rfl (by kernel_rfl) rfl (by assumption) ?_ ?_
 rotate_left
 ·(intro _ h; (try dsimp only at h); go_simp; try with_reducible rfl)
 try simp only [Act.put, qz1, qz2, qz3, qz4, qz5, qz6]
 refine wpAnyZ_take (i := 15) (v := (.slice (if xc = i + 1 then xa else xa.map (·.add ((i + 1) * 4))) (es.length - (i + 1)) (xc - (i + 1)))) rfl (by kernel_rfl) (by kernel_rfl) (by kernel_rfl) (by kernel_rfl) (fun _ _ _ h => h) (Or.inl ⟨by rfl, ?_⟩) (by assumption) ?_
 ·(intro w_ hSw_; (try dsimp only at hSw_); exact exec_slL (u := .slice xa es.length xc) (z := .i ((i + 1 : Nat) : Int)) (by rfl) (by rfl) (sliceLE xa es.length xc (i + 1) hi w_))
 try simp only [Act.put, qz1, qz2, qz3, qz4, qz5, qz6]
 refine wpAnyZ_one (i := 1) (by kernel_rfl) rfl (fun K hK => ?_)
 go_simp
 have b1 : Below w.heap.size w (w.drew.alloc (.cells #[] 139)) := Below.alloc (Below.drew (Below.refl w.heap.size w)) (Nat.le_refl _) _
 refine hK.out _ _ (HC8.out _ b1) (fun hHeld => ?_)
 clear hK K
 try simp only [Act.put, qz1, qz2, qz3, qz4, qz5, qz6]
 refine wpAnyZ_one (i := 8) (by kernel_rfl) rfl (fun K hK => ?_)
 obtain ⟨VV, hV1, hV2⟩ := RdV.lies (HR.out _ b1)
 refine step_appE (w.drew.alloc (.cells #[] 139)) rfl (.tmp 5) (.tmp 11) (by rfl) (.slice (some ⟨w.heap.size, 0, none⟩) 0 0) (by rfl) [] (es.take i) w.heap.size xc xa (fun b => S b ∨ w.heap.size ≤ b) (by rw [htl]; rfl) VV (hV2 i (by omega)).1 ?_ (SE.empty w.drew w.heap.size (fun b => S b ∨ w.heap.size ≤ b) (Nat.le_refl _)) (by simp) (by rw [htl]; simp; omega) ?_
 ·intro j hj
  rw [getD_take _ _ _ _ hj]
  rw [htl] at hj
  exact RdV.mono (fun b hb => ⟨.inl hb, by have := HS.out b hb; simp; omega, fun e => by have := HS.out b hb; have e2 : w.heap.size = b := (by simpa [Value.ownBlock] using e); omega⟩) (hV1 j (by omega))
 intro v2 w2 se2 hg2 hgg2
 rw [List.nil_append] at se2
 have b2 : Below w.heap.size w w2 := Below.grown b1 hg2 (by simp) (fun q hq => by have e2 : w.heap.size = q := (by simpa [Value.ownBlock] using hq); omega)
 obtain ⟨a2, c2, rfl⟩ := se2.shapeN htl
 refine hK.out _ _ (HC8.out _ b2) (fun hHeld => ?_)
 clear hK K
 try simp only [Act.put, qz1, qz2, qz3, qz4, qz5, qz6]
 refine wpAnyZ_one (i := 16) (by kernel_rfl) rfl (fun K hK => ?_)
 obtain ⟨VW, hW1, hW2⟩ := RdV.lies (HR.out _ b2)
 have hb2 := se2.lt
 have s2 := b2.size
 refine step_appE w2 rfl (.tmp 12) (.tmp 19) (by rfl) (.slice a2 i c2) (by rfl) (es.take i) (es.drop (i + 1)) w.heap.size (xc - (i + 1)) _ (fun b => S b ∨ w.heap.size ≤ b) (by rw [hdl]; rfl) (fun j => VW (i + 1 + j)) (hW2 (i + 1) (by omega)).2 ?_ se2 s2 (by rw [htl, hdl]; omega) ?_
 ·intro j hj
  rw [getD_drop]
  rw [hdl] at hj
  exact RdV.mono (fun b hb => ⟨.inl hb, by have := HS.out b hb; omega, fun e => by have := HS.out b hb; have := hb2 b e; omega⟩) (hW1 (i + 1 + j) (by omega))
 intro v3 w3 se3 hg3 hgg3
 have b3 : Below w.heap.size w w3 := Below.grown b2 hg3 s2 (fun q hq => (hb2 q hq).1)
 obtain ⟨n3, hn3⟩ : ∃ n, (es.take i ++ es.drop (i + 1)).length = n := ⟨_, rfl⟩
 obtain ⟨a3, c3, rfl⟩ := se3.shapeN hn3
 clear hn3
 refine hK.out _ _ (HC8.out _ b3) (fun hHeld => ?_)
 clear hK K
 try simp only [Act.put, qz1, qz2, qz3, qz4, qz5, qz6]
 refine wpAnyZ_one (i := 17) (by kernel_rfl) rfl (fun K hK => ?_)
 go_simp
 refine hK.out _ _ (by assumption) (fun hHeld => ?_)
 clear hK K
 try simp only [Act.put, qz1, qz2, qz3, qz4, qz5, qz6]
 refine tkz 18 ?_ rfl (by kernel_rfl) rfl (by assumption) ?_ ?_
 rotate_left
 ·(intro _ h; (try dsimp only at h); go_simp; try with_reducible rfl)
 try simp only [Act.put, qz1, qz2, qz3, qz4, qz5, qz6]
 refine wpAnyZ_last (by kernel_rfl) rfl (fun K hK => ?_)
 have fz := HFZ.out _ b3
 have c83 := HC8.out _ b3
 go_simp
 refine hK.out _ _ ?_
 clear hK K
 try simp only [Act.put, qz1, qz2, qz3, qz4, qz5, qz6]
 refine wpAnyZ_done (by kernel_rfl) (NoPanic.normal ?_) _
 have HSE3 : Hid (SE w3 w.heap.size _ _ _) := se3
 have HB3 : Hid (Below w.heap.size w w3) := b3
 clear se3 b3 b1 b2 hHeld
 go_end0
 refine ⟨rfl, w3, _, rfl, HB3.out, ?_⟩
 unfold cutE
 exact RdV.mono (fun b hb => ⟨hb.1.elim id (fun h => .inr h), hb.2⟩) (SE.rd HSE3.out)
end
section
theorem step_stF2 {ty t' : TypeId} {dst : Option Tmp} {x y : Operand} {pos : String} {af : Array Edge} {ops : Array Oper} {a : Act} {K : Act → World → Prop} {Q : Exit → Act → World → Prop} {E : Prop} {w : World} {g off : Nat} {T : TypeId} {old vs new : Array Value}
  (hv : VarA w g T old) (hx : a.eval x = .pointer (some ⟨g, off, none⟩)) (hy : a.eval y = .agg vs) (hi : (Tryz.prog.info? ty).map (·.size) = some vs.size) (h1 : vs.toList.all (·.oneCell') = true) (hl : off + vs.size ≤ old.size)
  (hnew : (old.toList.take off ++ vs.toList ++ old.toList.drop (off + vs.size)).toArray = new)
  (hK : ∀ w', VarA w' g T new → Turned (fun b => b = g) w w' → K (a.put dst undef) w') :
  if Region.wanted ⟨dst, .store ty x y, t', pos, af, none⟩ (yielded ops a.tmps) = true then Oper.wp Tryz.prog ⟨dst, .store ty x y, t', pos, af, none⟩ a w K Q else E := by
 rw [if_pos (by simp [Region.wanted])]
 unfold Oper.wp execOp
 simp only [hx, hy, Instr.storeAt, Instr.sureAddr, Sem.run_bind, Sem.run_pure, Result.andThen_ok, storeF_run hv hl hi h1]
 rw [hnew]
 exact hK _ (VarA.row hv) (turned_row w g new)
def HdR (h : Hd) : Prop := 0 ≤ h.sh ∧ h.sh < 4 ∧ 0 ≤ h.ino ∧ h.ino ≤ 2147483647
theorem cur_keep {w w' : World} {pb q : Nat} (h : CurAt w pb) (t : Turned (fun b => b = q) w w') (hq : pb < q) : CurAt w' pb :=
 h.grown (r := some q) ⟨t.os, t.tape, t.output, t.size, fun k hk hne => t.block k hk (fun e => hne (by rw [e]))⟩ (fun k hk => by cases hk; exact hq)
theorem grown_keep {w w1 w' : World} {pb q : Nat} (h : w.grownBy w1 (some pb)) (t : Turned (fun b => b = q) w1 w') (hq : w.heap.size ≤ q) : w.grownBy w' (some pb) :=
 ⟨t.os.trans h.os, t.tape.trans h.tape, t.output.trans h.output, Nat.le_trans h.size t.size, fun k hk hne => (t.block k (Nat.lt_of_lt_of_le hk h.size) (fun e => by omega)).trans (h.block k hk hne)⟩
def HdSaid (w : World) (pb : Nat) (e : Ending) (w' : World) : Prop := ∃ hd : Hd, e = .returned hd.v ∧ HdR hd ∧ CurAt w' pb ∧ w.grownBy w' (some pb)
set_option maxHeartbeats 4000000 in
theorem handle4_any (pb : Nat) (x : Value) (l : List Nd) (S : Nat → Prop) (w : World) (h : CurAt w pb) (r : RdV w S x (ndsDt l)) (hS : ∀ b, S b → b ≠ pb) (hl : l.length ≤ 2097152) (hP : ∀ i : Nat, i < l.length → HdR (l[i]?.getD nd0).h) :
  Calls Tryz.prog 143 #[.pointer (some ⟨pb, 0, none⟩), .agg #[x]] w (HdSaid w pb) := by
 obtain ⟨xa, xc, rfl, _⟩ := RdV.sliced r
 have hpb := h.lt
 go_enter Tryz.func143, Tryz.ntmps143
 go_wp2_with fail
 obtain ⟨w0, hw0⟩ : ∃ W, W = (w.alloc (.cells #[.slice xa l.length xc] 55)).alloc (.cells #[.i 0, .i 0, .bool false] 24) := ⟨_, rfl⟩
 have B0 : Below w.heap.size w w0 := by rw [hw0]; exact Below.newH2 _ _
 have VT0 : VarA w0 w.heap.size 55 #[.slice xa l.length xc] := by rw [hw0]; exact (VarA.new w _ _).alloc _
 have VR0 : VarA w0 (w.heap.size + 1) 24 #[.i 0, .i 0, .bool false] := by rw [hw0]; have := VarA.new (w.alloc (.cells #[.slice xa l.length xc] 55)) 24 #[.i 0, .i 0, .bool false]; simpa using this
 rw [← hw0]
 clear hw0
 refine (once_any pb 10 _ (h.below B0) (by omega) (by omega)).mono ?_
 rintro e1 w1 ⟨b1, rfl, hc1, hg1⟩
 have T1 := Turned.ofGrown (S := fun b => b = pb) hg1 (fun k hk => by cases hk; rfl)
 have VT1 := VT0.turn T1 (by show w.heap.size ≠ pb; omega)
 have VR1 := VR0.turn T1 (by show w.heap.size + 1 ≠ pb; omega)
 have HG1 : w.grownBy w1 (some pb) := grown_trans (grown_below B0) hg1
 have z1 := HG1.size
 have HRW : Hid (∀ W, w.grownBy W (some pb) → RdV W S (.slice xa l.length xc) (ndsDt l)) := fun W hg => RdV.keep ((Turned.ofGrown (S := fun b => b = pb) hg (fun k hk => by cases hk; rfl)).keeps (fun b hb e => hS b hb e)) r
 have t1 := VT1.l1
 clear B0 VT0 VR0 T1 hg1 r h
 cases b1 with
 | true =>
  go_wp2_with fail
  refine (below_any pb 4 _ hc1 (by omega) (by omega)).mono ?_
  rintro e2 w2 ⟨x2, rfl, hx20, hx21, hc2, hg2⟩
  go_wp2_with fail
  refine (below_any pb 9 _ hc2 (by omega) (by omega)).mono ?_
  rintro e3 w3 ⟨x3, rfl, hx30, hx31, hc3, hg3⟩
  have hw3 : IntKind.i64.wrap (1 + x3) = 1 + x3 := wrapI _ (by omega) (by omega)
  go_wp2_with fail
  refine (once_any pb 2 _ hc3 (by omega) (by omega)).mono ?_
  rintro e4 w4 ⟨x4, rfl, hc4, hg4⟩
  have T4 := Turned.ofGrown (S := fun b => b = pb) (grown_trans (grown_trans hg2 hg3) hg4) (fun k hk => by cases hk; rfl)
  have HV4 : Hid _ := VR1.turn T4 (by show w.heap.size + 1 ≠ pb; omega)
  have HG4 : Hid (w.grownBy w4 (some pb)) := grown_trans HG1 (grown_trans (grown_trans hg2 hg3) hg4)
  have z4 := HG4.out.size
  clear hg2 hg3 hg4 T4
  go_wp2_with ((with_reducible refine gS 24 ?_); refine sF HV4.out rfl rfl (by kernel_rfl) rfl rfl ?_; intro wz vZ t_)
  refine bpR Tryz.results143 vZ Tryz.underlying24 rfl rfl (by kernel_rfl) rfl ?_
  exact ⟨(x2, 1 + x3, x4), rfl, ⟨by show 0 ≤ x2; omega, by show x2 < 4; omega, by show 0 ≤ 1 + x3; omega, by show 1 + x3 ≤ 2147483647; omega⟩, cur_keep hc4 t_ (by omega), grown_keep HG4.out t_ (by omega)⟩
 | false =>
  by_cases hl0 : l.length = 0
  ·rw [hl0] at t1
   go_wp2_with fail
   refine (below_any pb 4 _ hc1 (by omega) (by omega)).mono ?_
   rintro e2 w2 ⟨x2, rfl, hx20, hx21, hc2, hg2⟩
   go_wp2_with fail
   refine (below_any pb 9 _ hc2 (by omega) (by omega)).mono ?_
   rintro e3 w3 ⟨x3, rfl, hx30, hx31, hc3, hg3⟩
   have hw3 : IntKind.i64.wrap (1 + x3) = 1 + x3 := wrapI _ (by omega) (by omega)
   go_wp2_with fail
   refine (once_any pb 2 _ hc3 (by omega) (by omega)).mono ?_
   rintro e4 w4 ⟨x4, rfl, hc4, hg4⟩
   have T4 := Turned.ofGrown (S := fun b => b = pb) (grown_trans (grown_trans hg2 hg3) hg4) (fun k hk => by cases hk; rfl)
   have HV4 : Hid _ := VR1.turn T4 (by show w.heap.size + 1 ≠ pb; omega)
   have HG4 : Hid (w.grownBy w4 (some pb)) := grown_trans HG1 (grown_trans (grown_trans hg2 hg3) hg4)
   have z4 := HG4.out.size
   clear hg2 hg3 hg4 T4
   go_wp2_with ((with_reducible refine gS 24 ?_); refine sF HV4.out rfl rfl (by kernel_rfl) rfl rfl ?_; intro wz vZ t_)
   refine bpR Tryz.results143 vZ Tryz.underlying24 rfl rfl (by kernel_rfl) rfl ?_
   exact ⟨(x2, 1 + x3, x4), rfl, ⟨by show 0 ≤ x2; omega, by show x2 < 4; omega, by show 0 ≤ 1 + x3; omega, by show 1 + x3 ≤ 2147483647; omega⟩, cur_keep hc4 t_ (by omega), grown_keep HG4.out t_ (by omega)⟩
  ·have hpos : (0 : Int) < (l.length : Int) := by omega
   have hne : ¬ ((l.length : Int) = 0) := by omega
   go_wp2
   refine wp_region_noPanic ?_
   refine wp_region_held_drew (S := fun W => W.cell? ⟨w.heap.size, 0, none⟩ = some (.slice xa l.length xc)) (by kernel_rfl) (VT1.step (Below.drew (Below.refl w1.heap.size w1))).l1 (fun hHeld => ?_)
   refine tkh 0 ?_ rfl (by kernel_rfl) rfl (by assumption) ?_ ?_
   rotate_left
   ·(intro _ h; (try dsimp only at h); go_simp; try with_reducible rfl)
   try simp only [Act.put, qz1, qz2, qz3, qz4, qz5, qz6]
   refine tkh 1 ?_ rfl (by kernel_rfl) rfl (by assumption) ?_ ?_
   rotate_left
   ·(intro _ h; (try dsimp only at h); go_simp; try with_reducible rfl)
   try simp only [Act.put, qz1, qz2, qz3, qz4, qz5, qz6]
   refine tkh 2 ?_ rfl (by kernel_rfl) rfl (by assumption) ?_ ?_
   rotate_left
   ·(intro _ h; (try dsimp only at h); go_simp; try with_reducible rfl)
   try simp only [Act.put, qz1, qz2, qz3, qz4, qz5, qz6]
   refine tkh 3 ?_ rfl (by kernel_rfl) rfl (by assumption) ?_ ?_
   rotate_left
   ·(intro _ h; (try dsimp only at h); go_simp; try with_reducible rfl)
   try simp only [Act.put, qz1, qz2, qz3, qz4, qz5, qz6]
   refine tkh 4 ?_ rfl (by kernel_rfl) rfl (by assumption) ?_ ?_
   rotate_left
   ·(intro _ h; (try dsimp only at h); go_simp; try with_reducible rfl)
   try simp only [Act.put, qz1, qz2, qz3, qz4, qz5, qz6]
   refine tkh 5 ?_ rfl (by kernel_rfl) rfl (by assumption) ?_ ?_
   rotate_left
   ·(intro _ h; (try dsimp only at h); go_simp; try with_reducible rfl)
   try simp only [Act.put, qz1, qz2, qz3, qz4, qz5, qz6]
   refine doH 6 (by kernel_rfl) rfl fun K hK => ?_
   go_simp
   refine (below_any pb l.length _ (hc1.below (Below.drew (Below.refl w1.heap.size w1))) hpos (by omega)).mono ?_
   rintro e2 w2 ⟨x2, rfl, hx20, hx21, hc2, hg2⟩
   dsimp only
   have T2 := Turned.ofGrown (S := fun b => b = pb) hg2 (fun k hk => by cases hk; rfl)
   have VT2 := (VT1.step (Below.drew (Below.refl w1.heap.size w1))).turn T2 (by show w.heap.size ≠ pb; omega)
   have VR2 := (VR1.step (Below.drew (Below.refl w1.heap.size w1))).turn T2 (by show w.heap.size + 1 ≠ pb; omega)
   have HG2 : w.grownBy w2 (some pb) := grown_trans HG1 (grown_trans (grown_below (Below.drew (Below.refl w1.heap.size w1))) hg2)
   obtain ⟨i, rfl⟩ : ∃ i : Nat, x2 = (i : Int) := ⟨x2.toNat, by omega⟩
   have hi : i < l.length := by omega
   obtain ⟨b, off, rfl, hbl, _, hx⟩ := RdV.at (HRW.out w2 HG2) hi
   obtain ⟨y0, q0, s0⟩ := hx 0 (by omega)
   obtain ⟨y1, q1, s1⟩ := hx 1 (by omega)
   obtain ⟨y2, q2, s2⟩ := hx 2 (by omega)
   have HPi := hP i hi
   generalize l[i]?.getD nd0 = nd at *
   obtain ⟨⟨p, q, d⟩, pp, ll, vv, ee⟩ := nd
   obtain rfl : y0 = .i p := s0
   obtain rfl : y1 = .i q := s1
   obtain rfl : y2 = .bool d := s2
   simp only [Nat.add_zero] at q0
   refine hK.out _ _ VT2.l1 (fun hHeld => ?_)
   clear hK K
   try simp only [Act.put, qz1, qz2, qz3, qz4, qz5, qz6]
   refine tkh 7 ?_ rfl (by kernel_rfl) rfl (by assumption) ?_ ?_
   rotate_left
   ·(intro _ h; (try dsimp only at h); go_simp; try with_reducible rfl)
   try simp only [Act.put, qz1, qz2, qz3, qz4, qz5, qz6]
   refine tkh 8 ?_ rfl (by kernel_rfl) rfl (by assumption) ?_ ?_
   rotate_left
   ·(intro _ h; (try dsimp only at h); go_simp; try with_reducible rfl)
   try simp only [Act.put, qz1, qz2, qz3, qz4, qz5, qz6]
   refine doH 9 (by kernel_rfl) rfl fun K hK => ?_
   go_simp
   refine hK.out _ _ VT2.l1 (fun hHeld => ?_)
   clear hK K
   try simp only [Act.put, qz1, qz2, qz3, qz4, qz5, qz6]
   refine doH 10 (by kernel_rfl) rfl fun K hK => ?_
   refine step_stF2 VR2 (by rfl) (by rfl) (by kernel_rfl) rfl (of_decide_eq_true rfl) rfl ?_
   intro wz vZ t_
   refine hK.out _ _ (VT2.turn t_ (by show w.heap.size ≠ w.heap.size + 1; omega)).l1 (fun hHeld => ?_)
   clear hK K
   try simp only [Act.put, qz1, qz2, qz3, qz4, qz5, qz6]
   refine wpAnyH_done (by kernel_rfl) (NoPanic.normal ?_) _
   clear hHeld
   have z2 := HG2.size
   go_wp2
   refine bpR Tryz.results143 vZ Tryz.underlying24 rfl rfl (by kernel_rfl) rfl ?_
   exact ⟨(p, q, d), rfl, HPi, cur_keep hc2 t_ (by omega), grown_keep HG2 t_ (by omega)⟩
end
section
def DirRel (w : World) (pb : Nat) (x : Value) (i : Value) (wr : World) : Prop :=
  ∃ k : Nat, k ≤ 4 ∧ i = .i k ∧ CurAt wr pb ∧ w.grownBy wr (some pb) ∧ VarA wr w.heap.size 55 #[x] ∧ VarA wr (w.heap.size + 1) 24 #[.i 0, .i 0, .bool false]
set_option maxHeartbeats 4000000 in
theorem dir4_any (pb : Nat) (x : Value) (l : List Nd) (S : Nat → Prop) (w : World) (h : CurAt w pb) (r : RdV w S x (ndsDt l)) (hS : ∀ b, S b → b ≠ pb) (hl : l.length ≤ 2097152) (hP : ∀ i : Nat, i < l.length → HdR (l[i]?.getD nd0).h) :
    Calls Tryz.prog 142 #[.pointer (some ⟨pb, 0, none⟩), .agg #[x]] w (HdSaid w pb) := by
  obtain ⟨xa, xc, rfl, _⟩ := RdV.sliced r
  have hpb := h.lt
  have HH : Hid (∀ W, CurAt W pb → w.grownBy W (some pb) → Calls Tryz.prog 143 #[.pointer (some ⟨pb, 0, none⟩), .agg #[.slice xa l.length xc]] W (HdSaid W pb)) := fun W hc hg => handle4_any pb _ l S W hc (RdV.keep ((Turned.ofGrown (S := fun b => b = pb) hg (fun k hk => by cases hk; rfl)).keeps (fun b hb e => hS b hb e)) r) hS hl hP
  have HC0 : Hid (CurAt w pb) := h
  clear r h hP hS
  go_enter Tryz.func142, Tryz.ntmps142
  go_wp2
  go_loopw [5] (fun i wr => DirRel w pb (.slice xa l.length xc) i wr) (fun i _ => 4 - (intOf i).toNat)
  case atStart =>
    refine ⟨0, Nat.zero_le _, rfl, HC0.out.below (Below.newH2 _ _), grown_below (Below.newH2 _ _), (VarA.new w _ _).alloc _, ?_⟩
    have := VarA.new (w.alloc (.cells #[.slice xa l.length xc] 55)) 24 #[.i 0, .i 0, .bool false]
    simpa using this
  case round =>
    obtain ⟨k, hk, rfl, hc, hg, vT, vR⟩ := hrel
    have t0 := vT.l1
    have z0 := hg.size
    have HG : Hid (w.grownBy wr (some pb)) := hg
    have HC : Hid (CurAt wr pb) := hc
    have HVT : Hid (VarA wr w.heap.size 55 _) := vT
    have HVR : Hid (VarA wr (w.heap.size + 1) 24 _) := vR
    have HCALL : Hid _ := HH.out wr hc hg
    clear hc hg vT vR
    by_cases hk4 : k < 4
    · have hki : (k : Int) < 4 := by omega
      go_wp2_with fail
      refine Calls.mono HCALL.out ?_
      rintro e2 w2 ⟨⟨p, q, d⟩, rfl, hr, hc2, hg2⟩
      have T2 := Turned.ofGrown (S := fun b => b = pb) hg2 (fun k hk => by cases hk; rfl)
      have z2 := hg2.size
      obtain ⟨w3, hw3⟩ : ∃ W, W = w2.alloc (.cells #[.i p, .i q, .bool d] 24) := ⟨_, rfl⟩
      have b3 : Below w2.heap.size w2 (w2.alloc (.cells #[.i p, .i q, .bool d] 24)) := Below.newH _
      have HT3 : Hid (VarA (w2.alloc (.cells #[.i p, .i q, .bool d] 24)) w.heap.size 55 #[.slice xa l.length xc]) := (HVT.out.turn T2 (by show w.heap.size ≠ pb; omega)).step b3
      have HR3 : Hid (VarA (w2.alloc (.cells #[.i p, .i q, .bool d] 24)) (w.heap.size + 1) 24 #[.i 0, .i 0, .bool false]) := (HVR.out.turn T2 (by show w.heap.size + 1 ≠ pb; omega)).step b3
      have HG3 : Hid (w.grownBy (w2.alloc (.cells #[.i p, .i q, .bool d] 24)) (some pb)) := grown_trans (grown_trans HG.out hg2) (grown_below b3)
      have HC3 : Hid (CurAt (w2.alloc (.cells #[.i p, .i q, .bool d] 24)) pb) := hc2.below b3
      obtain ⟨a0, a1, a2⟩ := (VarA.new w2 24 #[.i p, .i q, .bool d]).l3
      clear hw3 w3 T2 hg2 hc2 b3 HCALL
      cases d with
      | true =>
        go_wp2_with ((with_reducible refine gS 24 ?_); refine sF HR3.out rfl rfl (by kernel_rfl) rfl rfl ?_; intro wz vZ t_)
        refine bpR Tryz.results142 vZ Tryz.underlying24 rfl rfl (by kernel_rfl) rfl ?_
        exact ⟨(p, q, true), rfl, hr, cur_keep HC3.out t_ (by omega), grown_keep HG3.out t_ (by omega)⟩
      | false =>
        go_wp2
        first
        | exact ⟨⟨k + 1, by omega, by go_num, HC3.out, HG3.out, HT3.out, HR3.out⟩, by simp [intOf]; omega⟩
        | (go_roundw
           case rel => exact ⟨k + 1, by omega, by go_num, HC3.out, HG3.out, HT3.out, HR3.out⟩
           case measure => simp [intOf]; omega)
    · have hki : ¬ (k : Int) < 4 := by omega
      go_wp2_with fail
      refine Calls.mono HCALL.out ?_
      rintro e2 w2 ⟨⟨p, q, d⟩, rfl, hr, hc2, hg2⟩
      have T2 := Turned.ofGrown (S := fun b => b = pb) hg2 (fun k hk => by cases hk; rfl)
      have HR3 : Hid (VarA w2 (w.heap.size + 1) 24 #[.i 0, .i 0, .bool false]) := HVR.out.turn T2 (by show w.heap.size + 1 ≠ pb; omega)
      have HG3 : Hid (w.grownBy w2 (some pb)) := grown_trans HG.out hg2
      clear T2 hg2 HCALL
      go_wp2_with ((with_reducible refine gS 24 ?_); refine sF HR3.out rfl rfl (by kernel_rfl) rfl rfl ?_; intro wz vZ t_)
      refine bpR Tryz.results142 vZ Tryz.underlying24 rfl rfl (by kernel_rfl) rfl ?_
      exact ⟨(p, q, d), rfl, hr, cur_keep hc2 t_ (by omega), grown_keep HG3.out t_ (by omega)⟩
end
section
def In64 (n : Int) : Prop := -9223372036854775808 ≤ n ∧ n ≤ 9223372036854775807
def TxSaid (w : World) (pb : Nat) (e : Ending) (w' : World) : Prop := ∃ a b c : Int, e = .returned (.agg #[.i a, .i b, .i c]) ∧ (In64 a ∧ In64 b ∧ In64 c) ∧ CurAt w' pb ∧ w.grownBy w' (some pb)
structure TD (w wc : World) (pb X : Nat) (xc : Array Value) : Prop where
 c : CurAt wc pb
 g : w.grownBy wc (some pb)
 vR : VarA wc w.heap.size 31 #[.i 0, .i 0, .i 0]
 vX : VarA wc X 31 xc
theorem TD.grow {w wc wd : World} {pb X : Nat} {xc : Array Value} (m : TD w wc pb X xc) (hc : CurAt wd pb) (hg : wc.grownBy wd (some pb)) (hp : pb < w.heap.size) (hX : w.heap.size ≤ X) : TD w wd pb X xc :=
 have T := Turned.ofGrown (S := fun b => b = pb) hg (fun k hk => by cases hk; rfl)
 ⟨hc, grown_trans m.g hg, m.vR.turn T (by show w.heap.size ≠ pb; omega), m.vX.turn T (by show X ≠ pb; omega)⟩
theorem TD.put {w wc wd : World} {pb X : Nat} {xc xd : Array Value} (m : TD w wc pb X xc) (t : Turned (fun b => b = X) wc wd) (v : VarA wd X 31 xd) (hp : pb < w.heap.size) (hX : w.heap.size < X) : TD w wd pb X xd :=
 ⟨cur_keep m.c t (by omega), grown_keep m.g t (by omega), m.vR.turn t (by show w.heap.size ≠ X; omega), v⟩
set_option maxHeartbeats 4000000 in
theorem tx5_any (pb : Nat) (w : World) (h : CurAt w pb) : Calls Tryz.prog 139 #[.pointer (some ⟨pb, 0, none⟩)] w (TxSaid w pb) := by
 have hpb := h.lt
 go_enter Tryz.func139, Tryz.ntmps139
 go_wp2_with fail
 refine Calls.mono (below_any pb 4 _ (h.alloc _) (by omega) (by omega)) ?_
 rintro e1 w1 ⟨a1, rfl, ha0, ha1, c1, g1⟩
 go_wp2_with fail
 refine Calls.mono (below_any pb 4 _ c1 (by omega) (by omega)) ?_
 rintro e2 w2 ⟨a2, rfl, hb0, hb1, c2, g2⟩
 go_wp2_with fail
 refine Calls.mono (below_any pb 200 _ c2 (by omega) (by omega)) ?_
 rintro e3 w3 ⟨a3, rfl, hc0, hc1, c3, g3⟩
 have G3 := grown_trans (grown_trans g1 g2) g3
 have T3 := Turned.ofGrown (S := fun b => b = pb) G3 (fun k hk => by cases hk; rfl)
 have V3 := (VarA.new w 31 #[.i 0, .i 0, .i 0]).turn T3 (by show w.heap.size ≠ pb; omega)
 have hX : w.heap.size < w3.heap.size := V3.lt
 have H4 : Hid (TD w (w3.alloc (.cells #[.i a1, .i a2, .i a3] 31)) pb w3.heap.size #[.i a1, .i a2, .i a3]) := ⟨c3.alloc _, grown_trans (grown_trans (World.grownBy_alloc w _ _) G3) (World.grownBy_alloc w3 _ _), V3.alloc _, VarA.new _ _ _⟩
 clear G3 T3 V3 g1 g2 g3 c1 c2 c3 h
 generalize hXe : w3.heap.size = X at *
 go_wp2_with fail
 refine Calls.mono (once_any pb 15 _ H4.out.c (by omega) (by omega)) ?_
 rintro e5 w5 ⟨b5, rfl, c5, g5⟩
 have H5 : Hid (TD w w5 pb X #[.i a1, .i a2, .i a3]) := H4.out.grow c5 g5 hpb (by omega)
 clear c5 g5
 cases b5 with
 | false =>
  go_wp2_with fail
  refine Calls.mono (once_any pb 30 _ H5.out.c (by omega) (by omega)) ?_
  rintro e7 w7 ⟨b7, rfl, c7, g7⟩
  have H7 : Hid (TD w w7 pb X #[.i a1, .i a2, .i a3]) := H5.out.grow c7 g7 hpb (by omega)
  clear c7 g7
  cases b7 with
  | false =>
   obtain ⟨x0, x1, x2⟩ := H7.out.vX.l3
   go_wp2_with ((with_reducible refine gS 31 ?_); refine sF H7.out.vR rfl rfl (by kernel_rfl) rfl rfl ?_; intro wz vZ t_)
   refine bpR Tryz.results139 vZ Tryz.underlying31 rfl rfl (by kernel_rfl) rfl ?_
   exact ⟨a1, a2, a3, rfl, ⟨⟨by omega, by omega⟩, ⟨by omega, by omega⟩, ⟨by omega, by omega⟩⟩, cur_keep H7.out.c t_ (by omega), grown_keep H7.out.g t_ (by omega)⟩
  | true =>
   go_wp2_with fail
   refine Calls.mono (pick_any pb w7.heap.size [-1, 4] _ (H7.out.c.alloc _) (by simp) (by simp) (by have := H7.out.c.lt; omega) (heap_alloc_new w7 _)) ?_
   rintro e8 w8 ⟨x8, rfl, hm8, c8, g8⟩
   have H8 : Hid (TD w w8 pb X #[.i a1, .i a2, .i a3]) := (H7.out.grow (H7.out.c.alloc _) (World.grownBy_alloc w7 _ _) hpb (by omega)).grow c8 g8 hpb (by omega)
   clear c8 g8
   have hx8 : x8 = -1 ∨ x8 = 4 := by simpa using hm8
   go_wp2_with (first | ((with_reducible refine gS 31 ?_); refine sF K9.out.vR rfl rfl (by kernel_rfl) rfl rfl ?_; intro wz vZ t_) | ((with_reducible refine gS 3 ?_); refine wpList_storeG H8.out.vX rfl rfl rfl (by kernel_rfl) rfl (of_decide_eq_true rfl) rfl ?_; intro y9 v9 t9; have K9 : Hid (TD w y9 pb X #[.i x8, .i a2, .i a3]) := H8.out.put t9 v9 hpb hX; obtain ⟨x0, x1, x2⟩ := K9.out.vX.l3))
   refine bpR Tryz.results139 vZ Tryz.underlying31 rfl rfl (by kernel_rfl) rfl ?_
   exact ⟨x8, a2, a3, rfl, ⟨⟨by omega, by omega⟩, ⟨by omega, by omega⟩, ⟨by omega, by omega⟩⟩, cur_keep K9.out.c t_ (by omega), grown_keep K9.out.g t_ (by omega)⟩
 | true =>
  go_wp2_with fail
  refine Calls.mono (num_any pb _ H5.out.c) ?_
  rintro e6 w6 ⟨n6, rfl, hn0, hn1, c6, g6⟩
  have H6 : Hid (TD w w6 pb X #[.i a1, .i a2, .i a3]) := H5.out.grow c6 g6 hpb (by omega)
  clear c6 g6
  go_wp2_with ((with_reducible refine gS 3 ?_); refine wpList_storeG H6.out.vX rfl rfl rfl (by kernel_rfl) rfl (of_decide_eq_true rfl) rfl ?_; intro y6 v6 t6; have K6 : Hid (TD w y6 pb X #[.i a1, .i a2, .i n6]) := H6.out.put t6 v6 hpb hX)
  refine Calls.mono (once_any pb 30 _ K6.out.c (by omega) (by omega)) ?_
  rintro e7 w7 ⟨b7, rfl, c7, g7⟩
  have H7 : Hid (TD w w7 pb X #[.i a1, .i a2, .i n6]) := K6.out.grow c7 g7 hpb (by omega)
  clear c7 g7
  cases b7 with
  | false =>
   obtain ⟨x0, x1, x2⟩ := H7.out.vX.l3
   go_wp2_with ((with_reducible refine gS 31 ?_); refine sF H7.out.vR rfl rfl (by kernel_rfl) rfl rfl ?_; intro wz vZ t_)
   refine bpR Tryz.results139 vZ Tryz.underlying31 rfl rfl (by kernel_rfl) rfl ?_
   exact ⟨a1, a2, n6, rfl, ⟨⟨by omega, by omega⟩, ⟨by omega, by omega⟩, ⟨by omega, by omega⟩⟩, cur_keep H7.out.c t_ (by omega), grown_keep H7.out.g t_ (by omega)⟩
  | true =>
   go_wp2_with fail
   refine Calls.mono (pick_any pb w7.heap.size [-1, 4] _ (H7.out.c.alloc _) (by simp) (by simp) (by have := H7.out.c.lt; omega) (heap_alloc_new w7 _)) ?_
   rintro e8 w8 ⟨x8, rfl, hm8, c8, g8⟩
   have H8 : Hid (TD w w8 pb X #[.i a1, .i a2, .i n6]) := (H7.out.grow (H7.out.c.alloc _) (World.grownBy_alloc w7 _ _) hpb (by omega)).grow c8 g8 hpb (by omega)
   clear c8 g8
   have hx8 : x8 = -1 ∨ x8 = 4 := by simpa using hm8
   go_wp2_with (first | ((with_reducible refine gS 31 ?_); refine sF K9.out.vR rfl rfl (by kernel_rfl) rfl rfl ?_; intro wz vZ t_) | ((with_reducible refine gS 3 ?_); refine wpList_storeG H8.out.vX rfl rfl rfl (by kernel_rfl) rfl (of_decide_eq_true rfl) rfl ?_; intro y9 v9 t9; have K9 : Hid (TD w y9 pb X #[.i x8, .i a2, .i n6]) := H8.out.put t9 v9 hpb hX; obtain ⟨x0, x1, x2⟩ := K9.out.vX.l3))
   refine bpR Tryz.results139 vZ Tryz.underlying31 rfl rfl (by kernel_rfl) rfl ?_
   exact ⟨x8, a2, n6, rfl, ⟨⟨by omega, by omega⟩, ⟨by omega, by omega⟩, ⟨by omega, by omega⟩⟩, cur_keep K9.out.c t_ (by omega), grown_keep K9.out.g t_ (by omega)⟩
end
section
def AsI (w : World) (X : Nat) (v : Value) (zs : List Int) : Prop :=
 isBytes zs ∧ ((v = .slice none 0 0 ∧ zs = []) ∨ ∃ (g : Nat) (cs : Array Value), X < g ∧ v = .slice (some ⟨g, 0, none⟩) zs.length cs.size ∧ w.heap[g]? = some (.cells cs 5 (cs.size, cs.size + 1)) ∧ zs.length ≤ cs.size ∧ cs.size ≤ maxLen ∧ ∀ i, i < zs.length → cs[i]? = some (.int .u8 (zs[i]?.getD 0)))
theorem AsI.nil (w : World) (X : Nat) : AsI w X (.slice none 0 0) [] := ⟨isBytes_nil, .inl ⟨rfl, rfl⟩⟩
theorem AsI.le {w : World} {X Y : Nat} {v : Value} {zs : List Int} (h : AsI w X v zs) (hY : Y ≤ X) : AsI w Y v zs := by
 refine ⟨h.1, ?_⟩
 rcases h.2 with h | ⟨g, cs, h1, h⟩
 ·exact .inl h
 ·exact .inr ⟨g, cs, by omega, h⟩
theorem AsI.turn {w w' : World} {X : Nat} {v : Value} {zs : List Int} {S : Nat → Prop} (h : AsI w X v zs) (t : Turned S w w') (hS : ∀ b, S b → b ≤ X) : AsI w' X v zs := by
 refine ⟨h.1, ?_⟩
 rcases h.2 with h | ⟨g, cs, h1, h2, h3, h⟩
 ·exact .inl h
 ·exact .inr ⟨g, cs, h1, h2, (t.block g (lt_of_block h3) (fun e => by have := hS g e; omega)).trans h3, h⟩
theorem AsI.form {w : World} {X : Nat} {v : Value} {zs : List Int} (h : AsI w X v zs) : ∃ a c, v = .slice a zs.length c := by
 rcases h.2 with ⟨rfl, rfl⟩ | ⟨g, cs, _, rfl, _⟩
 ·exact ⟨_, _, rfl⟩
 ·exact ⟨_, _, rfl⟩
theorem AsI.rd {w : World} {X : Nat} {v : Value} {zs : List Int} (h : AsI w X v zs) : RdV w (fun b => X < b ∧ b < w.heap.size) v (.bytes zs) := by
 obtain ⟨hb, ⟨rfl, rfl⟩ | ⟨g, cs, h1, rfl, h3, h4, h5, h6⟩⟩ := h
 ·exact OwV.rd (OwV.nilB _ _)
 ·have hl := lt_of_block h3
  refine ⟨hb, _, _, _, rfl, rfl, ⟨h4, h5, fun e => by cases e⟩, .inr ⟨g, 0, rfl, ⟨h1, hl⟩, hl, fun i hi => ?_⟩⟩
  rw [Nat.zero_add, cell_of_row _ _ _ _ _ _ h3]
  exact h6 i hi
theorem rdOne {w : World} {g n c : Nat} {zs : List Int} {T : TypeId} {f : Nat × Nat} {cs : Array Value} (hb : isBytes zs) (hn : n = zs.length) (h3 : w.heap[g]? = some (.cells cs T f)) (h4 : n ≤ c) (h5 : c ≤ maxLen) (h6 : ∀ i, i < zs.length → cs[i]? = some (.int .u8 (zs[i]?.getD 0))) {S : Nat → Prop} (hS : S g) : RdV w S (.slice (some ⟨g, 0, none⟩) n c) (.bytes zs) := by
 subst hn
 refine ⟨hb, _, _, _, rfl, rfl, ⟨h4, h5, fun e => by cases e⟩, .inr ⟨g, 0, rfl, hS, lt_of_block h3, fun i hi => ?_⟩⟩
 rw [Nat.zero_add, cell_of_row _ _ _ _ _ _ h3]
 exact h6 i hi
theorem bcells_at {zs : List Int} {i : Nat} (hi : i < zs.length) : (bcells zs)[i]? = some (.int .u8 (zs[i]?.getD 0)) := by
 unfold bcells
 rw [List.getElem?_map, List.getElem?_eq_getElem hi]
 simp
theorem app_at {zs : List Int} {x : Int} {r : Array Value} {i : Nat} (hi : i < (zs ++ [x]).length) : ((bcells zs).toArray ++ #[Value.int .u8 x] ++ r)[i]? = some (.int .u8 ((zs ++ [x])[i]?.getD 0)) := by
 have := bcells_at hi
 rw [← this]
 rw [Array.getElem?_append_left (by simp at hi ⊢; omega)]
 simp [bcells]
theorem AsI.app {W : World} {X : Nat} {v : Value} {zs : List Int} (h : AsI W X v zs) (hl : zs.length ≤ 100) (hX : X < W.heap.size) (ty : TypeId) (a : Addr) (c : Nat) (x : Int) (h0 : 0 ≤ x) (h1 : x ≤ 255) (ha : W.cell? a = some (.int .u8 x)) :
  ∃ v' w', (Builtin.append_ #[22, 22] ty #[v, .slice (some a) 1 c]).run Tryz.prog W = .ok v' w' ∧ RdV w' (fun b => X < b ∧ b < w'.heap.size) v' (.bytes (zs ++ [x])) ∧ Turned (fun b => X < b) W w' := by
 obtain ⟨i0, hi, hz0, hz1, hz2⟩ := info_parts Tryz.infoB
 have hbs : isBytes (zs ++ [x]) := isBytes_append h.1 (isBytes_cons h0 h1 isBytes_nil)
 have hnews : ∀ j u, ([Value.int .u8 x])[j]? = some u → W.cell? (a.add j) = some u := by
  intro j u hu
  cases j with
  | zero =>
   have e : a.add 0 = a := by cases a; simp [Addr.add]
   rw [e, ha]; simpa using hu
  | succ j => simp at hu
 have TN : ∀ cs, Turned (fun b => X < b) W (W.drew.alloc (.cells cs 5)) := fun cs => Turned.ofBelow (Below.alloc (Below.drew (Below.refl _ _)) (Nat.le_refl _) _)
 have HN : ∀ cs, (W.drew.alloc (.cells cs 5)).heap[W.heap.size]? = some (.cells cs 5 (0, 0)) := fun cs => heap_alloc_new W.drew _
 have HS : ∀ cs, X < W.heap.size ∧ W.heap.size < (W.drew.alloc (.cells cs 5)).heap.size := fun cs => ⟨hX, by simp⟩
 rcases h.2 with ⟨rfl, rfl⟩ | ⟨g, cs, hg, rfl, hh, hn, hm, hc⟩
 ·have hr := run_append_nil (P := Tryz.prog) W 22 ty 5 i0 (.int .u8 0) Tryz.underlying22 hi hz0 a 1 c [.int .u8 x] (by simp [hz1]) hnews (by omega) (by omega) (by omega)
  refine ⟨_, _, hr, rdOne hbs (by simp) (HN _) (grownCap_ge _ _ _ _) (grownCap_le_maxLen _ _ _ _ (by unfold maxLen; omega)) (fun i hi => ?_) (HS _), TN _⟩
  have := app_at (zs := []) (x := x) (r := Builtin.zeroCells (Value.int .u8 0).cells (grownCap W 1 0 5 - 1)) hi
  simpa [bcells] using this
 ·by_cases hroom : zs.length + 1 ≤ cs.size
  ·have hcell : W.cell? ⟨g, zs.length, none⟩ = some cs[zs.length] := by simp [World.cell?, hh, show zs.length < cs.size by omega]
   have hfro : W.frozen? ⟨g, zs.length, none⟩ = false := by simp [World.frozen?, hh]; omega
   have hadd : (⟨g, 0, none⟩ : Addr).add (zs.length * 1) = ⟨g, zs.length, none⟩ := by unfold Addr.add; split <;> simp_all
   have hadd0 : (⟨g, zs.length, none⟩ : Addr).add 0 = ⟨g, zs.length, none⟩ := by simp [Addr.add]
   have hst : (store ⟨g, zs.length, none⟩ (.int .u8 x)).run Tryz.prog W = .ok () (W.setCell ⟨g, zs.length, none⟩ (.int .u8 x)) := by
    rw [run_store Tryz.prog W _ _ _ rfl, hcell]; simp [hfro]
   have hsc : (storeCells ((⟨g, 0, none⟩ : Addr).add (zs.length * 1)) [.int .u8 x]).run Tryz.prog W = .ok () (W.setCell ⟨g, zs.length, none⟩ (.int .u8 x)) := by
    rw [hadd]; simp [storeCells, hadd0, hst]
   have hf := run_firstCells_some (P := Tryz.prog) W 1 1 a 1 c [.int .u8 x] rfl hnews
   refine ⟨.slice (some ⟨g, 0, none⟩) (zs.length + 1) cs.size, W.setCell ⟨g, zs.length, none⟩ (.int .u8 x), ?_, ?_, (Turned.refl _ W).set _ _ hg⟩
   ·simp [Builtin.append_, run_underlying Tryz.underlying22, sizeOf, typeInfo, hi, hz1, Builtin.lenOf, hroom, hf]
    simp only [Nat.mul_one] at hsc
    rw [hsc]; rfl
   ·have hh2 : (W.setCell ⟨g, zs.length, none⟩ (.int .u8 x)).heap[g]? = some (.cells (cs.setIfInBounds zs.length (.int .u8 x)) 5 (cs.size, cs.size + 1)) := by
     have hlt := lt_of_block hh
     have hget : W.heap[g] = .cells cs 5 (cs.size, cs.size + 1) := by have := hh; rw [Array.getElem?_eq_getElem hlt] at this; simpa using this
     have hlt2 : g < (W.setCell ⟨g, zs.length, none⟩ (.int .u8 x)).heap.size := by simpa [World.setCell] using hlt
     rw [Array.getElem?_eq_getElem hlt2]
     simp only [World.setCell]
     rw [Array.getElem_modify_self]
     simp [hget]
    have hlt : g < (W.setCell ⟨g, zs.length, none⟩ (.int .u8 x)).heap.size := lt_of_block hh2
    refine rdOne hbs (by simp) hh2 hroom hm (fun i hi => ?_) ⟨hg, hlt⟩
    have hi' : i < zs.length + 1 := by simpa using hi
    by_cases hiz : i = zs.length
    ·subst hiz
     simp [show zs.length < cs.size by omega]
    ·have h3 := hc i (by omega)
     rw [Array.getElem?_setIfInBounds_ne (by omega), h3, List.getElem?_append_left (by omega)]
  ·have hr := run_append_grow (P := Tryz.prog) W 22 ty 5 i0 (.int .u8 0) Tryz.underlying22 hi hz0 ⟨g, 0, none⟩ zs.length cs.size (bcells zs) (by simp [hz1]) (fun j u hu => ?_) a 1 c [.int .u8 x] (by simp [hz1]) hnews (by omega) (by omega) (growslice_fits (by omega) (by rw [hz2]; omega))
   ·refine ⟨_, _, hr, rdOne hbs (by simp) (HN _) (grownCap_ge _ _ _ _) (grownCap_le_maxLen _ _ _ _ (by unfold maxLen; omega)) (fun i hi => ?_) (HS _), TN _⟩
    exact app_at hi
   ·have hj : j < zs.length := by
     rcases Nat.lt_or_ge j zs.length with h | h
     ·exact h
     ·rw [List.getElem?_eq_none (by simpa using h)] at hu; cases hu
    have hadd : (⟨g, 0, none⟩ : Addr).add j = ⟨g, j, none⟩ := by unfold Addr.add; split <;> simp_all
    rw [bcells_at hj] at hu
    rw [hadd, cell_of_row _ _ _ _ _ _ hh, ← hu]
    exact hc j hj
theorem wpList_appF {ops : Array Oper} {rest : List Oper} {o : Oper} {a : Act} {Q : Exit → Act → World → Prop} (w : World) (hgd : o.guard = none) (s x : Operand)
  (ho : o.op = .call { callee := .builtin .append, args := #[s, x], argTypes := #[22, 22] })
  (v : Value) (hs : a.eval s = v) (X : Nat) (zs : List Int) (hA : AsI w X v zs) (hl : zs.length ≤ 100) (hX : X < w.heap.size) (ad : Addr) (c : Nat) (y : Int) (hx : a.eval x = .slice (some ad) 1 c) (h0 : 0 ≤ y) (h1 : y ≤ 255) (ha : w.cell? ad = some (.int .u8 y))
  (h : ∀ va vn vc w', RdV w' (fun b => X < b ∧ b < w'.heap.size) (.slice va vn vc) (.bytes (zs ++ [y])) → Turned (fun b => X < b) w w' → wpList Tryz.prog ops Q rest (a.put o.dst (.slice va vn vc)) w') : wpList Tryz.prog ops Q (o :: rest) a w := by
 obtain ⟨v', w', hrun, hr, ht⟩ := hA.app hl hX o.type ad c y h0 h1 ha
 obtain ⟨va, vc, rfl⟩ := RdV.sliceB hr
 refine wpList_plain hgd fun K hK => ?_
 unfold Oper.wp execOp
 simp only [ho, resolve, invoke, builtin, Sem.run_bind, Sem.run_pure, Result.andThen_ok, List.map_toArray, List.map_cons, List.map_nil, hs, hx, hrun]
 exact hK _ _ (h _ _ _ w' hr ht)
set_option maxHeartbeats 2000000 in
theorem draws4b_any (pb : Nat) (w : World) (h : CurAt w pb) :
  Calls Tryz.prog 167 #[.pointer (some ⟨pb, 0, none⟩)] w fun e w' => ∃ a n c zs, e = .returned (.slice a n c) ∧ AsI w' w.heap.size (.slice a n c) zs ∧ zs.length ≤ 2 ∧ CurAt w' pb ∧ w.grownBy w' (some pb) := by
 have hpb := h.lt
 have hcv : ∀ s W, (convert 9 22 (.string s)).run Tryz.prog W = .ok (.slice (some ⟨W.heap.size, 0, none⟩) s.size (grownCap W s.size 0 5)) (Lib.bytesWorld W 5 s) := fun s W => Lib.run_convert_string_bytes W _ _ _ s Tryz.underlying9 Tryz.underlying22 Tryz.underlying5
 have HCV : Hid _ := hcv
 clear hcv
 go_enter Tryz.func167, Tryz.ntmps167
 go_wp2_with fail
 refine (below_any pb 6 _ (h.alloc _) (by omega) (by omega)).mono ?_
 rintro e w1 ⟨x, rfl, hx0, hx1, hc1, hg1⟩
 have hV : VarA w1 w.heap.size 9 _ := (hg1.block w.heap.size (by simp) (fun e => by have e2 : w.heap.size = pb := (by simpa using e); omega)).trans (heap_alloc_new w _)
 have v0 := hV.c 0 rfl
 have v1 := hV.c 1 rfl
 have v2 := hV.c 2 rfl
 have v3 := hV.c 3 rfl
 have v4 := hV.c 4 rfl
 have v5 := hV.c 5 rfl
 have z1 := hg1.size
 rw [World.size_alloc] at z1
 have HFIN : Hid (∀ s : ByteArray, s.size ≤ 2 → ∃ a n c zs, Ending.returned (.slice (some ⟨w1.heap.size, 0, none⟩) s.size (grownCap w1 s.size 0 5)) = Ending.returned (.slice a n c) ∧ AsI (Lib.bytesWorld w1 5 s) w.heap.size (.slice a n c) zs ∧ zs.length ≤ 2 ∧ CurAt (Lib.bytesWorld w1 5 s) pb ∧ w.grownBy (Lib.bytesWorld w1 5 s) (some pb)) := fun s hs => by
  have hge := grownCap_ge w1 s.size 0 5
  have hsz : (Lib.bytesCells w1 5 s).size = grownCap w1 s.size 0 5 := by
   have : s.data.size = s.size := rfl
   simp [Lib.bytesCells]; omega
  refine ⟨_, _, _, bsOf s, rfl, ⟨bsOf_bytes s, .inr ⟨w1.heap.size, Lib.bytesCells w1 5 s, by omega, by rw [bsOf_len, hsz], Lib.bytesWorld_at_new w1 _ s, by rw [bsOf_len, hsz]; exact hge, by rw [hsz]; exact grownCap_le_maxLen _ _ _ _ (by unfold maxLen; omega), fun i hi => ?_⟩⟩, by rw [bsOf_len]; exact hs, hc1.below (bytesWorld_below w1 s), grown_trans (grown_trans (World.grownBy_alloc w _ _) hg1) (grown_below (bytesWorld_below w1 s))⟩
  rw [bsOf_len] at hi
  have hc := Lib.bytesWorld_cell w1 5 s i hi
  rw [cell_of_row _ _ _ _ _ _ (Lib.bytesWorld_at_new w1 _ s)] at hc
  have hi' : i < s.data.toList.length := by rw [Array.length_toList]; exact hi
  rw [hc]
  unfold bsOf
  rw [List.getElem?_map, List.getElem?_eq_getElem hi']
  simp [List.getD, List.getElem?_eq_getElem hi']
 clear hV hg1 hc1 h
 have hx : x = 0 ∨ x = 1 ∨ x = 2 ∨ x = 3 ∨ x = 4 ∨ x = 5 := by omega
 rcases hx with rfl | rfl | rfl | rfl | rfl | rfl
 ·have hcv := HCV.out ⟨#[97]⟩ w1
  go_wp2
  go_ret
  exact HFIN.out ⟨#[97]⟩ (by decide)
 ·have hcv := HCV.out ⟨#[98]⟩ w1
  go_wp2
  go_ret
  exact HFIN.out ⟨#[98]⟩ (by decide)
 ·have hcv := HCV.out ⟨#[99]⟩ w1
  go_wp2
  go_ret
  exact HFIN.out ⟨#[99]⟩ (by decide)
 ·have hcv := HCV.out ⟨#[100]⟩ w1
  go_wp2
  go_ret
  exact HFIN.out ⟨#[100]⟩ (by decide)
 ·have hcv := HCV.out ⟨#[97, 98]⟩ w1
  go_wp2
  go_ret
  exact HFIN.out ⟨#[97, 98]⟩ (by decide)
 ·have hcv := HCV.out ⟨#[122, 122]⟩ w1
  go_wp2
  go_ret
  exact HFIN.out ⟨#[122, 122]⟩ (by decide)
end
end Go.Proofs.YtklhikadhohjbaaGreat
