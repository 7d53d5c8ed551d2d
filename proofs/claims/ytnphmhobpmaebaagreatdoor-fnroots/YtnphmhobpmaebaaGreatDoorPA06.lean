/- Joined: RF1 IC29 DP7 RF2. -/
import Derived.RangeFuncFrom
import Derived.RangeFuncNested
import Derived.RangeFuncBound
import Derived.RangeFuncCalls
import Derived.RangeFuncLeaves
import Derived.Shelf.Abstract
import Derived.Shelf.RegionOpen
import Derived.WalkKit
import Derived.OwnWalkIn
import Derived.TacticsInMore
import Derived.LoopNIn
import Derived.LoopIn
import Derived.Test.YtnphmhobpmaebaaGreatDoorPA00
import Derived.Test.YtnphmhobpmaebaaGreatDoorPSpecD18
import Derived.Test.YtnphmhobpmaebaaGreatDoorPA04
import Derived.Test.YtnphmhobpmaebaaGreatDoorPA03
import Derived.Test.YtnphmhobpmaebaaGreatDoorPA05

namespace Go.Proofs.YtnphmhobpmaebaaGreatDoor
open Go.RowKit
set_option linter.unusedVariables false
set_option linter.unusedSimpArgs false
set_option maxRecDepth 100000
section
open Go.RowKit Go.Shelf
attribute [local go_sem] Oper.semAt_some

theorem treesOf0 (w : World) : Calls Tryz.prog 57 #[.slice none 0 0] w fun e w' => e = .returned (.func (.func 92) #[] #[.pointer (some ⟨w.heap.size, 0, none⟩)]) ∧ w' = w.alloc (.cells #[.slice none 0 0] 42) := by
  go_enter Tryz.func57, Tryz.ntmps57
  go_wp2
  go_ret
  exact ⟨rfl, rfl⟩
set_option maxHeartbeats 2000000 in
theorem trees0 (y b : Nat) (w : World) (hb : VarA w b 42 #[.slice none 0 0]) : Calls Tryz.prog 92 #[.func (.yield y) #[] #[], .pointer (some ⟨b, 0, none⟩)] w fun e w' => (∃ v, e = .returned v) ∧ Below w.heap.size w w' := by
  have HB : Hid (VarA w b 42 #[.slice none 0 0]) := hb
  clear hb
  go_enter Tryz.func92, Tryz.ntmps92
  go_wp2_with fail
  refine Calls.mono (implRoot_any _) ?_
  rintro e w2 ⟨a, n, c, rfl, _, b2⟩
  have c0 := ((HB.out.step b2).alloc (.cells #[.slice a n c] 25)).l1
  have HB2 : Hid (Below w.heap.size w (w2.alloc (.cells #[.slice a n c] 25))) := b2.trans ((Below.newH (w := w2) _).mono b2.size)
  clear b2
  go_wp2
  go_loopw [11] (fun p wr => p = .int .i64 0 ∧ Below w.heap.size w wr) (fun _ _ => 0)
  case atStart => exact ⟨rfl, HB2.out⟩
  case round =>
    obtain ⟨rfl, hB⟩ := hrel
    go_wp2
    go_end0
    exact ⟨⟨_, rfl⟩, hB⟩
theorem grown_none {a b : World} (h : Below a.heap.size a b) : a.grownBy b none := ⟨h.os, h.tape, h.output, h.size, fun k hk _ => h.block k hk⟩
/-- The iterator over no deeds hands nothing on. -/
theorem seq0 (n b n0 : Nat) (w : World) (hb : VarA w b 42 #[.slice none 0 0]) (enc : Empty → Array Value) :
    SeqStopsK Fence.wide n Tryz.prog 92 #[.pointer (some ⟨b, 0, none⟩)] enc (Below n0) (fun _ => True) (fun _ => True) 0 w := fun y J Jx W hW hJ hJx hY h0 => by
  refine callsIn_wide.2 ((trees0 y b W (hb.step hW)).mono (fun e W' h => ?_))
  exact ⟨h.1, .inl ⟨[], trivial, hJ [] W W' none h0 (grown_none h.2) (fun r e => by cases e)⟩⟩
set_option maxHeartbeats 4000000 in
theorem behind0 (w : World) : Calls Tryz.prog 23 #[.slice none 0 0] w fun e w' => ∃ a n c, e = .returned (.tuple #[.agg #[.slice a n c], .nilIface]) ∧ RdV w' (fun b => w.heap.size ≤ b ∧ b < w'.heap.size) (.slice a n c) (ndsDt [rootN]) ∧ Below w.heap.size w w' := by
  refine (callsIn_wide (n := 5)).1 ?_
  refine callsIn_of_wp_marks Tryz.func23 rfl trivial ?_ rfl
  simp only [Tryz.ntmps23, List.size_toArray, List.length_cons, List.length_nil, Nat.reduceAdd, Nat.reduceSub, Array.replicate_succ, Array.replicate_zero, List.push_toArray, List.append_toArray, List.nil_append, List.cons_append]
  gi_wp2_with (first | (refine ⟨trivial, ?_⟩; gi_at_call 5; refine (callsIn_wide.2 (implRoot_any _)).mono ?_; rintro e w2 ⟨a, n, c, rfl, o2, b2⟩) | (refine ⟨trivial, ?_⟩; gi_at_call 57; refine (callsIn_wide.2 (treesOf0 _)).mono ?_; rintro e w3 ⟨rfl, rfl⟩))
  obtain ⟨w0, hw0⟩ : ∃ W, W = (w2.alloc (.cells #[.slice a n c] 25)).alloc (.cells #[.slice none 0 0] 42) := ⟨_, rfl⟩
  have z2 := b2.size
  simp only [World.size_alloc] at z2
  have B2 : Below w.heap.size w w2 := (((Below.refl _ _).alloc (Nat.le_refl _) _).alloc (by simp) _).trans (b2.mono (by simp; omega))
  have b20 : Below w2.heap.size w2 w0 := by rw [hw0]; exact Below.newH2 _ _
  have HB0 : Hid (Below w.heap.size w w0) := B2.trans (b20.mono B2.size)
  have HV2 : Hid (VarA w0 w.heap.size 25 #[.slice none 0 0]) := (((VarA.new w _ _).alloc _).step b2).step b20
  have HV3 : Hid (VarA w0 (w.heap.size + 1) 60 #[.nilIface]) := ((by simpa using VarA.new (w.alloc (.cells #[.slice none 0 0] 25)) 60 #[.nilIface] : VarA _ (w.heap.size + 1) _ _).step b2).step b20
  have HV4 : Hid (VarA w0 w2.heap.size 25 #[.slice a n c]) := by rw [hw0]; exact (VarA.new w2 _ _).alloc _
  have HV5 : Hid (VarA w0 (w2.heap.size + 1) 42 #[.slice none 0 0]) := by show VarA _ _ _ _; rw [hw0]; simpa using VarA.new (w2.alloc (.cells #[.slice a n c] 25)) 42 #[.slice none 0 0]
  have HR : Hid (RdV w0 (fun b => w.heap.size + 2 ≤ b ∧ b < w0.heap.size) (.slice a n c) (ndsDt [rootN])) := RdV.mono (fun b hb => by simp only [World.size_alloc] at hb; exact ⟨by omega, by have := b20.size; omega⟩) (RdV.step (OwV.rd o2) b20)
  have z0 : w.heap.size + 2 ≤ w0.heap.size := by have := b20.size; omega
  have z4 := HV4.out.lt
  rw [← hw0]
  clear o2 b2 B2 b20 hw0
  refine wpIn_rangeFunc_ownF (α := Empty) rfl (by omega) (gf := 92) (lb := #[.pointer (some ⟨w2.heap.size + 1, 0, none⟩)]) rfl trivial (enters_of Tryz.func92 (by kernel_rfl) rfl)
    (seq0 (5 - 1) (w2.heap.size + 1) w0.heap.size w0 HV5.out (fun x => x.elim)) belowK_t (belowK_b (Nat.le_refl _)) (Below.refl _ _) (fun x => x.elim)
    (fun _ W => Below w0.heap.size w0 W) (fun _ _ _ => False) (ownFrom_below (Nat.le_refl _) (Nat.le_refl _)) (fun _ _ _ _ _ hs _ _ => hs) (Below.refl _ _) (fun x => x.elim) ?assign ?body ?done ?stop
  case assign => exact fun l x => x.elim
  case body => exact fun l pre x => x.elim
  case stop =>
    rintro D cc pre W _ _ h _
    exact h.elim
  case done =>
    rintro D xs W hD _ hB hK
    have v2 := HV2.out.step hB
    have v3 := HV3.out.step hB
    have v4 := HV4.out.step hB
    have c2 := v2.l1
    have c3 := v3.l1
    have c4 := v4.l1
    have f2 := v2.fz
    have f3 := v3.fz
    have HV : Hid (VarA W w.heap.size 25 #[.slice none 0 0] ∧ VarA W (w.heap.size + 1) 60 #[.nilIface]) := ⟨v2, v3⟩
    have HBW : Hid (Below w0.heap.size w0 W) := hB
    have HKK : Hid (W.heap[D]? = some (.deferred (some []))) := hK
    clear v2 v3 v4 hB hK
    gi_wp2
    obtain ⟨W2, hW2⟩ : ∃ V, V = (W.setCell ⟨w.heap.size, 0, none⟩ (.slice a n c)).setCell ⟨w.heap.size + 1, 0, none⟩ .nilIface := ⟨_, rfl⟩
    have u2 : VarA W2 w.heap.size 25 #[.slice a n c] := by rw [hW2]; exact (HV.out.1.set 0 _).aside (by dsimp only; omega) _
    have u3 : VarA W2 (w.heap.size + 1) 60 #[.nilIface] := by rw [hW2]; exact (HV.out.2.aside (by dsimp only; omega) _).set 0 _
    have uK : W2.heap[D]? = some (.deferred (some [])) := by rw [hW2, heap_setCell_other _ _ _ _ (by dsimp only; omega), heap_setCell_other _ _ _ _ (by dsimp only; omega)]; exact HKK.out
    have uB : Below w.heap.size w W2 := by rw [hW2]; exact ((HB0.out.trans (HBW.out.mono HB0.out.size)).setCell (p := ⟨w.heap.size, 0, none⟩) (Nat.le_refl _) _).setCell (p := ⟨w.heap.size + 1, 0, none⟩) (by dsimp only; omega) _
    have uR : RdV W2 (fun b => w.heap.size + 2 ≤ b ∧ b < w0.heap.size) (.slice a n c) (ndsDt [rootN]) := by
      refine RdV.keep ⟨?_, fun b hb hlt => ?_⟩ (RdV.step HR.out HBW.out)
      · rw [hW2]; simp
      · rw [hW2, heap_setCell_other _ _ _ _ (by dsimp only; omega), heap_setCell_other _ _ _ _ (by dsimp only; omega)]
    have uz : W.heap.size ≤ W2.heap.size := by rw [hW2]; simp
    have hz := HBW.out.size
    rw [← hW2]
    clear hW2
    have hDW := (Array.getElem?_eq_some_iff.1 uK).1
    obtain ⟨W3, hW3⟩ : ∃ V, V = W2.putObj D (.deferred none) := ⟨_, rfl⟩
    have bK : Below w0.heap.size W2 W3 := by rw [hW3]; exact belowK_b (w := w0) (Nat.le_refl _) W2 D _ _ hD uK rfl rfl
    have q2 : W3.heap[w.heap.size]? = W2.heap[w.heap.size]? := bK.block _ (by omega)
    have q3 : W3.heap[w.heap.size + 1]? = W2.heap[w.heap.size + 1]? := bK.block _ (by omega)
    have d2 : W3.cell? ⟨w.heap.size, 0, none⟩ = some (.slice a n c) := (World.cell?_of_block (a := ⟨w.heap.size, 0, none⟩) q2).trans u2.l1
    have d3 : W3.cell? ⟨w.heap.size + 1, 0, none⟩ = some .nilIface := (World.cell?_of_block (a := ⟨w.heap.size + 1, 0, none⟩) q3).trans u3.l1
    have hBZ : Below w.heap.size w W3 := uB.trans (bK.mono (by omega))
    have hRZ : RdV W3 (fun b => w.heap.size ≤ b ∧ b < W3.heap.size) (.slice a n c) (ndsDt [rootN]) := RdV.mono (fun b hb => ⟨by omega, by have := bK.size; omega⟩) (RdV.keep ⟨bK.size, fun b hb hlt => bK.block b hb.2⟩ uR)
    refine ⟨by simp, .inl ⟨_, _, rfl, run_takeDeferred uK, ?_⟩⟩
    rw [← hW3]
    exact ⟨.tuple #[.agg #[.slice a n c], .nilIface], by simp [results, Tryz.results23, go_sem, d2, d3], _, _, _, rfl, hRZ, hBZ⟩
end
section
open Go.Maps
/-- What the program does on its map is what the specification does on its nodes. -/
structure DoAg (l : List Nd) (o : OpD) (fr : Hd) : Prop where
  ok : FOk (atH l l.length)
  one : OneH l
  ins : ∀ i, i < l.length → HIn (l[i]?.getD nd0).h
  rep : (doF (atH l l.length) l.length o fr).2.2 = (dO l o fr).2
  mem : ∀ n, n ∈ (dO l o fr).1 ↔ (doF (atH l l.length) l.length o fr).1 n.h = some n
  srt : (dO l o fr).1.Pairwise (fun a b => byHd a.h b.h < 0)
  len : (dO l o fr).1.length ≤ 3000 ∧ (doF (atH l l.length) l.length o fr).2.1 ≤ 3000
  hin : ∀ g n, (doF (atH l l.length) l.length o fr).1 g = some n → HIn g
  op : OOk o = true
theorem implDoA (b s : Nat) (f : Hd → Option Nd) (o : OpD) (fr : Hd) (y z : Value) (S2 P : Nat → Prop) (w : World) (N : NM w b s f P) (ok : FOk f) (hin : HIn o.dir) (hito : HIn o.to) (hfr : HIn fr) (r2 : RdV w S2 y (.bytes o.nm)) (r3 : RdV w S2 z (.bytes o.asn)) (hS2 : ∀ c, S2 c → ¬ P c) (hSS : ∀ c, S2 c → c < w.heap.size) (hnm : o.nm.length ≤ 2097152) (hna : o.asn.length ≤ 2097152) (hs : s ≤ 2097000) (hok : OOk o = true) :
    Calls Tryz.prog 21 #[.map (some b), opV o y z, fr.v] w (DSub w b P (doF f s o fr)) := by
  have hk := OOk_kind hok
  rcases kinds hk.1 hk.2 with h | h | h | h | h | h | h | h
  · exact implDo0 b s f o fr y z S2 P w N ok hin hito hfr r2 r3 hS2 hSS hnm hna hs hok h
  · exact implDo1 b s f o fr y z S2 P w N ok hin hito hfr r2 r3 hS2 hSS hnm hna hs hok h
  · exact implDo2 b s f o fr y z S2 P w N ok hin hito hfr r2 r3 hS2 hSS hnm hna hs hok h
  · exact implDo3 b s f o fr y z S2 P w N ok hin hito hfr r2 r3 hS2 hSS hnm hna hs hok h
  · exact implDo4 b s f o fr y z S2 P w N ok hin hito hfr r2 r3 hS2 hSS hnm hna hs hok h
  · exact implDo5 b s f o fr y z S2 P w N ok hin hito hfr r2 r3 hS2 hSS hnm hna hs hok h
  · exact implDo6 b s f o fr y z S2 P w N ok hin hito hfr r2 r3 hS2 hSS hnm hna hs hok h
  · exact implDo7 b s f o fr y z S2 P w N ok hin hito hfr r2 r3 hS2 hSS hnm hna hs hok h
/-- A map of the nodes copied. -/
theorem NM.copied {w w' : World} {a : Option Addr} {n c : Nat} {l : List Nd} {lo : Nat} (ho : OneH l) (o : OwV w (fun b => lo ≤ b ∧ b < w.heap.size) (.slice a n c) (ndsDt l)) (hin : ∀ i, i < l.length → HIn (l[i]?.getD nd0).h) (hl : l.length ≤ 2097152) :
    ∃ X, EntsAt w (.slice a n c) l X ∧ ∀ w', Below w.heap.size w w' → w.heap.size < w'.heap.size → MapH (ndX X) w' w.heap.size l.length (atH l l.length) → NM w' w.heap.size l.length (atH l l.length) (fun c => lo ≤ c ∧ c < w.heap.size ∨ c = w.heap.size) := by
  obtain ⟨X, Q, h1, h2, h3, h4⟩ := entsX ho o
  refine ⟨X, h1, fun w' hb hlt M => ?_⟩
  have key : ∀ g k, atH l l.length g = some k → ∃ i, i < l.length ∧ l[i]?.getD nd0 = k ∧ k.h = g := by
    intro g k hk
    rw [atH_fi] at hk
    by_cases hfi : fi l g < l.length
    · rw [if_pos hfi] at hk
      exact ⟨fi l g, hfi, Option.some.inj hk, by rw [← Option.some.inj hk]; exact fi_h hfi⟩
    · rw [if_neg hfi] at hk; cases hk
  refine ⟨X, Q, M, ?_, ?_, ?_, ?_, .inr rfl, ?_⟩
  · intro g k hk
    obtain ⟨i, _, _, h⟩ := key g k hk
    exact h
  · intro g k hk
    obtain ⟨i, hi, he, h⟩ := key g k hk
    have := h2 i hi
    rw [he, h] at this
    exact this.step hb
  · intro g k c hk hc
    obtain ⟨i, hi, he, h⟩ := key g k hk
    have := h3 i c hi (by rw [he, h]; exact hc)
    exact ⟨.inl this.1, by have := this.1.2; omega⟩
  · intro g g' k k' c hk hk' hc hc'
    obtain ⟨i, hi, he, h⟩ := key g k hk
    obtain ⟨i', hi', he', h'⟩ := key g' k' hk'
    have := h4 i i' c hi hi' (by rw [he, h]; exact hc) (by rw [he', h']; exact hc')
    subst this
    rw [← h, ← h', ← he, ← he']
  · intro c hc
    rcases hc with hc | hc <;> omega
/-- The handles of an operation that may be are of their type. -/
theorem op_in {o : OpD} (h : OOk o = true) : HIn o.dir ∧ HIn o.to := by
  unfold OOk at h
  simp only [Bool.and_eq_true] at h
  refine ⟨HOk.inn h.1.2, ?_⟩
  have ht := h.2.2.1
  unfold toB at ht
  split at ht
  · simp only [Bool.and_eq_true, decide_eq_true_eq] at ht
    exact ⟨WalkArith.wf_i64 (by omega), WalkArith.wf_i64 (by omega)⟩
  split at ht
  · exact HOk.inn ht
  · rw [of_decide_eq_true ht]; exact hd0_in
/-- What is said of the program's Do. -/
def DoI (w : World) (res : List Nd × RpD) (e : Ending) (w' : World) : Prop :=
  ∃ ta tn tc ra rn rc, ∃ (R1 R2 : Nat → Prop), e = .returned (.tuple #[.agg #[.slice ta tn tc], rpV res.2 (.slice ra rn rc)]) ∧ OwV w' R1 (.slice ta tn tc) (ndsDt res.1) ∧ OwV w' R2 (.slice ra rn rc) (ensDt res.2.list) ∧ (∀ c, R1 c → R2 c → False) ∧ (∀ c, R1 c → w.heap.size ≤ c ∧ c < w'.heap.size) ∧ (∀ c, R2 c → w.heap.size ≤ c ∧ c < w'.heap.size) ∧ Below w.heap.size w w'
set_option maxHeartbeats 4000000 in
theorem implDo_any (x y z : Value) (l : List Nd) (o : OpD) (fr : Hd) (S : Nat → Prop) (w : World) (r : RdV w S x (ndsDt l)) (r1 : RdV w S y (.bytes o.nm)) (r2 : RdV w S z (.bytes o.asn)) (hS : ∀ b, S b → b < w.heap.size) (hsz : szNds l ≤ 2097152) (hn1 : o.nm.length ≤ 2097152) (hn2 : o.asn.length ≤ 2097152) (hfr : HIn fr)
    (hag : (treeOk l && OOk o) = true → DoAg l o fr) :
    Calls Tryz.prog 6 #[.agg #[x], opV o y z, fr.v] w (DoI w (dO l o fr)) := by
  obtain ⟨xa, xc, rfl, _⟩ := RdV.sliced r
  obtain ⟨ya, yc, rfl⟩ := r1.sliceB
  obtain ⟨za, zc, rfl⟩ := r2.sliceB
  have HTO : Hid (∀ W, Below w.heap.size w W → _) := fun W hW => implTree_any (.slice xa l.length xc) l S W (r.step hW) hsz
  have HOO : Hid (∀ W, Below w.heap.size w W → _) := fun W hW => implOpOk_any (.slice ya o.nm.length yc) (.slice za o.asn.length zc) o S W (r1.step hW) (r2.step hW) hn1 hn2
  have hn : l.length ≤ 2097152 := by have : l.length ≤ szNds l := Nat.le_add_right _ _; omega
  have HCN : Hid (treeOk l = true → ∀ W, Below w.heap.size w W → _) := fun ht W hW => implCopyNd_any (.slice xa l.length xc) l S W (r.step hW) hsz (by have := (treeOk_small ht).1; omega) (fun i => ((treeOk_small ht).2 i).1)
  have HN3 : Hid (treeOk l = true → l.length ≤ 3000) := fun ht => (treeOk_small ht).1
  have HAGR : Hid ((treeOk l && OOk o) = true → DoAg l o fr) := hag
  have HR1 : Hid (RdV w S (.slice ya o.nm.length yc) (.bytes o.nm)) := r1
  have HR2 : Hid (RdV w S (.slice za o.asn.length zc) (.bytes o.asn)) := r2
  have HSS : Hid (∀ b, S b → b < w.heap.size) := hS
  have HLN : Hid (l.length ≤ 2097152 ∧ o.nm.length ≤ 2097152 ∧ o.asn.length ≤ 2097152) := ⟨hn, hn1, hn2⟩
  obtain ⟨tv, htv⟩ : ∃ t, treeI l = t := ⟨_, rfl⟩
  rw [htv] at HTO
  have HTV : Hid (treeOk l = tv) := (tree_same l).trans htv
  obtain ⟨ov_, hov⟩ : ∃ t, OOk o = t := ⟨_, rfl⟩
  rw [hov] at HOO
  have HOV : Hid (OOk o = ov_) := hov
  have HSB : Hid (∀ (ag : DoAg l o fr) (hl3 : l.length ≤ 3000) W b P, NM W b l.length (atH l l.length) P → RdV W S (.slice ya o.nm.length yc) (.bytes o.nm) → RdV W S (.slice za o.asn.length zc) (.bytes o.asn) → (∀ c, S c → ¬ P c) → (∀ c, S c → c < W.heap.size) → _) := fun ag hl3 W b P N q1 q2 h1 h2 => implDoA b l.length (atH l l.length) o fr (.slice ya o.nm.length yc) (.slice za o.asn.length zc) S P W N ag.ok (op_in ag.op).1 (op_in ag.op).2 hfr q1 q2 h1 h2 hn1 hn2 (by omega) ag.op
  have HBAD : Hid ((treeOk l && OOk o) = false → dO l o fr = ([], rc 11)) := fun h => by unfold dO; rw [if_neg (by rw [h]; simp)]
  clear r r1 r2 hsz htv hov hfr hag hS
  obtain ⟨kd, ⟨p, q, d⟩, nm, ⟨p2, q2, d2⟩, asn, ov⟩ := o
  obtain ⟨pf, qf, df⟩ := fr
  dsimp only at HTO HOO HCN HR1 HR2 HSB HLN hn1 hn2
  generalize hyn : nm.length = yn at *
  generalize hzn : asn.length = zn at *
  generalize hxn : l.length = xn at *
  go_enter Tryz.func6, Tryz.ntmps6
  go_wp2_with fail
  go_at_call 8
  refine Calls.mono (HTO.out _ (by repeat (first | exact Below.refl _ _ | refine Below.al2 ?_ _))) ?_
  rintro e w1 ⟨rfl, hb1⟩
  have m1 : DS w w1 (.slice xa xn xc) #[.int .i64 kd, .int .i64 p, .int .i64 q, .bool d, .slice ya yn yc, .int .i64 p2, .int .i64 q2, .bool d2, .slice za zn zc, .int .i64 ov] #[.int .i64 pf, .int .i64 qf, .bool df] := DS.step (wc := (((((w.alloc _).alloc _).alloc _).alloc _).alloc _)) ⟨(by repeat (first | exact Below.refl _ _ | refine Below.al2 ?_ _)), ((((VarA.new w _ _).alloc _).alloc _).alloc _).alloc _, (((by simpa using VarA.new (w.alloc _) 35 _ : VarA ((w.alloc _).alloc (.cells #[.int .i64 kd, .int .i64 p, .int .i64 q, .bool d, .slice ya yn yc, .int .i64 p2, .int .i64 q2, .bool d2, .slice za zn zc, .int .i64 ov] 35)) (w.heap.size + 1) _ _).alloc _).alloc _).alloc _, ((by simpa using VarA.new ((w.alloc _).alloc _) 28 _ : VarA (((w.alloc _).alloc _).alloc (.cells #[.int .i64 pf, .int .i64 qf, .bool df] 28)) (w.heap.size + 2) _ _).alloc _).alloc _, (by simpa using VarA.new (((w.alloc _).alloc _).alloc _) 25 _ : VarA ((((w.alloc _).alloc _).alloc _).alloc (.cells #[.slice none 0 0] 25)) (w.heap.size + 3) _ _).alloc _, (by simpa using VarA.new ((((w.alloc _).alloc _).alloc _).alloc _) 31 _ : VarA (((((w.alloc _).alloc _).alloc _).alloc _).alloc (.cells #[.int .i64 0, .int .i64 0, .int .i64 0, .bool false, .int .i64 0, .slice none 0 0] 31)) (w.heap.size + 4) _ _)⟩ hb1
  clear hb1
  have HM1 : Hid (DS w w1 (.slice xa xn xc) #[.int .i64 kd, .int .i64 p, .int .i64 q, .bool d, .slice ya yn yc, .int .i64 p2, .int .i64 q2, .bool d2, .slice za zn zc, .int .i64 ov] #[.int .i64 pf, .int .i64 qf, .bool df]) := m1
  have s1 := m1.vR.lt
  obtain ⟨q0, q1, q2_, q3, q4, q5, q6, q7, q8, q9⟩ := m1.vO.l10
  have k0 := m1.vT.l1
  clear m1
  cases tv
  case false =>
    have HBD : Hid (dO l ⟨kd, (p, q, d), nm, (p2, q2, d2), asn, ov⟩ (pf, qf, df) = ([], rc 11)) := HBAD.out (by rw [HTV.out]; rfl)
    go_wp2_with (first | ((with_reducible refine guardStore (ty := 25) ?_); refine wpList_storeF HM1.out.vX rfl rfl (by kernel_rfl) rfl (of_decide_eq_true rfl) rfl ?_; intro wy vY tY; have rY := HM1.out.vR.turn tY (by show w.heap.size + 4 ≠ w.heap.size + 3; omega)) | ((with_reducible refine guardStore (ty := 31) ?_); refine wpList_storeF rY rfl rfl (by kernel_rfl) rfl (of_decide_eq_true rfl) rfl ?_; intro wz vZ t_))
    refine bodyPost_ret (results_two Tryz.results6 _ _ _ _ _ _ _ _ _ _ rfl rfl (vY.turn t_ (by show w.heap.size + 3 ≠ w.heap.size + 4; omega)) vZ Tryz.underlying25 rfl (by kernel_rfl) Tryz.underlying31 rfl (by kernel_rfl)) rfl ?_
    rw [HBD.out]
    exact ⟨none, 0, 0, none, 0, 0, fun _ => False, fun _ => False, rfl, OwV.nilR _ _ _ _ _, OwV.nilR _ _ _ _ _, fun c hc => hc.elim, fun c hc => hc.elim, fun c hc => hc.elim, below2 HM1.out.B tY t_ (by omega) (by omega)⟩
  cases ov_
  case false =>
    have HBD : Hid (dO l ⟨kd, (p, q, d), nm, (p2, q2, d2), asn, ov⟩ (pf, qf, df) = ([], rc 11)) := HBAD.out (by rw [HTV.out, HOV.out]; rfl)
    go_wp2_with (first | (go_at_call 18; refine Calls.mono (HOO.out _ HM1.out.B) ?_; rintro e w2 ⟨rfl, hb2⟩; have HM2 : Hid (DS w w2 (.slice xa xn xc) #[.int .i64 kd, .int .i64 p, .int .i64 q, .bool d, .slice ya yn yc, .int .i64 p2, .int .i64 q2, .bool d2, .slice za zn zc, .int .i64 ov] #[.int .i64 pf, .int .i64 qf, .bool df]) := HM1.out.step hb2; clear hb2) | ((with_reducible refine guardStore (ty := 25) ?_); refine wpList_storeF HM2.out.vX rfl rfl (by kernel_rfl) rfl (of_decide_eq_true rfl) rfl ?_; intro wy vY tY; have rY := HM2.out.vR.turn tY (by show w.heap.size + 4 ≠ w.heap.size + 3; omega)) | ((with_reducible refine guardStore (ty := 31) ?_); refine wpList_storeF rY rfl rfl (by kernel_rfl) rfl (of_decide_eq_true rfl) rfl ?_; intro wz vZ t_))
    refine bodyPost_ret (results_two Tryz.results6 _ _ _ _ _ _ _ _ _ _ rfl rfl (vY.turn t_ (by show w.heap.size + 3 ≠ w.heap.size + 4; omega)) vZ Tryz.underlying25 rfl (by kernel_rfl) Tryz.underlying31 rfl (by kernel_rfl)) rfl ?_
    rw [HBD.out]
    exact ⟨none, 0, 0, none, 0, 0, fun _ => False, fun _ => False, rfl, OwV.nilR _ _ _ _ _, OwV.nilR _ _ _ _ _, fun c hc => hc.elim, fun c hc => hc.elim, fun c hc => hc.elim, below2 HM2.out.B tY t_ (by omega) (by omega)⟩
  have ag := HAGR.out (by rw [HTV.out, HOV.out]; rfl)
  obtain ⟨rp, hrp⟩ : ∃ r, (doF (atH l xn) xn ⟨kd, (p, q, d), nm, (p2, q2, d2), asn, ov⟩ (pf, qf, df)) = r := ⟨_, rfl⟩
  obtain ⟨f7, sz7, ⟨rcode, ⟨rh1, rh2, rh3⟩, rval, rlist⟩⟩ := rp
  have hrep := ag.rep
  have hmem := ag.mem
  have hlen := ag.len
  have hhin := ag.hin
  rw [hxn, hrp] at hrep hmem hlen hhin
  have HREP : Hid ((dO l ⟨kd, (p, q, d), nm, (p2, q2, d2), asn, ov⟩ (pf, qf, df)).2 = ⟨rcode, (rh1, rh2, rh3), rval, rlist⟩) := hrep.symm
  have HAS : Hid (∀ b P W, NM W b sz7 f7 P → _) := fun b P W N => ascending_any2 b sz7 f7 P W N hhin (dO l ⟨kd, (p, q, d), nm, (p2, q2, d2), asn, ov⟩ (pf, qf, df)).1 hmem ag.srt hlen.1 hlen.2
  have HSB2 : Hid (∀ W b P, NM W b xn (atH l xn) P → RdV W S (.slice ya yn yc) (.bytes nm) → RdV W S (.slice za zn zc) (.bytes asn) → (∀ c, S c → ¬ P c) → (∀ c, S c → c < W.heap.size) → Calls Tryz.prog 21 #[.map (some b), .agg #[.int .i64 kd, .int .i64 p, .int .i64 q, .bool d, .slice ya yn yc, .int .i64 p2, .int .i64 q2, .bool d2, .slice za zn zc, .int .i64 ov], .agg #[.int .i64 pf, .int .i64 qf, .bool df]] W (DSub W b P (f7, sz7, ⟨rcode, (rh1, rh2, rh3), rval, rlist⟩))) := fun W b P N q1 q2 h1 h2 => by have h9 := HSB.out ag (HN3.out HTV.out) W b P N q1 q2 h1 h2; rw [hrp] at h9; exact h9
  have HONE : Hid (OneH l) := ag.one
  have HINS : Hid (∀ i, i < xn → HIn (l[i]?.getD nd0).h) := by show ∀ i, _; rw [← hxn]; exact ag.ins
  clear HAGR HSB HBAD ag hrep hmem hlen hhin hrp
  go_wp2_with (first | (go_at_call 18; refine Calls.mono (HOO.out _ HM1.out.B) ?_; rintro e w2 ⟨rfl, hb2⟩; have m2 := HM1.out.step hb2; have HM2 : Hid (DS w w2 (.slice xa xn xc) #[.int .i64 kd, .int .i64 p, .int .i64 q, .bool d, .slice ya yn yc, .int .i64 p2, .int .i64 q2, .bool d2, .slice za zn zc, .int .i64 ov] #[.int .i64 pf, .int .i64 qf, .bool df]) := m2; have s2 := hb2.size; have k2 := m2.vT.l1; clear hb2 m2) | (go_at_call 20; refine Calls.mono (HCN.out HTV.out _ HM2.out.B) ?_; rintro e w3 ⟨ca, cn, cc, rfl, o3, b3⟩; have s3 := b3.size; have HB3 : Hid (Below w2.heap.size w2 w3) := b3; have HO3 : Hid (OwV w3 (fun b => w2.heap.size ≤ b ∧ b < w3.heap.size) (.slice ca cn cc) (ndsDt l)) := o3; clear o3 b3) | (go_at_call 19; obtain ⟨X3, hX3, hN3⟩ := NM.copied (w' := w3) (lo := w2.heap.size) HONE.out HO3.out (by rw [hxn]; exact HINS.out) (by rw [hxn]; omega); have hq := nodesX_any (.slice ca cn cc) l _ w3 (OwV.rd HO3.out) X3 hX3 (by rw [hxn]; omega) HONE.out (by rw [hxn]; exact HINS.out); rw [hxn] at hq hN3; refine Calls.mono hq ?_; rintro e w4 ⟨rfl, b4, M4⟩; have s4 := b4.size; have l4 := M4.lt; have HM4 : Hid (DS w w4 (.slice xa xn xc) #[.int .i64 kd, .int .i64 p, .int .i64 q, .bool d, .slice ya yn yc, .int .i64 p2, .int .i64 q2, .bool d2, .slice za zn zc, .int .i64 ov] #[.int .i64 pf, .int .i64 qf, .bool df]) := (HM2.out.step HB3.out).step b4; have HN4 : Hid (NM w4 w3.heap.size xn (atH l xn) (fun c => w2.heap.size ≤ c ∧ c < w3.heap.size ∨ c = w3.heap.size)) := hN3 w4 b4 l4 M4; obtain ⟨p0, p1, p2_, p3, p4, p5, p6, p7, p8, p9⟩ := HM4.out.vO.l10; obtain ⟨f0, f1, f2⟩ := HM4.out.vF.l3; clear hX3 hN3 hq b4 M4) | (go_at_call 21; refine Calls.mono (HSB2.out w4 _ _ HN4.out (HR1.out.step HM4.out.B) (HR2.out.step HM4.out.B) (fun c hc hp => by have := HSS.out c hc; have := HM2.out.B.size; omega) (fun c hc => by have := HSS.out c hc; have := HM4.out.B.size; omega)) ?_; rintro e w6 ⟨ra, rn_, rcp, R7, P7, rfl, o7, n7, d7, r7, p7_, t7⟩; have s7 := t7.size; have HT7 : Hid (Turned _ w4 w6) := t7; have HO6 : Hid (OwV w6 R7 (.slice ra rn_ rcp) (ensDt rlist)) := o7; have HN6 : Hid (NM w6 w3.heap.size sz7 f7 P7) := n7; have HD7 : Hid (∀ c, R7 c → ¬ P7 c) := d7; have HR7 : Hid (∀ c, R7 c → w4.heap.size ≤ c ∧ c < w6.heap.size) := r7; have HP7a : Hid (∀ c, P7 c → (w2.heap.size ≤ c ∧ c < w3.heap.size ∨ c = w3.heap.size) ∨ w4.heap.size ≤ c) := p7_; clear o7 n7 d7 r7 p7_ t7))
  case _ =>
    have HP7 : Hid (∀ c, P7 c → (w.heap.size + 5 ≤ c ∧ True) ∨ w.heap.size + 5 ≤ c) := fun c hc => by have := HP7a.out c hc; exact .inr (by omega)
    refine gen_world (P := fun W => Code.wp _ _ _ _ W) (fun W => VarA W w6.heap.size 31 #[.int .i64 rcode, .int .i64 rh1, .int .i64 rh2, .bool rh3, .int .i64 rval, .slice ra rn_ rcp] ∧ Below w6.heap.size w6 W ∧ W.heap.size = w6.heap.size + 1) ⟨VarA.new w6 _ _, (by repeat (first | exact Below.refl _ _ | refine Below.al2 ?_ _)), by simp⟩ ?_
    rintro w7 ⟨vP, b7, s77⟩
    have nP : ∀ k, k ≤ w.heap.size + 4 → ¬ (w2.heap.size ≤ k ∧ k < w3.heap.size ∨ k = w3.heap.size) := fun k hk h => by omega
    have HVT : Hid (VarA w7 (w.heap.size + 3) 25 #[.slice none 0 0]) := (HM4.out.vX.turn HT7.out (nP _ (by omega))).step b7
    have HVR : Hid (VarA w7 (w.heap.size + 4) 31 #[.int .i64 0, .int .i64 0, .int .i64 0, .bool false, .int .i64 0, .slice none 0 0]) := (HM4.out.vR.turn HT7.out (nP _ (by omega))).step b7
    have HVP : Hid (VarA w7 w6.heap.size 31 #[.int .i64 rcode, .int .i64 rh1, .int .i64 rh2, .bool rh3, .int .i64 rval, .slice ra rn_ rcp]) := vP
    have HO7 : Hid (OwV w7 R7 (.slice ra rn_ rcp) (ensDt rlist)) := OwV.step HO6.out b7
    have HN7 : Hid (NM w7 w3.heap.size sz7 f7 P7) := HN6.out.step b7
    have HB7 : Hid (Below w.heap.size w w7) := (Turned.below HM4.out.B HT7.out HM4.out.B.size (fun i hi => by have := HM2.out.B.size; omega)).trans (b7.mono (by have := HM4.out.B.size; omega))
    have HS : Hid (∀ W : World, Below w7.heap.size w7 W → W.cell? ⟨w6.heap.size, 0, none⟩ = some (.int .i64 rcode) ∧ W.cell? ⟨w6.heap.size, 1, none⟩ = some (.int .i64 rh1) ∧ W.cell? ⟨w6.heap.size, 2, none⟩ = some (.int .i64 rh2) ∧ W.cell? ⟨w6.heap.size, 3, none⟩ = some (.bool rh3) ∧ W.cell? ⟨w6.heap.size, 4, none⟩ = some (.int .i64 rval) ∧ W.cell? ⟨w6.heap.size, 5, none⟩ = some (.slice ra rn_ rcp)) := fun W hW => ⟨(HVP.out.step hW).c 0 rfl, (HVP.out.step hW).c 1 rfl, (HVP.out.step hW).c 2 rfl, (HVP.out.step hW).c 3 rfl, (HVP.out.step hW).c 4 rfl, (HVP.out.step hW).c 5 rfl⟩
    have hw7 := HB7.out.size
    clear vP nP p0 p1 p2_ p3 p4 p5 p6 p7 p8 p9 f0 f1 f2 k2 q0 q1 q2_ q3 q4 q5 q6 q7 q8 q9 k0
    refine wp_region_noPanic ?_
    refine wp_region_held_drew (S := fun W => W.cell? ⟨w6.heap.size, 0, none⟩ = some (.int .i64 rcode) ∧ W.cell? ⟨w6.heap.size, 1, none⟩ = some (.int .i64 rh1) ∧ W.cell? ⟨w6.heap.size, 2, none⟩ = some (.int .i64 rh2) ∧ W.cell? ⟨w6.heap.size, 3, none⟩ = some (.bool rh3) ∧ W.cell? ⟨w6.heap.size, 4, none⟩ = some (.int .i64 rval) ∧ W.cell? ⟨w6.heap.size, 5, none⟩ = some (.slice ra rn_ rcp)) (by kernel_rfl) (HS.out _ (Below.drew (Below.refl w7.heap.size w7))) (fun hHeld => ?_)
    refine wpAnyH_take (i := 0) (v := ?_) rfl (by kernel_rfl) (by kernel_rfl) (by kernel_rfl) (fun _ _ _ h => h) (Or.inl ⟨by rfl, ?_⟩) (by assumption) ?_
    rotate_left
    · (intro w_ hSw_; (try dsimp only at hSw_); go_simp; try with_reducible rfl)
    try simp only [Act.put, List.setIfInBounds_toArray, List.set_cons_zero, List.set_cons_succ, List.getElem_toArray, List.getElem_cons_zero, List.getElem_cons_succ]
    refine wpAnyH_take (i := 3) (v := ?_) rfl (by kernel_rfl) (by kernel_rfl) (by kernel_rfl) (fun _ _ _ h => h) (Or.inl ⟨by rfl, ?_⟩) (by assumption) ?_
    rotate_left
    · (intro w_ hSw_; (try dsimp only at hSw_); go_simp; try with_reducible rfl)
    try simp only [Act.put, List.setIfInBounds_toArray, List.set_cons_zero, List.set_cons_succ, List.getElem_toArray, List.getElem_cons_zero, List.getElem_cons_succ]
    refine wpAnyH_ready (rs := [1]) (by kernel_rfl) (by simp) ?_
    refine AllReadyH.cons rfl (fun K hK => ?_) AllReadyH.nil
    go_simp
    refine Calls.mono (HAS.out _ _ w7.drew (HN7.out.step (Below.drew (Below.refl w7.heap.size w7)))) ?_
    rintro e w8 ⟨ta, tn, tc, rfl, o8, b8⟩
    have b8p : Below w7.heap.size w7 w8 := (Below.drew (Below.refl w7.heap.size w7)).trans b8
    have s8 := b8p.size
    dsimp only
    refine hK.out _ _ (HS.out _ b8p) (fun hHeld => ?_)
    clear hK K
    try simp only [Act.put, List.setIfInBounds_toArray, List.set_cons_zero, List.set_cons_succ, List.getElem_toArray, List.getElem_cons_zero, List.getElem_cons_succ]
    refine wpAnyH_take (i := 2) (v := ?_) rfl (by kernel_rfl) (by kernel_rfl) (by kernel_rfl) (fun _ _ _ h => h) (Or.inl ⟨by rfl, ?_⟩) (by assumption) ?_
    rotate_left
    · (intro w_ hSw_; (try dsimp only at hSw_); go_simp; try with_reducible rfl)
    try simp only [Act.put, List.setIfInBounds_toArray, List.set_cons_zero, List.set_cons_succ, List.getElem_toArray, List.getElem_cons_zero, List.getElem_cons_succ]
    refine wpAnyH_ready (rs := [4]) (by kernel_rfl) (by simp) ?_
    refine AllReadyH.cons rfl (fun K hK => ?_) AllReadyH.nil
    refine step_stF ((HVT.out).step b8p) (by rfl) (by rfl) (by kernel_rfl) rfl (of_decide_eq_true rfl) rfl ?_
    intro wy vY tY
    have pY := (HVP.out.step b8p).turn tY (by show w6.heap.size ≠ w.heap.size + 3; omega)
    have rY := (HVR.out.step b8p).turn tY (by show w.heap.size + 4 ≠ w.heap.size + 3; omega)
    refine hK.out _ _ ⟨VarA.c pY 0 rfl, VarA.c pY 1 rfl, VarA.c pY 2 rfl, VarA.c pY 3 rfl, VarA.c pY 4 rfl, VarA.c pY 5 rfl⟩ (fun hHeld => ?_)
    clear hK K
    try simp only [Act.put, List.setIfInBounds_toArray, List.set_cons_zero, List.set_cons_succ, List.getElem_toArray, List.getElem_cons_zero, List.getElem_cons_succ]
    refine wpAnyH_ready (rs := [5]) (by kernel_rfl) (by simp) ?_
    refine AllReadyH.cons rfl (fun K hK => ?_) AllReadyH.nil
    refine step_stF rY (by rfl) (by rfl) (by kernel_rfl) rfl (of_decide_eq_true rfl) rfl ?_
    intro wz vZ t_
    have pZ := pY.turn t_ (by show w6.heap.size ≠ w.heap.size + 4; omega)
    refine hK.out _ _ ⟨VarA.c pZ 0 rfl, VarA.c pZ 1 rfl, VarA.c pZ 2 rfl, VarA.c pZ 3 rfl, VarA.c pZ 4 rfl, VarA.c pZ 5 rfl⟩ (fun hHeld => ?_)
    clear hK K
    try simp only [Act.put, List.setIfInBounds_toArray, List.set_cons_zero, List.set_cons_succ, List.getElem_toArray, List.getElem_cons_zero, List.getElem_cons_succ]
    refine wpAnyH_done (by kernel_rfl) (NoPanic.normal ?_) _
    clear hHeld pZ pY rY
    go_wp2
    refine bodyPost_ret (results_two Tryz.results6 _ _ _ _ _ _ _ _ _ _ rfl rfl (vY.turn t_ (by show w.heap.size + 3 ≠ w.heap.size + 4; omega)) vZ Tryz.underlying25 rfl (by kernel_rfl) Tryz.underlying31 rfl (by kernel_rfl)) rfl ?_
    have sy := tY.size
    have sz := t_.size
    refine ⟨ta, tn, tc, ra, rn_, rcp, (fun c => P7 c ∨ w7.heap.size ≤ c ∧ c < w8.heap.size), R7, ?_, ?_, ?_, ?_, ?_, ?_, ?_⟩
    · rw [HREP.out]; rfl
    · exact OwV.keep (t_.keeps (fun c hc e => by subst e; rcases hc with hc | hc; (rcases HP7.out _ hc with h | h; (have := h.1; omega); omega); omega)) (OwV.keep (tY.keeps (fun c hc e => by subst e; rcases hc with hc | hc; (rcases HP7.out _ hc with h | h; (have := h.1; omega); omega); omega)) o8)
    · rw [HREP.out]
      exact OwV.keep (t_.keeps (fun c hc e => by have := (HR7.out c hc).1; omega)) (OwV.keep (tY.keeps (fun c hc e => by have := (HR7.out c hc).1; omega)) (OwV.step HO7.out b8p))
    · intro c hc hr
      rcases hc with hc | hc
      · exact HD7.out c hr hc
      · have := (HR7.out c hr).2; omega
    · intro c hc
      rcases hc with hc | hc
      · have h9 := HN7.out.sm c hc
        rcases HP7.out _ hc with h | h
        · exact ⟨by have := h.1; omega, by omega⟩
        · exact ⟨by omega, by omega⟩
      · exact ⟨by omega, by omega⟩
    · intro c hc
      have := HR7.out c hc
      exact ⟨by omega, by omega⟩
    · exact below2 (HB7.out.trans (b8p.mono HB7.out.size)) tY t_ (by omega) (by omega)
end
section
theorem agK5 {l : List Nd} (ht : treeOk l = true) (dir tt fr : Hd) (nm asn : List Int) (ov : Int) : Ag (doD l ⟨5, dir, nm, tt, asn, ov⟩ fr) (doF (atH l l.length) l.length ⟨5, dir, nm, tt, asn, ov⟩ fr) := by
  by_cases hd : dir.dir = true
  · by_cases hf : fi l dir < l.length
    · exact ag5 ht dir tt fr nm asn ov hd hf rfl
    · have hD : doD l ⟨5, dir, nm, tt, asn, ov⟩ fr = (l, rc 1) := by unfold doD; simp [hd, hf]
      have hF : doF (atH l l.length) l.length ⟨5, dir, nm, tt, asn, ov⟩ fr = (atH l l.length, l.length, rc 1) := by unfold doF dirC; simp [at_is, hd, hf]; rfl
      rw [hD, hF]; exact ag_same ht _
  · have hD : doD l ⟨5, dir, nm, tt, asn, ov⟩ fr = (l, rc 2) := by unfold doD; simp [hd]
    have hF : doF (atH l l.length) l.length ⟨5, dir, nm, tt, asn, ov⟩ fr = (atH l l.length, l.length, rc 2) := by unfold doF dirC; simp [at_is, hd]; rfl
    rw [hD, hF]; exact ag_same ht _
theorem agK7 {l : List Nd} (ht : treeOk l = true) (dir tt fr : Hd) (nm asn : List Int) (ov : Int) : Ag (doD l ⟨7, dir, nm, tt, asn, ov⟩ fr) (doF (atH l l.length) l.length ⟨7, dir, nm, tt, asn, ov⟩ fr) := by
  by_cases hd : dir.dir = true
  · by_cases hf : fi l dir < l.length
    · exact ag7 ht dir tt fr nm asn ov hd hf rfl
    · have hD : doD l ⟨7, dir, nm, tt, asn, ov⟩ fr = (l, rc 1) := by unfold doD; simp [hd, hf]
      have hF : doF (atH l l.length) l.length ⟨7, dir, nm, tt, asn, ov⟩ fr = (atH l l.length, l.length, rc 1) := by unfold doF dirC; simp [at_is, hd, hf]; rfl
      rw [hD, hF]; exact ag_same ht _
  · have hD : doD l ⟨7, dir, nm, tt, asn, ov⟩ fr = (l, rc 2) := by unfold doD; simp [hd]
    have hF : doF (atH l l.length) l.length ⟨7, dir, nm, tt, asn, ov⟩ fr = (atH l l.length, l.length, rc 2) := by unfold doF dirC; simp [at_is, hd]; rfl
    rw [hD, hF]; exact ag_same ht _
theorem ag_do {l : List Nd} (ht : treeOk l = true) (o : OpD) (ho : OOk o = true) (fr : Hd) : Ag (dO l o fr) (doF (atH l l.length) l.length o fr) := by
  have hk := OOk_kind ho
  have htb := takes_bad l o fr
  obtain ⟨kd, dir, nm, tt, asn, ov⟩ := o
  dsimp only at hk htb
  have hdO : dO l ⟨kd, dir, nm, tt, asn, ov⟩ fr = if kd = 4 ∧ badFr l ⟨kd, dir, nm, tt, asn, ov⟩ fr = true then (l, rc 11) else doD l ⟨kd, dir, nm, tt, asn, ov⟩ fr := by
    unfold dO
    rw [if_pos (by rw [ht, ho]; rfl)]
  rcases kinds hk.1 hk.2 with rfl | rfl | rfl | rfl | rfl | rfl | rfl | rfl
  case inr.inr.inr.inr.inl =>
    cases hb : badFr l ⟨4, dir, nm, tt, asn, ov⟩ fr
    · rw [hdO, hb, if_neg (by simp)]
      rw [hb] at htb
      have htb2 : takesB fr tt (atH l l.length (fr.sh, fr.ino, false)).isSome (atH l l.length (fr.sh, fr.ino, true)).isSome l.length = true := htb
      have hpl : ∀ c, ¬ fi l (fr.sh, fr.ino, c) < l.length := fun c hc => by
        unfold takesB at htb2
        simp only [Bool.and_eq_true, Bool.not_eq_true', decide_eq_true_eq, at_is, decide_eq_false_iff_not] at htb2
        cases c
        · exact htb2.2.2.2.1 hc
        · exact htb2.2.2.2.2.1 hc
      have hok : HOk fr = true := by
        unfold takesB at htb2
        simp only [Bool.and_eq_true] at htb2
        exact htb2.1
      refine agK4 ht dir tt fr nm asn ov htb2 (HOk.inn hok) ?_ hpl
      rw [atH_fi, if_neg (by have := hpl fr.dir; exact this)]
    · rw [hdO, hb, if_pos ⟨rfl, rfl⟩]
      have hF : doF (atH l l.length) l.length ⟨4, dir, nm, tt, asn, ov⟩ fr = (atH l l.length, l.length, rc 11) := by
        unfold doF
        dsimp only
        rw [htb, hb, if_pos ⟨rfl, rfl⟩]
        rfl
      rw [hF]
      exact ag_same ht _
  all_goals rw [hdO, if_neg (by simp)]
  · exact agK0 ht dir tt fr nm asn ov
  · exact agK1 ht dir tt fr nm asn ov
  · exact agK2 ht dir tt fr nm asn ov
  · exact agK3 ht dir tt fr nm asn ov
  · exact agK5 ht dir tt fr nm asn ov
  · exact agK6 ht dir tt fr nm asn ov
  · exact agK7 ht dir tt fr nm asn ov
theorem do_ag {l : List Nd} (hsz : szNds l ≤ 2097152) (o : OpD) (fr : Hd) (h : (treeOk l && OOk o) = true) : DoAg l o fr := by
  rw [Bool.and_eq_true] at h
  obtain ⟨r, e, h1, h2, h3⟩ := ag_do h.1 o h.2 fr
  refine ⟨tree_fok h.1 hsz, tree_one h.1, fun i hi => ?_, e, r.mem, ?_, ⟨h1, h2⟩, h3, h.2⟩
  · exact ndI_h (by rw [← nd_same]; exact tree_nd h.1 (node_mem hi))
  · refine r.asc.imp (fun {a b} hx => (byHd_lt _ _).2 ?_)
    simp only [lessH, Bool.or_eq_true, Bool.and_eq_true, decide_eq_true_eq] at hx
    dsimp only [Hd.sh, Hd.ino] at hx
    omega
end
section
theorem as0 (b : Nat) (T : TypeId) (w : World) : Calls Tryz.prog 24 #[.nilIface, .iface T (.pointer (some ⟨b, 0, none⟩))] w fun e w' => e = .returned (.bool false) ∧ w' = w := by
  go_enter Tryz.func24, Tryz.ntmps24
  go_wp2
  go_ret
  exact ⟨rfl, rfl⟩
set_option maxHeartbeats 2000000 in
theorem follow0 (w : World) : Calls Tryz.prog 7 #[.slice none 0 0] w fun e w' => ∃ a n c, e = .returned (.tuple #[.agg #[.slice a n c], .int .i64 (-1)]) ∧ Below w.heap.size w w' := by
  go_enter Tryz.func7, Tryz.ntmps7
  go_wp2_with fail
  refine Calls.mono (behind0 _) ?_
  rintro e w2 ⟨a, n, c, rfl, _, b2⟩
  have v2 : VarA w2 w.heap.size 25 #[.slice none 0 0] := VarA.step (VarA.new w _ _) b2
  have HB : Hid (Below w.heap.size w w2) := (Below.newH (w := w) _).trans (b2.mono (by simp))
  have HV : Hid (VarA w2 w.heap.size 25 #[.slice none 0 0]) := v2
  have hl := v2.lt
  have c2 := v2.l1
  have f2 := v2.fz
  clear v2 b2
  go_wp2_with (first | (go_at_call 24; refine Calls.mono (as0 _ _ _) ?_; rintro e w3 ⟨rfl, rfl⟩))
  obtain ⟨W2, hW2⟩ : ∃ V, V = ((w2.setCell ⟨w.heap.size, 0, none⟩ (.slice a n c)).alloc (.cells #[.slice a n c] 25)).alloc (.cells #[.int .i64 0] 64) := ⟨_, rfl⟩
  have u2 : VarA W2 w.heap.size 25 #[.slice a n c] := by rw [hW2]; exact ((HV.out.set 0 _).alloc _).alloc _
  have uB : Below w.heap.size w W2 := by rw [hW2]; exact Below.al2 (Below.al2 (HB.out.setCell (p := ⟨w.heap.size, 0, none⟩) (Nat.le_refl _) _) _) _
  rw [← hW2]
  have d2 := u2.l1
  refine bodyPost_ret (v := .tuple #[.agg #[.slice a n c], .int .i64 (-1)]) (by simp [results, Tryz.results7, go_sem, d2]) rfl ?_
  exact ⟨_, _, _, rfl, uB⟩
theorem treeOk_root : treeOk [rootN] = true := by decide +kernel
theorem ook_root : OOk ⟨1, rootH, [], hd0, [], 0⟩ = true := by decide +kernel
theorem dO_root : dO [rootN] ⟨1, rootH, [], hd0, [], 0⟩ hd0 = ([rootN], ⟨0, hd0, 0, []⟩) := by
  unfold dO
  rw [if_pos (by rw [treeOk_root, ook_root]; rfl), if_neg (by decide)]
  kernel_rfl
set_option maxHeartbeats 4000000 in
theorem rootsWalk (v0 : Value) (w : World) : Calls Tryz.prog 3 #[v0] w fun e w' => e = .returned (.bool true) ∧ Below w.heap.size w w' := by
  have HI : Hid (∀ x W S, RdV W S x (ndsDt [rootN]) → (∀ b, S b → b < W.heap.size) → Calls Tryz.prog 6 #[.agg #[x], opV ⟨1, rootH, [], hd0, [], 0⟩ (.slice none 0 0) (.slice none 0 0), Hd.v hd0] W (DoI W ([rootN], ⟨0, hd0, 0, []⟩))) := fun x W S r hS => by
    have h := implDo_any x (.slice none 0 0) (.slice none 0 0) [rootN] ⟨1, rootH, [], hd0, [], 0⟩ hd0 S W r (OwV.rd (OwV.nilB _ _)) (OwV.rd (OwV.nilB _ _)) hS (by simp [szNds, szEns, rootN]) (by simp) (by simp) hd0_in (fun h => do_ag (by simp [szNds, szEns, rootN]) _ _ h)
    rw [dO_root] at h
    exact h
  have HT : Hid (∀ x W S, RdV W S x (ndsDt [rootN]) → _) := fun x W S r => implTree_any x [rootN] S W r (by simp [szNds, szEns, rootN])
  rw [show treeI [rootN] = true from (tree_same _).symm.trans treeOk_root] at HT
  dsimp only [rootH, hd0] at HI
  have hln : ([rootN] : List Nd).length = 1 := rfl
  go_enter Tryz.func3, Tryz.ntmps3
  go_wp2_with fail
  refine Calls.mono (implRoot_any _) ?_
  rintro e w1 ⟨ra, rn, rc, rfl, o1, b1⟩
  obtain ⟨ra', rc', hx, _⟩ := RdV.sliced (OwV.rd o1)
  simp only [Value.slice.injEq] at hx
  obtain ⟨rfl, rfl, rfl⟩ := hx
  have HR1 : Hid (RdV w1 (fun b => b < w1.heap.size) (.slice ra ([rootN] : List Nd).length rc) (ndsDt [rootN])) := RdV.mono (fun b hb => hb.2) (OwV.rd o1)
  have HB1 : Hid (Below w.heap.size w w1) := b1
  clear o1 b1
  rw [hln] at HR1
  rw [hln]
  go_wp2_with fail
  refine Calls.mono (HI.out _ _ _ (RdV.step HR1.out (Below.newH _)) (fun b hb => Nat.lt_of_lt_of_le hb (Below.newH (w := w1) _).size)) ?_
  rintro e w2 ⟨ta, tn, tc, la, ln, lc, R1, R2, rfl, o1, o2, _, _, _, b2⟩
  obtain ⟨la', lc', hx, _⟩ := RdV.sliced (OwV.rd o2)
  simp only [Value.slice.injEq] at hx
  obtain ⟨rfl, rfl, rfl⟩ := hx
  have HV1 : Hid (VarA w2 w1.heap.size 25 #[.slice ra 1 rc]) := (VarA.new w1 _ _).step b2
  have B2 : Below w1.heap.size w1 w2 := (Below.newH (w := w1) _).trans (b2.mono (by simp))
  have HR2 : Hid (RdV w2 (fun b => b < w1.heap.size) (.slice ra 1 rc) (ndsDt [rootN])) := RdV.step HR1.out B2
  have HB2 : Hid (Below w.heap.size w w2) := HB1.out.trans (B2.mono HB1.out.size)
  clear o1 o2 b2 B2 HR1 HB1
  go_wp2_with fail
  refine Calls.mono (follow0 _) ?_
  rintro e w3 ⟨fa, fn, fc, rfl, b3⟩
  have v1 : VarA w3 w1.heap.size 25 #[.slice ra 1 rc] := ((HV1.out.alloc _).alloc _).step b3
  have vR : VarA w3 (w2.heap.size + 1) 31 #[.int .i64 0, .int .i64 0, .int .i64 0, .bool false, .int .i64 0, .slice la 0 lc] := (by simpa using VarA.new (w2.alloc (.cells #[.slice ta tn tc] 25)) 31 _ : VarA _ (w2.heap.size + 1) 31 _).step b3
  have B3 : Below w2.heap.size w2 w3 := (Below.newH2 (w := w2) _ _).trans (b3.mono (by simp; omega))
  have HB3 : Hid (Below w.heap.size w w3) := HB2.out.trans (B3.mono HB2.out.size)
  have HR3 : Hid (RdV w3 (fun b => b < w1.heap.size) (.slice ra 1 rc) (ndsDt [rootN])) := RdV.step HR2.out B3
  have HV : Hid (VarA w3 w1.heap.size 25 #[.slice ra 1 rc] ∧ VarA w3 (w2.heap.size + 1) 31 #[.int .i64 0, .int .i64 0, .int .i64 0, .bool false, .int .i64 0, .slice la 0 lc]) := ⟨v1, vR⟩
  have l1 := v1.lt
  have l2 := vR.lt
  have c1 := v1.l1
  clear v1 vR b3 B3 HB2 HR2 HV1
  go_wp2_with fail
  refine Calls.mono (HT.out _ _ _ (RdV.step HR3.out (Below.newH _))) ?_
  rintro e w4 ⟨rfl, b4⟩
  have B4 : Below w3.heap.size w3 w4 := (Below.newH (w := w3) _).trans (b4.mono (by simp))
  have d1 := (HV.out.1.step B4).l1
  obtain ⟨e0, e1, e2, e3, e4, e5⟩ := (HV.out.2.step B4).l6
  have HB4 : Hid (Below w.heap.size w w4) := HB3.out.trans (B4.mono HB3.out.size)
  clear b4 B4 HB3 HV HR3 c1
  go_wp2
  go_ret
  exact ⟨rfl, HB4.out⟩
end
end Go.Proofs.YtnphmhobpmaebaaGreatDoor
