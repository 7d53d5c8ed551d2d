/- What the specification draws for the law on records: a record, and bytes to be read as one; no condition. -/
import Derived.Test.YtklhikadhohjbaaGreatRDW15
import Derived.Test.YtklhikadhohjbaaGreatRA06
import Derived.Test.YtklhikadhohjbaaGreatRSpoil
import Derived.Deep.CutRange
namespace Go.Proofs.YtklhikadhohjbaaGreat
open Go.RowKit
set_option linter.unusedVariables false
set_option linter.unusedSimpArgs false
set_option maxRecDepth 100000

set_option maxHeartbeats 4000000 in
theorem drawRec_any (a : Option Addr) (zs : List Int) (len cap : Nat) (w : World) (h : Reads w a zs) (hlen : len = zs.length) (hm : zs.length ≤ maxLen) :
  Calls Tryz.prog 17 #[.slice a len cap] w fun e w' => ∃ m a1 n1 c1 a2 n2 c2 a3 n3 c3 a4 n4 c4, e = .returned (rcV m (.slice a1 n1 c1) (.slice a2 n2 c2) (.slice a3 n3 c3) (.slice a4 n4 c4)) ∧ RdM w' (fun b => w.heap.size ≤ b ∧ b < w'.heap.size) m (.slice a1 n1 c1) (.slice a2 n2 c2) (.slice a3 n3 c3) (.slice a4 n4 c4) ∧ SzB m ∧ Below w.heap.size w w' := by
 have HLEN : Hid _ := hlen
 clear hlen
 go_enter Tryz.func17, Tryz.ntmps17
 go_wp2_with fail
 have v0 : VarA (w.alloc (.cells (rcC ms0 (.slice none 0 0) (.slice none 0 0) (.slice none 0 0) (.slice none 0 0)) 47)) w.heap.size 47 (rcC ms0 (.slice none 0 0) (.slice none 0 0) (.slice none 0 0) (.slice none 0 0)) := VarA.new _ _ _
 refine (new_any a zs len cap _ (h.below ((Below.refl _ _).alloc (Nat.le_refl _) _)) HLEN.out hm).mono ?_
 rintro e1 w1 ⟨rfl, c1, b1⟩
 have v1 : VarA w1 w.heap.size 47 (rcC ms0 (.slice none 0 0) (.slice none 0 0) (.slice none 0 0) (.slice none 0 0)) := VarA.step v0 b1
 rw [World.size_alloc] at c1
 have z1 := b1.size
 rw [World.size_alloc] at z1
 have B1 : Below w.heap.size w w1 := (Below.newH (w := w) _).trans (b1.mono (by simp))
 clear v0 b1
 go_wp2_with fail
 refine Calls.mono (rec6_any _ w1 c1) ?_
 rintro e2 w2 ⟨m, a1, n1, c1, a2, n2, c2, a3, n3, c3, a4, n4, c4, rfl, rm, sz, cc, g2⟩
 have HV2 : Hid (VarA w2 w.heap.size 47 (rcC ms0 (.slice none 0 0) (.slice none 0 0) (.slice none 0 0) (.slice none 0 0))) := vo_grow v1 g2 (by omega)
 have HR2 : Hid (RdM w2 (fun b => w1.heap.size < b ∧ b < w2.heap.size) m (.slice a1 n1 c1) (.slice a2 n2 c2) (.slice a3 n3 c3) (.slice a4 n4 c4)) := rm
 have HB2 : Hid (Below w.heap.size w w2) := below_grown B1 g2 (by omega) (by omega)
 clear v1 rm g2 B1
 go_wp2_with ((with_reducible refine guardStore (ty := 47) ?_); refine wpList_storeF HV2.out rfl rfl (by kernel_rfl) rfl (of_decide_eq_true rfl) rfl ?_; intro wz vZ t_)
 refine bodyPost_ret (results_cell_row Tryz.results17 _ _ _ _ _ _ _ rfl vZ Tryz.underlying47 rfl (by kernel_rfl)) rfl ?_
 exact ⟨m, _, _, _, _, _, _, _, _, _, _, _, _, rfl, RdM.mono (rm_end (n := w.heap.size) HR2.out t_ (by omega) (by omega)) (fun b hb => ⟨by omega, hb.2⟩), sz, Turned.below HB2.out t_ HB2.out.size (fun i hi => by omega)⟩
theorem outR_len (m : MsD) (hz : isBytes (outR m)) : (outR m).length ≤ 1000 := by
 by_cases h : COk m = true
 ·exact Nat.le_trans (COk_back hz h).2 (by decide)
 ·unfold outR; rw [if_neg h]; simp

set_option maxHeartbeats 4000000 in
theorem drawRecRead_any (a : Option Addr) (zs : List Int) (len cap : Nat) (w : World) (h : Reads w a zs) (hlen : len = zs.length) (hm : zs.length ≤ maxLen) :
  Calls Tryz.prog 22 #[.slice a len cap] w fun e w' => ∃ v ys, e = .returned v ∧ Owns w' w.heap.size v ys ∧ isBytes ys ∧ ys.length ≤ 1100 ∧ Below w.heap.size w w' := by
 have HLEN : Hid _ := hlen
 clear hlen
 go_enter Tryz.func22, Tryz.ntmps22
 go_wp2_with fail
 refine (new_any a zs len cap _ h HLEN.out hm).mono ?_
 rintro e1 w1 ⟨rfl, c1, b1⟩
 have z1 := c1.lt
 go_wp2_with fail
 refine Calls.mono (rec6_any _ w1 c1) ?_
 rintro e2 w2 ⟨m, a1, n1, c1, a2, n2, c2, a3, n3, c3, a4, n4, c4, rfl, rm, sz, cc, g2⟩
 have z2 := g2.size
 have B2 : Below w.heap.size w w2 := below_grown b1 g2 (by omega) (by omega)
 have HSB : Hid _ := specRecordBytes_any m _ _ _ _ _ w2 rm (Nat.le_trans sz.sz (by decide))
 have hol := outR_len m
 generalize outR m = Z at HSB hol
 generalize COk m = bb at HSB
 clear rm b1 g2 sz
 go_wp2_with fail
 refine Calls.mono HSB.out ?_
 rintro e3 w3 ⟨vb, rfl, hz, ob, b3⟩
 have hol := hol hz
 have z3 := b3.size
 obtain ⟨xa, L, c, rfl, HL, HN, HF⟩ := ob.form
 have c3 := cc.below b3
 have B3 : Below w.heap.size w w3 := B2.trans (b3.mono B2.size)
 have HOB : Hid (Owns w3 w2.heap.size (.slice xa L c) Z) := ob
 have HZ : Hid (isBytes Z) := hz
 have HB3 : Hid (Below w.heap.size w w3) := B3
 clear B2 b3 cc ob hz B3 HSB
 go_wp2_with fail
 refine Calls.mono (once_any _ 2 _ c3 (by omega) (by omega)) ?_
 rintro e4 w4 ⟨b4, rfl, c4, g4⟩
 have z4 := g4.size
 have HB4 : Hid (Below w.heap.size w w4) := below_grown HB3.out g4 (by omega) (by omega)
 have HO4 : Hid (Owns w4 w2.heap.size (.slice xa L c) Z) := HOB.out.other (u := .slice (some ⟨w.heap.size, 0, none⟩) 0 0) g4 (fun k hk e => by
  have h1 := (HOB.out.lt k hk).1
  have h2 : w.heap.size = k := by simpa [Value.ownBlock] using e
  omega)
 clear g4 HB3 HOB
 cases b4 with
 | false =>
  go_wp2
  go_ret
  exact ⟨_, Z, rfl, HO4.out.base (by omega), HZ.out, by omega, HB4.out⟩
 | true =>
  have HSP : Hid _ := spoil_any w.heap.size xa Z L c w4 c4 (HO4.out.reads HZ.out).2 HL.out hol HN.out
  clear c4
  go_wp2_with fail
  refine Calls.mono HSP.out ?_
  rintro e5 w5 ⟨v5, rfl, ys, o5, y5, l5, c5, g5⟩
  have HB5 : Hid (Below w.heap.size w w5) := below_grown HB4.out g5 (by omega) (by omega)
  have HO5 : Hid (Owns w5 w.heap.size v5 ys) := o5.base (by omega)
  clear o5 g5
  go_wp2
  go_ret
  exact ⟨_, ys, rfl, HO5.out, y5, by omega, HB5.out⟩
end Go.Proofs.YtklhikadhohjbaaGreat
