/- What the specification draws for the law on messages: a message, and bytes to be read as one; no condition. -/
import Derived.Test.YtklhikadhohjbaaGreatMA01
import Derived.Test.YtklhikadhohjbaaGreatMDW14
import Derived.Test.YtklhikadhohjbaaGreatMA05
import Derived.Test.YtklhikadhohjbaaGreatMA08
import Derived.Test.YtklhikadhohjbaaGreatMSpoil
import Derived.Deep.CutRange
namespace Go.Proofs.YtklhikadhohjbaaGreat
open Go.RowKit
set_option linter.unusedVariables false
set_option linter.unusedSimpArgs false
set_option maxRecDepth 100000

set_option maxHeartbeats 4000000 in
theorem drawMsg_any (a : Option Addr) (zs : List Int) (len cap : Nat) (w : World) (h : Reads w a zs) (hlen : len = zs.length) (hm : zs.length ≤ maxLen) :
  Calls Tryz.prog 9 #[.slice a len cap] w fun e w' => ∃ m a1 n1 c1 a2 n2 c2 a3 n3 c3 a4 n4 c4, e = .returned (msV m (.slice a1 n1 c1) (.slice a2 n2 c2) (.slice a3 n3 c3) (.slice a4 n4 c4)) ∧ RdM w' (fun b => w.heap.size ≤ b ∧ b < w'.heap.size) m (.slice a1 n1 c1) (.slice a2 n2 c2) (.slice a3 n3 c3) (.slice a4 n4 c4) ∧ SzB m ∧ Below w.heap.size w w' := by
 have HLEN : Hid _ := hlen
 clear hlen
 go_enter Tryz.func9, Tryz.ntmps9
 go_wp2_with fail
 have v0 : VarA (w.alloc (.cells (msC ms0 (.slice none 0 0) (.slice none 0 0) (.slice none 0 0) (.slice none 0 0)) 35)) w.heap.size 35 (msC ms0 (.slice none 0 0) (.slice none 0 0) (.slice none 0 0) (.slice none 0 0)) := VarA.new _ _ _
 refine (new_any a zs len cap _ (h.below ((Below.refl _ _).alloc (Nat.le_refl _) _)) HLEN.out hm).mono ?_
 rintro e1 w1 ⟨rfl, c1, b1⟩
 have v1 : VarA w1 w.heap.size 35 (msC ms0 (.slice none 0 0) (.slice none 0 0) (.slice none 0 0) (.slice none 0 0)) := VarA.step v0 b1
 rw [World.size_alloc] at c1
 have z1 := b1.size
 rw [World.size_alloc] at z1
 have B1 : Below w.heap.size w w1 := (Below.newH (w := w) _).trans (b1.mono (by simp))
 clear v0 b1
 go_wp2_with fail
 refine Calls.mono (msg5_any _ w1 c1) ?_
 rintro e2 w2 ⟨m, a1, n1, c1, a2, n2, c2, a3, n3, c3, a4, n4, c4, rfl, rm, sz, cc, g2⟩
 have HV2 : Hid (VarA w2 w.heap.size 35 (msC ms0 (.slice none 0 0) (.slice none 0 0) (.slice none 0 0) (.slice none 0 0))) := vo_grow v1 g2 (by omega)
 have HR2 : Hid (RdM w2 (fun b => w1.heap.size < b ∧ b < w2.heap.size) m (.slice a1 n1 c1) (.slice a2 n2 c2) (.slice a3 n3 c3) (.slice a4 n4 c4)) := rm
 have HB2 : Hid (Below w.heap.size w w2) := below_grown B1 g2 (by omega) (by omega)
 clear v1 rm g2 B1
 go_wp2_with ((with_reducible refine gS 35 ?_); refine sF HV2.out rfl rfl (by kernel_rfl) rfl rfl ?_; intro wz vZ t_)
 refine bpR Tryz.results9 vZ Tryz.underlying35 rfl rfl (by kernel_rfl) rfl ?_
 exact ⟨m, _, _, _, _, _, _, _, _, _, _, _, _, rfl, RdM.mono (rm_end (n := w.heap.size) HR2.out t_ (by omega) (by omega)) (fun b hb => ⟨by omega, hb.2⟩), sz, Turned.below HB2.out t_ HB2.out.size (fun i hi => by omega)⟩
theorem outB_len (m : MsD) (hz : isBytes (outB m)) : (outB m).length ≤ 1000 := by
 unfold outB
 split
 ·rename_i h
  have g1 := putB_len m.kind; have g2 := putB_len m.fr; have g3 := putB_len m.req; have g4 := opB_len m.op; have g5 := hdB_len m.h; have g6 := txB_len m.tx; have g7 := ptB_len m.pt; have g8 := putB_len m.code; have g9 := rpB_len m.rp (MOk_12 h); have g0 := putB_len m.to
  unfold msB msRest
  repeat' split
  all_goals (try simp only [List.length_append, List.length_nil]) <;> omega
 ·simp

set_option maxHeartbeats 4000000 in
theorem drawMsgRead_any (a : Option Addr) (zs : List Int) (len cap : Nat) (w : World) (h : Reads w a zs) (hlen : len = zs.length) (hm : zs.length ≤ maxLen) :
  Calls Tryz.prog 16 #[.slice a len cap] w fun e w' => ∃ v ys, e = .returned v ∧ Owns w' w.heap.size v ys ∧ isBytes ys ∧ ys.length ≤ 1100 ∧ Below w.heap.size w w' := by
 have HLEN : Hid _ := hlen
 clear hlen
 go_enter Tryz.func16, Tryz.ntmps16
 go_wp2_with fail
 refine (new_any a zs len cap _ h HLEN.out hm).mono ?_
 rintro e1 w1 ⟨rfl, c1, b1⟩
 have z1 := c1.lt
 go_wp2_with fail
 refine Calls.mono (msg5_any _ w1 c1) ?_
 rintro e2 w2 ⟨m, a1, n1, c1, a2, n2, c2, a3, n3, c3, a4, n4, c4, rfl, rm, sz, cc, g2⟩
 have z2 := g2.size
 have B2 : Below w.heap.size w w2 := below_grown b1 g2 (by omega) (by omega)
 have HSB : Hid (∀ W, Below w2.heap.size w2 W → _) := fun W hW => specMsgBytes_any m _ _ _ _ _ W (rm.step hW) (Nat.le_trans sz.sz (by decide))
 have hol := outB_len m
 generalize outB m = Z at HSB hol
 generalize MOk m = bb at HSB
 clear rm b1 g2 sz
 go_wp2_with (first | ((with_reducible refine gS 35 ?_); refine sF (VarA.new w2 _ _) rfl rfl (by kernel_rfl) rfl rfl ?_; intro wm vm tm) | ((with_reducible refine guardLoad (ty := 35) ?_); refine wpList_loadA vm rfl Tryz.underlying35 rfl (by kernel_rfl) ?_))
 have bm : Below w2.heap.size w2 wm := Turned.below (Below.newH _) tm (by simp) (fun i hi => by omega)
 clear vm tm
 refine Calls.mono (HSB.out _ bm) ?_
 rintro e3 w3 ⟨vb, rfl, hz, ob', b3'⟩
 have b3 : Below w2.heap.size w2 w3 := bm.trans (b3'.mono bm.size)
 have ob := ob'.base bm.size
 clear ob' b3' bm
 have hol := hol hz
 have z3 := b3.size
 obtain ⟨xa, L, c, rfl, HL, HN, HF⟩ := ob.form
 have c3 := cc.below b3
 have B3 : Below w.heap.size w w3 := B2.trans (b3.mono B2.size)
 have HOB : Hid (Owns w3 w2.heap.size (.slice xa L c) Z) := ob
 have HZ : Hid (isBytes Z) := hz
 have HB3 : Hid (Below w.heap.size w w3) := B3
 clear B2 b3 cc ob hz B3 HSB
 go_wp2_with fail
 refine Calls.mono (once_any _ 2 _ c3 (by omega) (by omega)) ?_
 rintro e4 w4 ⟨b4, rfl, c4, g4⟩
 have z4 := g4.size
 have HB4 : Hid (Below w.heap.size w w4) := below_grown HB3.out g4 (by omega) (by omega)
 have HO4 : Hid (Owns w4 w2.heap.size (.slice xa L c) Z) := HOB.out.other (u := .slice (some ⟨w.heap.size, 0, none⟩) 0 0) g4 (fun k hk e => by
  have h1 := (HOB.out.lt k hk).1
  have h2 : w.heap.size = k := by simpa [Value.ownBlock] using e
  omega)
 clear g4 HB3 HOB
 cases b4 with
 | false =>
  go_wp2
  go_ret
  exact ⟨_, Z, rfl, HO4.out.base (by omega), HZ.out, by omega, HB4.out⟩
 | true =>
  have HSP : Hid _ := spoil_any w.heap.size xa Z L c w4 c4 (HO4.out.reads HZ.out).2 HL.out hol HN.out
  clear c4
  go_wp2_with fail
  refine Calls.mono HSP.out ?_
  rintro e5 w5 ⟨v5, rfl, ys, o5, y5, l5, c5, g5⟩
  have HB5 : Hid (Below w.heap.size w w5) := below_grown HB4.out g5 (by omega) (by omega)
  have HO5 : Hid (Owns w5 w.heap.size v5 ys) := o5.base (by omega)
  clear o5 g5
  go_wp2
  go_ret
  exact ⟨_, ys, rfl, HO5.out, y5, by omega, HB5.out⟩
end Go.Proofs.YtklhikadhohjbaaGreat
