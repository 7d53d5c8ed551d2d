/- Proved: for every tree, operation and handle that a caller can hand in, the law FnExactDo returns true, and its arguments read as before. Conditions: none. -/
import Derived.Test.YtcicadfhfojdpaaGreatRows
import Derived.Test.YtcicadfhfojdpaaGreatQRG8
import Derived.Test.YtcicadfhfojdpaaGreatQRG11
import Derived.Test.YtcicadfhfojdpaaGreatQRG35
import Derived.Test.YtcicadfhfojdpaaGreatQA07
import Derived.Test.YtcicadfhfojdpaaGreatQA03
import Derived.Test.YtcicadfhfojdpaaGreatQA01
import Derived.Test.YtcicadfhfojdpaaGreatQA01b
import Derived.Test.YtcicadfhfojdpaaGreatQMks
import Derived.Test.YtcicadfhfojdpaaGreatQA02
import Derived.WalkKit
import Derived.ProofKit
import Derived.OpenShut
import Derived.ShutString
import Derived.ChangeOld
import Derived.Below
namespace Go.Proofs.YtcicadfhfojdpaaGreat.fnExactDo
open Go.ChangeShapes Go.WideShapes Go.ChangeAt Go.RowKit
set_option linter.unusedVariables false
set_option linter.unusedSimpArgs false

theorem own : ownKnob Tryz.prog.godebug = none := by kernel_rfl
theorem laidOut : laidOutB Tryz.prog = true := by kernel_rfl

set_option maxRecDepth 100000 in
set_option maxHeartbeats 8000000 in
theorem walk (v0 : Value) (l : List Nd) (v1 : Value) (o : OpD) (v2 : Value) (fr : Hd) (w : World) (e0 : ∃ x, v0 = .agg #[x] ∧ RdV w (Old w) x (ndsDt l)) (e1 : ∃ x y, v1 = opV o x y ∧ RdV w (Old w) x (.bytes o.nm) ∧ RdV w (Old w) y (.bytes o.asn)) (e2 : HIn fr ∧ v2 = fr.v) :
  Calls Tryz.prog 5 #[v0, v1, v2] w fun e w' => e = .returned (.bool true) ∧ Below w.heap.size w w' := by
 obtain ⟨x, rfl, r⟩ := e0
 obtain ⟨y, z, rfl, r1, r2⟩ := e1
 obtain ⟨hfr, rfl⟩ := e2
 have HZ : Hid (∀ W, Below w.heap.size w W → _) := fun W hW => szTree_d x l (Old w) 1048576 W (Nat.le_refl _) (r.step hW)
 by_cases hsz : szNds l ≤ 1048576
 case neg =>
  have hl : leftT (szNds l) 1048576 = -1 := by unfold leftT; rw [if_neg hsz]
  rw [hl] at HZ
  obtain ⟨xa, xc, rfl, _⟩ := RdV.sliced r
  obtain ⟨ya, yc, rfl⟩ := r1.sliceB
  obtain ⟨za, zc, rfl⟩ := r2.sliceB
  clear r r1 r2 hsz hl
  obtain ⟨kd, ⟨p, q, d⟩, nm, ⟨p2, q2, d2⟩, asn, ov⟩ := o
  obtain ⟨pf, qf, df⟩ := fr
  dsimp only at HZ ⊢
  generalize l.length = n0 at *
  generalize nm.length = n1 at *
  generalize asn.length = n2 at *
  go_enter Tryz.func5, Tryz.ntmps5
  go_wp2_with fail
  refine Calls.mono (HZ.out _ (by repeat (first | exact Below.refl _ _ | refine Below.al2 ?_ _))) ?_
  rintro e w2 ⟨rfl, b_⟩
  go_wp2
  go_ret
  have b0 := (LV.new w #[.slice xa n0 xc] #[.i kd, .i p, .i q, .bool d, .slice ya n1 yc, .i p2, .i q2, .bool d2, .slice za n2 zc, .i ov] #[.i pf, .i qf, .bool df]).B
  exact ⟨rfl, b0.trans (b_.mono b0.size)⟩
 have hl : leftT (szNds l) 1048576 = ((1048576 - szNds l : Nat) : Int) := by unfold leftT; rw [if_pos hsz]; omega
 rw [hl] at HZ
 obtain ⟨s1, hs1⟩ : ∃ s, 1048576 - szNds l = s := ⟨_, rfl⟩
 rw [hs1] at HZ
 have HZO : Hid (∀ W, Below w.heap.size w W → _) := fun W hW => szOp_d y z o (Old w) s1 W (by omega) (r1.step hW) (r2.step hW)
 clear hl
 by_cases hsz2 : o.nm.length + o.asn.length ≤ s1
 case neg =>
  have hl : leftT (o.nm.length + o.asn.length) s1 = -1 := by unfold leftT; rw [if_neg hsz2]
  rw [hl] at HZO
  obtain ⟨xa, xc, rfl, _⟩ := RdV.sliced r
  obtain ⟨ya, yc, rfl⟩ := r1.sliceB
  obtain ⟨za, zc, rfl⟩ := r2.sliceB
  clear r r1 r2 hsz hl hs1 hsz2
  obtain ⟨kd, ⟨p, q, d⟩, nm, ⟨p2, q2, d2⟩, asn, ov⟩ := o
  obtain ⟨pf, qf, df⟩ := fr
  dsimp only at HZ HZO ⊢
  generalize l.length = n0 at *
  generalize nm.length = n1 at *
  generalize asn.length = n2 at *
  go_enter Tryz.func5, Tryz.ntmps5
  go_wp2_with fail
  refine Calls.mono (HZ.out _ (by repeat (first | exact Below.refl _ _ | refine Below.al2 ?_ _))) ?_
  rintro e w2 ⟨rfl, b_⟩
  have b0 : Below w.heap.size w (((w.alloc (.cells #[.slice xa n0 xc] 44)).alloc (.cells #[.i kd, .i p, .i q, .bool d, .slice ya n1 yc, .i p2, .i q2, .bool d2, .slice za n2 zc, .i ov] 47)).alloc (.cells #[.i pf, .i qf, .bool df] 45)) := by repeat (first | exact Below.refl _ _ | refine Below.al2 ?_ _)
  have HB : Hid (Below w.heap.size w w2) := b0.trans (b_.mono b0.size)
  have vO : VarA w2 (w.heap.size + 1) 47 #[.i kd, .i p, .i q, .bool d, .slice ya n1 yc, .i p2, .i q2, .bool d2, .slice za n2 zc, .i ov] := ((by simpa using VarA.new (w.alloc (.cells #[.slice xa n0 xc] 44)) 47 #[.i kd, .i p, .i q, .bool d, .slice ya n1 yc, .i p2, .i q2, .bool d2, .slice za n2 zc, .i ov] : VarA _ (w.heap.size + 1) _ _).alloc _).step b_
  obtain ⟨o0, o1, o2, o3, o4, o5, o6, o7, o8, o9⟩ := vO.l10
  clear b_ b0 vO HZ
  go_wp2_with fail
  refine Calls.mono (HZO.out _ HB.out) ?_
  rintro e w3 ⟨rfl, b_⟩
  go_wp2
  go_ret
  exact ⟨rfl, HB.out.trans (b_.mono HB.out.size)⟩
 have hl : leftT (o.nm.length + o.asn.length) s1 = ((s1 - (o.nm.length + o.asn.length) : Nat) : Int) := by unfold leftT; rw [if_pos hsz2]; omega
 rw [hl] at HZO
 generalize s1 - (o.nm.length + o.asn.length) = s2 at HZO
 clear hl
 have h1 : szNds l ≤ 2097152 := by omega
 have h2 : o.nm.length ≤ 2097152 := by omega
 have h3 : o.asn.length ≤ 2097152 := by omega
 have hd := do_sizes h1 o fr
 have k1 := lenNds_le l
 have k2 := lenNds_le (dO l o fr).1
 have k3 := lenEns_le (dO l o fr).2.list
 have HT : Hid (∀ W, Below w.heap.size w W → _) := fun W hW => toTree_any x l (Old w) W (r.step hW) h1
 have HO : Hid (∀ W, Below w.heap.size w W → _) := fun W hW => toOp_any y z o (Old w) W (r1.step hW) (r2.step hW) h2 h3
 have HF_ : Hid (∀ W, _) := fun W => toHandle_any fr W
 have HS8 : Hid (∀ x y z W S, RdV W S x (ndsDt l) → RdV W S y (.bytes o.nm) → RdV W S z (.bytes o.asn) → (∀ b, S b → b < W.heap.size) → Calls Tryz.prog 15 #[.agg #[x], opV o y z, fr.v] W (DoS W (dO l o fr))) := fun x y z W S q1 q2 q3 hS => (specDo_any x y z l o fr S W q1 q2 q3 hS h1 h2 h3).mono (fun e W2 h => DoS.of h)
 have HI8 : Hid (∀ x y z W S, RdV W S x (ndsDt l) → RdV W S y (.bytes o.nm) → RdV W S z (.bytes o.asn) → (∀ b, S b → b < W.heap.size) → Calls Tryz.prog 7 #[.agg #[x], opV o y z, fr.v] W (DoI W (dO l o fr))) := fun x y z W S q1 q2 q3 hS => implDo_any x y z l o fr S W q1 q2 q3 hS h1 h2 h3 hfr (fun h => do_ag h1 o fr h)
 have HE : Hid (∀ u u2 S S2 W, RdV W S u (ndsDt l) → RdV W S2 u2 (ndsDt l) → _) := fun u u2 S S2 W q1 q2 => eqTree_same u u2 l S S2 W q1 q2 h1
 have HEO : Hid (∀ u v u2 v2 S S2 S3 S4 W, RdV W S u (.bytes o.nm) → RdV W S2 u2 (.bytes o.nm) → RdV W S3 v (.bytes o.asn) → RdV W S4 v2 (.bytes o.asn) → _) := fun u v u2 v2 S S2 S3 S4 W q1 q2 q3 q4 => eqOp_same u v u2 v2 o (fun _ => True) (fun _ => True) W (q1.mono (fun _ _ => trivial)) (q2.mono (fun _ _ => trivial)) (q3.mono (fun _ _ => trivial)) (q4.mono (fun _ _ => trivial)) h2 h3
 have HM : Hid (∀ x S W, OwV W S x (ndsDt l) → (∀ b, S b → b < W.heap.size) → _) := fun x S W q1 q2 => markTree_d x l 1 S W q1 q2 h1 (by omega)
 have HMO : Hid (∀ x y Q1 Q2 W, OwV W Q1 x (.bytes o.nm) → OwV W Q2 y (.bytes o.asn) → (∀ b, Q1 b → ¬ Q2 b) → (∀ b, Q1 b ∨ Q2 b → b < W.heap.size) → _) := fun x y Q1 Q2 W q1 q2 q3 q4 => markOp_d o x y (1 + lenNds l) Q1 Q2 (fun b => Q1 b ∨ Q2 b) W q1 q2 q3 (fun b hb => hb) q4 h2 h3 (by omega)
 obtain ⟨res, hres⟩ : ∃ r, dO l o fr = r := ⟨_, rfl⟩
 rw [hres] at HS8 HI8 hd k2 k3
 obtain ⟨rl, rrp⟩ := res
 have HER : Hid (∀ u u2 S S2 W, RdV W S u (ensDt rrp.list) → RdV W S2 u2 (ensDt rrp.list) → _) := fun u u2 S S2 W q1 q2 => eqReply_same u u2 rrp S S2 W q1 q2 (by dsimp only at hd; omega)
 have HET : Hid (∀ u u2 S S2 W, RdV W S u (ndsDt rl) → RdV W S2 u2 (ndsDt rl) → _) := fun u u2 S S2 W q1 q2 => eqTree_same u u2 rl S S2 W q1 q2 (by dsimp only at hd; omega)
 have HMT : Hid (∀ x S W, OwV W S x (ndsDt rl) → (∀ b, S b → b < W.heap.size) → _) := fun x S W q1 q2 => markTree_d x rl 1 S W q1 q2 (by dsimp only at hd; omega) (by dsimp only at hd k2; omega)
 have HMR : Hid (∀ x S W, OwV W S x (ensDt rrp.list) → _) := fun x S W q1 => markReply_f rrp x (1 + lenNds rl) S W q1 (by dsimp only at hd; omega) (by dsimp only at hd k2; omega)
 have HHT : Hid (∀ x S W, RdV W S x (ndsDt (mkNds rl 1)) → _) := fun x S W q1 => heldTree_d x rl 1 S W q1 (by dsimp only at hd; omega) (by dsimp only at hd k2; omega)
 have HHR : Hid (∀ x S W, RdV W S x (ensDt (mkEns rrp.list (1 + lenNds rl))) → _) := fun x S W q1 => heldReply_d rrp x rrp.list (1 + lenNds rl) S W q1 (by dsimp only at hd; omega) (by dsimp only at hd k2; omega)
 obtain ⟨xa, xc, rfl, _⟩ := RdV.sliced r
 obtain ⟨ya, yc, rfl⟩ := r1.sliceB
 obtain ⟨za, zc, rfl⟩ := r2.sliceB
 clear r r1 r2 hsz hsz2 hs1 h1 h2 h3 hd k1 k2 k3 hres hfr
 obtain ⟨rcode, ⟨rh0, rh1, rh2⟩, rval, rlist⟩ := rrp
 obtain ⟨kd, ⟨p, q, d⟩, nm, ⟨p2, q2, d2⟩, asn, ov⟩ := o
 obtain ⟨pf, qf, df⟩ := fr
 dsimp only at HZ HZO HT HO HF_ HS8 HI8 HE HEO HM HMO HER HET HMT HMR HHT HHR ⊢
 generalize l.length = xn at *
 generalize nm.length = yn at *
 generalize asn.length = zn at *
 generalize hm1 : 1 + lenNds rl = m1 at *
 generalize hm2 : m1 + lenEns rlist = m2 at *
 generalize hk1 : 1 + lenNds l = k1 at *
 clear hm1 hm2 hk1
 go_enter Tryz.func5, Tryz.ntmps5
 go_wp2_with fail
 refine Calls.mono (HZ.out _ (by repeat (first | exact Below.refl _ _ | refine Below.al2 ?_ _))) ?_
 rintro e w2 ⟨rfl, b_⟩
 have m2_ : LV w w2 #[.slice xa xn xc] #[.i kd, .i p, .i q, .bool d, .slice ya yn yc, .i p2, .i q2, .bool d2, .slice za zn zc, .i ov] #[.i pf, .i qf, .bool df] := (LV.new w #[.slice xa xn xc] #[.i kd, .i p, .i q, .bool d, .slice ya yn yc, .i p2, .i q2, .bool d2, .slice za zn zc, .i ov] #[.i pf, .i qf, .bool df]).step b_
 clear b_ HZ
 have HL2 : Hid (LV w w2 _ _ _) := m2_
 obtain ⟨o0, o1, o2, o3, o4, o5, o6, o7, o8, o9⟩ := m2_.vO.l10
 clear m2_
 go_wp2_with fail
 refine Calls.mono (HZO.out _ HL2.out.B) ?_
 rintro e w3 ⟨rfl, b_⟩
 have HL3 : Hid (LV w w3 #[.slice xa xn xc] #[.i kd, .i p, .i q, .bool d, .slice ya yn yc, .i p2, .i q2, .bool d2, .slice za zn zc, .i ov] #[.i pf, .i qf, .bool df]) := HL2.out.step b_
 clear b_ HZO HL2 o0 o1 o2 o3 o4 o5 o6 o7 o8 o9
 have HBW : Hid (Below w.heap.size w w3) := HL3.out.B
 go_upto_region 8 with fail
 go_cut [8, 9] from 19 (fun s8 s9 wx => ∃ C D ta tn tc ra rn rc, s8 = .pointer (some ⟨C, 0, none⟩) ∧ s9 = .pointer (some ⟨D, 0, none⟩) ∧ Hid (Below w3.heap.size w3 wx ∧ w3.heap.size ≤ C ∧ VarA wx C 25 #[.slice ta tn tc] ∧ w3.heap.size ≤ D ∧ VarA wx D 34 #[.i rcode, .i rh0, .i rh1, .bool rh2, .i rval, .slice ra rn rc] ∧ FrV w3 wx (fun b => b = C ∨ b = D) (.slice ta tn tc) (ndsDt rl) ∧ FrV w3 wx (fun b => b = C ∨ b = D) (.slice ra rn rc) (ensDt rlist)))
 case first =>
  refine reg8 HT HO HF_ HS8 HL3 (fun C D ma mn mc ba bn bc ga gn gc ta tn tc ra rn rc wz HLF => ?_)
  go_wp2_with fail
  go_meet
  exact ⟨C, D, ta, tn, tc, ra, rn, rc, rfl, rfl, HLF⟩
 case rest =>
  rename World => w4
  obtain ⟨C, D, ta, tn, tc, ra, rn, rc, rfl, rfl, HW⟩ := hcut
  have HL4 : Hid (LV w w4 #[.slice xa xn xc] #[.i kd, .i p, .i q, .bool d, .slice ya yn yc, .i p2, .i q2, .bool d2, .slice za zn zc, .i ov] #[.i pf, .i qf, .bool df]) := HL3.out.step HW.out.1
  have HA4 : Hid (AnsR w3.heap.size w4.heap.size w4 C D (.slice ta tn tc) #[.i rcode, .i rh0, .i rh1, .bool rh2, .i rval, .slice ra rn rc] (.slice ra rn rc) (ndsDt rl) (ensDt rlist)) := AnsR.mk1 HW.out.2.1 HW.out.2.2.1 HW.out.2.2.2.1 HW.out.2.2.2.2.1 HW.out.2.2.2.2.2.1 HW.out.2.2.2.2.2.2
  have hs34 : w.heap.size + 3 ≤ w3.heap.size := HL3.out.vF.lt
  have hs4 : w3.heap.size ≤ w4.heap.size := HW.out.1.size
  clear HW HL3 HBW
  have t0 := HL4.out.vT.l1
  go_wp2_with fail
  refine Calls.mono (HT.out _ HL4.out.B) ?_
  rintro e w5 ⟨ua, un, uc, rfl, ox, b5⟩
  have HB5 : Hid (Below w4.heap.size w4 w5) := b5
  have HOX : Hid (OwV w5 (fun b => w4.heap.size ≤ b ∧ b < w5.heap.size) (.slice ua un uc) (ndsDt l)) := ox
  have HL5 : Hid (LV w (w5.alloc (.cells #[.slice ua un uc] 25)) #[.slice xa xn xc] #[.i kd, .i p, .i q, .bool d, .slice ya yn yc, .i p2, .i q2, .bool d2, .slice za zn zc, .i ov] #[.i pf, .i qf, .bool df]) := (HL4.out.step b5).step (Below.newH _)
  clear t0 b5 ox HL4
  obtain ⟨o0, o1, o2, o3, o4, o5, o6, o7, o8, o9⟩ := HL5.out.vO.l10
  go_wp2_with fail
  refine Calls.mono (HO.out _ HL5.out.B) ?_
  rintro e w6 ⟨ba, bn, bc, ga, gn, gc, M, rfl, hM, oy, oz, b6⟩
  have HX7_ : Hid (XS w4.heap.size (w6.alloc (.cells #[.i kd, .i p, .i q, .bool d, .slice ba bn bc, .i p2, .i q2, .bool d2, .slice ga gn gc, .i ov] 29)) w5.heap.size w6.heap.size M (.slice ua un uc) #[.i kd, .i p, .i q, .bool d, .slice ba bn bc, .i p2, .i q2, .bool d2, .slice ga gn gc, .i ov] (.slice ba bn bc) (.slice ga gn gc) l nm asn) := XS.made HOX.out HB5.out hM oy oz b6
  have HL7_ : Hid (LV w (w6.alloc (.cells #[.i kd, .i p, .i q, .bool d, .slice ba bn bc, .i p2, .i q2, .bool d2, .slice ga gn gc, .i ov] 29)) #[.slice xa xn xc] #[.i kd, .i p, .i q, .bool d, .slice ya yn yc, .i p2, .i q2, .bool d2, .slice za zn zc, .i ov] #[.i pf, .i qf, .bool df]) := (HL5.out.step b6).step (Below.newH _)
  have HA7_ : Hid (AnsR w3.heap.size w4.heap.size (w6.alloc (.cells #[.i kd, .i p, .i q, .bool d, .slice ba bn bc, .i p2, .i q2, .bool d2, .slice ga gn gc, .i ov] 29)) C D (.slice ta tn tc) #[.i rcode, .i rh0, .i rh1, .bool rh2, .i rval, .slice ra rn rc] (.slice ra rn rc) (ndsDt rl) (ensDt rlist)) := (((HA4.out.step HB5.out).step (Below.newH _)).step b6).step (Below.newH _)
  clear hM oy oz b6 HOX HB5 HL5 HA4 o0 o1 o2 o3 o4 o5 o6 o7 o8 o9
  go_upto_region 11 with fail
  refine gen_world (P := fun W => Code.wp _ _ _ _ W) (fun W => XS w4.heap.size W w5.heap.size w6.heap.size M (.slice ua un uc) #[.i kd, .i p, .i q, .bool d, .slice ba bn bc, .i p2, .i q2, .bool d2, .slice ga gn gc, .i ov] (.slice ba bn bc) (.slice ga gn gc) l nm asn ∧ LV w W #[.slice xa xn xc] #[.i kd, .i p, .i q, .bool d, .slice ya yn yc, .i p2, .i q2, .bool d2, .slice za zn zc, .i ov] #[.i pf, .i qf, .bool df] ∧ AnsR w3.heap.size w4.heap.size W C D (.slice ta tn tc) #[.i rcode, .i rh0, .i rh1, .bool rh2, .i rval, .slice ra rn rc] (.slice ra rn rc) (ndsDt rl) (ensDt rlist) ∧ W.heap.size = w6.heap.size + 1) ⟨HX7_.out, HL7_.out, HA7_.out, by simp⟩ ?_
  clear HX7_ HL7_ HA7_
  rintro w7 ⟨x7, l7, a7, hs7⟩
  have HX7 : Hid (XS w4.heap.size w7 w5.heap.size w6.heap.size M (.slice ua un uc) #[.i kd, .i p, .i q, .bool d, .slice ba bn bc, .i p2, .i q2, .bool d2, .slice ga gn gc, .i ov] (.slice ba bn bc) (.slice ga gn gc) l nm asn) := x7
  have HL7 : Hid (LV w w7 #[.slice xa xn xc] #[.i kd, .i p, .i q, .bool d, .slice ya yn yc, .i p2, .i q2, .bool d2, .slice za zn zc, .i ov] #[.i pf, .i qf, .bool df]) := l7
  have HA7 : Hid (AnsR w3.heap.size w4.heap.size w7 C D (.slice ta tn tc) #[.i rcode, .i rh0, .i rh1, .bool rh2, .i rval, .slice ra rn rc] (.slice ra rn rc) (ndsDt rl) (ensDt rlist)) := a7
  clear x7 l7 a7
  go_cut [12, 13] from 19 (fun s12 s13 wx => ∃ G H pa pn pc sa sn sc, s12 = .pointer (some ⟨G, 0, none⟩) ∧ s13 = .pointer (some ⟨H, 0, none⟩) ∧ Hid (Below w7.heap.size w7 wx ∧ w7.heap.size ≤ G ∧ VarA wx G 25 #[.slice pa pn pc] ∧ w7.heap.size ≤ H ∧ VarA wx H 34 #[.i rcode, .i rh0, .i rh1, .bool rh2, .i rval, .slice sa sn sc] ∧ FrO w7 wx (fun b => b = G ∨ b = H) (.slice pa pn pc) (ndsDt rl) (.slice sa sn sc) (ensDt rlist)))
  case first =>
   refine reg11 HF_ HI8 HL7 HX7 (fun C D pa pn pc sa sn sc wz HLF => ?_)
   go_wp2_with fail
   go_meet
   exact ⟨C, D, pa, pn, pc, sa, sn, sc, rfl, rfl, HLF⟩
  case rest =>
   rename World => w8
   obtain ⟨G, H, pa, pn, pc, sa, sn, sc, rfl, rfl, HW⟩ := hcut
   obtain ⟨R1, R2, ho8⟩ := AnsO.mk1 HW.out.2.1 HW.out.2.2.1 HW.out.2.2.2.1 HW.out.2.2.2.2.1 HW.out.2.2.2.2.2
   have HO8 : Hid (AnsO w7.heap.size w8.heap.size R1 R2 w8 G H (.slice pa pn pc) #[.i rcode, .i rh0, .i rh1, .bool rh2, .i rval, .slice sa sn sc] (.slice sa sn sc) (ndsDt rl) (ensDt rlist)) := ho8
   have HL8 : Hid (LV w w8 #[.slice xa xn xc] #[.i kd, .i p, .i q, .bool d, .slice ya yn yc, .i p2, .i q2, .bool d2, .slice za zn zc, .i ov] #[.i pf, .i qf, .bool df]) := HL7.out.step HW.out.1
   have HA8 : Hid (AnsR w3.heap.size w4.heap.size w8 C D (.slice ta tn tc) #[.i rcode, .i rh0, .i rh1, .bool rh2, .i rval, .slice ra rn rc] (.slice ra rn rc) (ndsDt rl) (ensDt rlist)) := HA7.out.step HW.out.1
   have HX8 : Hid (XS w4.heap.size w8 w5.heap.size w6.heap.size M (.slice ua un uc) #[.i kd, .i p, .i q, .bool d, .slice ba bn bc, .i p2, .i q2, .bool d2, .slice ga gn gc, .i ov] (.slice ba bn bc) (.slice ga gn gc) l nm asn) := HX7.out.step HW.out.1
   have hs8 : w7.heap.size ≤ w8.heap.size := HW.out.1.size
   have hsE := HX7.out.hE
   have hsM := HX7.out.hM
   clear HW ho8 HL7 HA7 HX7 HS8
   have z0_0 := HO8.out.vC.l1
   have z1_0 := HA8.out.vC.l1
   go_wp2_with fail
   refine Calls.mono (HET.out _ _ _ _ _ (OwV.rd HO8.out.t) HA8.out.t) ?_
   rintro e w9 ⟨rfl, b_⟩
   have HL9 : Hid (LV w w9 #[.slice xa xn xc] #[.i kd, .i p, .i q, .bool d, .slice ya yn yc, .i p2, .i q2, .bool d2, .slice za zn zc, .i ov] #[.i pf, .i qf, .bool df]) := HL8.out.step b_
   have HA9 : Hid (AnsR w3.heap.size w4.heap.size w9 C D (.slice ta tn tc) #[.i rcode, .i rh0, .i rh1, .bool rh2, .i rval, .slice ra rn rc] (.slice ra rn rc) (ndsDt rl) (ensDt rlist)) := HA8.out.step b_
   have HO9 : Hid (AnsO w7.heap.size w8.heap.size R1 R2 w9 G H (.slice pa pn pc) #[.i rcode, .i rh0, .i rh1, .bool rh2, .i rval, .slice sa sn sc] (.slice sa sn sc) (ndsDt rl) (ensDt rlist)) := HO8.out.step b_
   have HX9 : Hid (XS w4.heap.size w9 w5.heap.size w6.heap.size M (.slice ua un uc) #[.i kd, .i p, .i q, .bool d, .slice ba bn bc, .i p2, .i q2, .bool d2, .slice ga gn gc, .i ov] (.slice ba bn bc) (.slice ga gn gc) l nm asn) := HX8.out.step b_
   clear HL8 HA8 HO8 HX8
   clear z0_0 z1_0
   clear b_
   obtain ⟨z0_0, z0_1, z0_2, z0_3, z0_4, z0_5⟩ := HO9.out.vD.l6
   obtain ⟨z1_0, z1_1, z1_2, z1_3, z1_4, z1_5⟩ := HA9.out.vD.l6
   go_wp2_with fail
   refine Calls.mono (HER.out _ _ _ _ _ (OwV.rd HO9.out.z) HA9.out.z) ?_
   rintro e w10 ⟨rfl, b_⟩
   have HL10 : Hid (LV w w10 #[.slice xa xn xc] #[.i kd, .i p, .i q, .bool d, .slice ya yn yc, .i p2, .i q2, .bool d2, .slice za zn zc, .i ov] #[.i pf, .i qf, .bool df]) := HL9.out.step b_
   have HA10 : Hid (AnsR w3.heap.size w4.heap.size w10 C D (.slice ta tn tc) #[.i rcode, .i rh0, .i rh1, .bool rh2, .i rval, .slice ra rn rc] (.slice ra rn rc) (ndsDt rl) (ensDt rlist)) := HA9.out.step b_
   have HO10 : Hid (AnsO w7.heap.size w8.heap.size R1 R2 w10 G H (.slice pa pn pc) #[.i rcode, .i rh0, .i rh1, .bool rh2, .i rval, .slice sa sn sc] (.slice sa sn sc) (ndsDt rl) (ensDt rlist)) := HO9.out.step b_
   have HX10 : Hid (XS w4.heap.size w10 w5.heap.size w6.heap.size M (.slice ua un uc) #[.i kd, .i p, .i q, .bool d, .slice ba bn bc, .i p2, .i q2, .bool d2, .slice ga gn gc, .i ov] (.slice ba bn bc) (.slice ga gn gc) l nm asn) := HX9.out.step b_
   clear HL9 HA9 HO9 HX9
   clear z0_0 z0_1 z0_2 z0_3 z0_4 z0_5 z1_0 z1_1 z1_2 z1_3 z1_4 z1_5
   clear b_
   have y0_0 := HX10.out.vE.l1
   have y1_0 := HL10.out.vT.l1
   have lt0_ := HX10.out.vE.lt
   have lt1_ := HL10.out.vT.lt
   go_wp2
   go_region_held3 (fun w' => w'.cell? ⟨w5.heap.size, 0, none⟩ = some (.slice ua un uc) ∧ w'.cell? ⟨w.heap.size, 0, none⟩ = some (.slice xa xn xc)) (first | go_keep | (refine ⟨?_, ?_⟩ <;> assumption)) (first
    | (go_at_call 16; refine Calls.mono (HT.out w10.drew (HL10.out.B.drew)) ?_; rintro e wa ⟨ea, en, ec, rfl, oe, ba_⟩; have ba' : Below w10.heap.size w10 wa := (Below.drew (Below.refl _ _)).trans ba_; have ka0_0 := (HX10.out.vE.step ba').l1; have ka1_0 := (HL10.out.vT.step ba').l1)
    | (go_at_call 19; refine Calls.mono (HE.out _ _ _ _ _ (OwV.rd (HX10.out.x.step ba')) (OwV.rd oe)) ?_; rintro e w11 ⟨rfl, bb_⟩; have bb' : Below w10.heap.size w10 w11 := ba'.trans (bb_.mono ba'.size); have kb0_0 := (HX10.out.vE.step bb').l1; have kb1_0 := (HL10.out.vT.step bb').l1))
   have HL11 : Hid (LV w w11 #[.slice xa xn xc] #[.i kd, .i p, .i q, .bool d, .slice ya yn yc, .i p2, .i q2, .bool d2, .slice za zn zc, .i ov] #[.i pf, .i qf, .bool df]) := HL10.out.step bb'
   have HA11 : Hid (AnsR w3.heap.size w4.heap.size w11 C D (.slice ta tn tc) #[.i rcode, .i rh0, .i rh1, .bool rh2, .i rval, .slice ra rn rc] (.slice ra rn rc) (ndsDt rl) (ensDt rlist)) := HA10.out.step bb'
   have HO11 : Hid (AnsO w7.heap.size w8.heap.size R1 R2 w11 G H (.slice pa pn pc) #[.i rcode, .i rh0, .i rh1, .bool rh2, .i rval, .slice sa sn sc] (.slice sa sn sc) (ndsDt rl) (ensDt rlist)) := HO10.out.step bb'
   have HX11 : Hid (XS w4.heap.size w11 w5.heap.size w6.heap.size M (.slice ua un uc) #[.i kd, .i p, .i q, .bool d, .slice ba bn bc, .i p2, .i q2, .bool d2, .slice ga gn gc, .i ov] (.slice ba bn bc) (.slice ga gn gc) l nm asn) := HX10.out.step bb'
   clear HL10 HA10 HO10 HX10
   clear y0_0 y1_0 lt0_ lt1_
   obtain ⟨y0_0, y0_1, y0_2, y0_3, y0_4, y0_5, y0_6, y0_7, y0_8, y0_9⟩ := HX11.out.vF.l10
   obtain ⟨y1_0, y1_1, y1_2, y1_3, y1_4, y1_5, y1_6, y1_7, y1_8, y1_9⟩ := HL11.out.vO.l10
   have lt0_ := HX11.out.vF.lt
   have lt1_ := HL11.out.vO.lt
   go_wp2
   go_region_held3 (fun w' => w'.cell? ⟨w6.heap.size, 0, none⟩ = some (.i kd) ∧ w'.cell? ⟨w6.heap.size, 1, none⟩ = some (.i p) ∧ w'.cell? ⟨w6.heap.size, 2, none⟩ = some (.i q) ∧ w'.cell? ⟨w6.heap.size, 3, none⟩ = some (.bool d) ∧ w'.cell? ⟨w6.heap.size, 4, none⟩ = some (.slice ba bn bc) ∧ w'.cell? ⟨w6.heap.size, 5, none⟩ = some (.i p2) ∧ w'.cell? ⟨w6.heap.size, 6, none⟩ = some (.i q2) ∧ w'.cell? ⟨w6.heap.size, 7, none⟩ = some (.bool d2) ∧ w'.cell? ⟨w6.heap.size, 8, none⟩ = some (.slice ga gn gc) ∧ w'.cell? ⟨w6.heap.size, 9, none⟩ = some (.i ov) ∧ w'.cell? ⟨w.heap.size + 1, 0, none⟩ = some (.i kd) ∧ w'.cell? ⟨w.heap.size + 1, 1, none⟩ = some (.i p) ∧ w'.cell? ⟨w.heap.size + 1, 2, none⟩ = some (.i q) ∧ w'.cell? ⟨w.heap.size + 1, 3, none⟩ = some (.bool d) ∧ w'.cell? ⟨w.heap.size + 1, 4, none⟩ = some (.slice ya yn yc) ∧ w'.cell? ⟨w.heap.size + 1, 5, none⟩ = some (.i p2) ∧ w'.cell? ⟨w.heap.size + 1, 6, none⟩ = some (.i q2) ∧ w'.cell? ⟨w.heap.size + 1, 7, none⟩ = some (.bool d2) ∧ w'.cell? ⟨w.heap.size + 1, 8, none⟩ = some (.slice za zn zc) ∧ w'.cell? ⟨w.heap.size + 1, 9, none⟩ = some (.i ov)) (first | go_keep | (refine ⟨?_, ?_, ?_, ?_, ?_, ?_, ?_, ?_, ?_, ?_, ?_, ?_, ?_, ?_, ?_, ?_, ?_, ?_, ?_, ?_⟩ <;> assumption)) (first
    | (go_at_call 17; refine Calls.mono (HO.out w11.drew (HL11.out.B.drew)) ?_; rintro e wa ⟨ea, en, ec, ea2, en2, ec2, M2, rfl, _, oe, oe2, ba_⟩; have ba' : Below w11.heap.size w11 wa := (Below.drew (Below.refl _ _)).trans ba_; obtain ⟨ka0_0, ka0_1, ka0_2, ka0_3, ka0_4, ka0_5, ka0_6, ka0_7, ka0_8, ka0_9⟩ := (HX11.out.vF.step ba').l10; obtain ⟨ka1_0, ka1_1, ka1_2, ka1_3, ka1_4, ka1_5, ka1_6, ka1_7, ka1_8, ka1_9⟩ := (HL11.out.vO.step ba').l10)
    | (go_at_call 21; refine Calls.mono (HEO.out _ _ _ _ _ _ _ _ _ (OwV.rd (HX11.out.y.step ba')) (OwV.rd oe) (OwV.rd (HX11.out.z.step ba')) (OwV.rd oe2)) ?_; rintro e w12 ⟨rfl, bb_⟩; have bb' : Below w11.heap.size w11 w12 := ba'.trans (bb_.mono ba'.size); obtain ⟨kb0_0, kb0_1, kb0_2, kb0_3, kb0_4, kb0_5, kb0_6, kb0_7, kb0_8, kb0_9⟩ := (HX11.out.vF.step bb').l10; obtain ⟨kb1_0, kb1_1, kb1_2, kb1_3, kb1_4, kb1_5, kb1_6, kb1_7, kb1_8, kb1_9⟩ := (HL11.out.vO.step bb').l10))
   have HL12 : Hid (LV w w12 #[.slice xa xn xc] #[.i kd, .i p, .i q, .bool d, .slice ya yn yc, .i p2, .i q2, .bool d2, .slice za zn zc, .i ov] #[.i pf, .i qf, .bool df]) := HL11.out.step bb'
   have HA12 : Hid (AnsR w3.heap.size w4.heap.size w12 C D (.slice ta tn tc) #[.i rcode, .i rh0, .i rh1, .bool rh2, .i rval, .slice ra rn rc] (.slice ra rn rc) (ndsDt rl) (ensDt rlist)) := HA11.out.step bb'
   have HO12 : Hid (AnsO w7.heap.size w8.heap.size R1 R2 w12 G H (.slice pa pn pc) #[.i rcode, .i rh0, .i rh1, .bool rh2, .i rval, .slice sa sn sc] (.slice sa sn sc) (ndsDt rl) (ensDt rlist)) := HO11.out.step bb'
   have HX12 : Hid (XS w4.heap.size w12 w5.heap.size w6.heap.size M (.slice ua un uc) #[.i kd, .i p, .i q, .bool d, .slice ba bn bc, .i p2, .i q2, .bool d2, .slice ga gn gc, .i ov] (.slice ba bn bc) (.slice ga gn gc) l nm asn) := HX11.out.step bb'
   clear HL11 HA11 HO11 HX11
   clear y0_0 y0_1 y0_2 y0_3 y0_4 y0_5 y0_6 y0_7 y0_8 y0_9 y1_0 y1_1 y1_2 y1_3 y1_4 y1_5 y1_6 y1_7 y1_8 y1_9 lt0_ lt1_
   have hlE := HX12.out.vE.lt
   have z0_0 := HX12.out.vE.l1
   go_wp2_with fail
   refine Calls.mono (HM.out _ _ _ HX12.out.x (fun b hb => by omega)) ?_
   rintro e w13 ⟨rfl, _, t_⟩
   have HXM : Hid (VarA w13 w6.heap.size 29 #[.i kd, .i p, .i q, .bool d, .slice ba bn bc, .i p2, .i q2, .bool d2, .slice ga gn gc, .i ov] ∧ OwV w13 (fun b => w5.heap.size + 1 ≤ b ∧ b < M) (.slice ba bn bc) (.bytes nm) ∧ OwV w13 (fun b => M ≤ b ∧ b < w6.heap.size) (.slice ga gn gc) (.bytes asn)) := HX12.out.turnX t_
   clear HX12
   have HL13 : Hid (LV w w13 #[.slice xa xn xc] #[.i kd, .i p, .i q, .bool d, .slice ya yn yc, .i p2, .i q2, .bool d2, .slice za zn zc, .i ov] #[.i pf, .i qf, .bool df]) := HL12.out.turn t_ (fun b hb => by have := hb.1; omega)
   have HA13 : Hid (AnsR w3.heap.size w4.heap.size w13 C D (.slice ta tn tc) #[.i rcode, .i rh0, .i rh1, .bool rh2, .i rval, .slice ra rn rc] (.slice ra rn rc) (ndsDt rl) (ensDt rlist)) := HA12.out.turn t_ (fun b hb => hb.1)
   have HO13 : Hid (AnsO w7.heap.size w8.heap.size R1 R2 w13 G H (.slice pa pn pc) #[.i rcode, .i rh0, .i rh1, .bool rh2, .i rval, .slice sa sn sc] (.slice sa sn sc) (ndsDt rl) (ensDt rlist)) := HO12.out.turn t_ (fun b hb => by have := hb.2; omega)
   clear HL12 HA12 HO12
   clear z0_0
   clear t_ hlE
   have hlF := HXM.out.1.lt
   obtain ⟨z0_0, z0_1, z0_2, z0_3, z0_4, z0_5, z0_6, z0_7, z0_8, z0_9⟩ := HXM.out.1.l10
   go_wp2_with fail
   refine Calls.mono (HMO.out _ _ _ _ _ HXM.out.2.1 HXM.out.2.2 (fun b hb hc => by omega) (fun b hb => by omega)) ?_
   rintro e w14 ⟨rfl, t_⟩
   have HL14 : Hid (LV w w14 #[.slice xa xn xc] #[.i kd, .i p, .i q, .bool d, .slice ya yn yc, .i p2, .i q2, .bool d2, .slice za zn zc, .i ov] #[.i pf, .i qf, .bool df]) := HL13.out.turn t_ (fun b hb => by omega)
   have HA14 : Hid (AnsR w3.heap.size w4.heap.size w14 C D (.slice ta tn tc) #[.i rcode, .i rh0, .i rh1, .bool rh2, .i rval, .slice ra rn rc] (.slice ra rn rc) (ndsDt rl) (ensDt rlist)) := HA13.out.turn t_ (fun b hb => by omega)
   have HO14 : Hid (AnsO w7.heap.size w8.heap.size R1 R2 w14 G H (.slice pa pn pc) #[.i rcode, .i rh0, .i rh1, .bool rh2, .i rval, .slice sa sn sc] (.slice sa sn sc) (ndsDt rl) (ensDt rlist)) := HO13.out.turn t_ (fun b hb => by omega)
   clear HL13 HA13 HO13
   clear t_ HXM hlF z0_0 z0_1 z0_2 z0_3 z0_4 z0_5 z0_6 z0_7 z0_8 z0_9
   generalize k1 + yn + zn = kk
   have hkk : ¬ ((kk : Nat) : Int) < 0 := by omega
   have z0_0 := HO14.out.vC.l1
   have z1_0 := HA14.out.vC.l1
   go_wp2_with fail
   refine Calls.mono (HET.out _ _ _ _ _ (OwV.rd HO14.out.t) HA14.out.t) ?_
   rintro e w15 ⟨rfl, b_⟩
   have HL15 : Hid (LV w w15 #[.slice xa xn xc] #[.i kd, .i p, .i q, .bool d, .slice ya yn yc, .i p2, .i q2, .bool d2, .slice za zn zc, .i ov] #[.i pf, .i qf, .bool df]) := HL14.out.step b_
   have HA15 : Hid (AnsR w3.heap.size w4.heap.size w15 C D (.slice ta tn tc) #[.i rcode, .i rh0, .i rh1, .bool rh2, .i rval, .slice ra rn rc] (.slice ra rn rc) (ndsDt rl) (ensDt rlist)) := HA14.out.step b_
   have HO15 : Hid (AnsO w7.heap.size w8.heap.size R1 R2 w15 G H (.slice pa pn pc) #[.i rcode, .i rh0, .i rh1, .bool rh2, .i rval, .slice sa sn sc] (.slice sa sn sc) (ndsDt rl) (ensDt rlist)) := HO14.out.step b_
   clear HL14 HA14 HO14
   clear z0_0 z1_0
   clear b_
   obtain ⟨z0_0, z0_1, z0_2, z0_3, z0_4, z0_5⟩ := HO15.out.vD.l6
   obtain ⟨z1_0, z1_1, z1_2, z1_3, z1_4, z1_5⟩ := HA15.out.vD.l6
   go_wp2_with fail
   refine Calls.mono (HER.out _ _ _ _ _ (OwV.rd HO15.out.z) HA15.out.z) ?_
   rintro e w16 ⟨rfl, b_⟩
   have HL16 : Hid (LV w w16 #[.slice xa xn xc] #[.i kd, .i p, .i q, .bool d, .slice ya yn yc, .i p2, .i q2, .bool d2, .slice za zn zc, .i ov] #[.i pf, .i qf, .bool df]) := HL15.out.step b_
   have HA16 : Hid (AnsR w3.heap.size w4.heap.size w16 C D (.slice ta tn tc) #[.i rcode, .i rh0, .i rh1, .bool rh2, .i rval, .slice ra rn rc] (.slice ra rn rc) (ndsDt rl) (ensDt rlist)) := HA15.out.step b_
   have HO16 : Hid (AnsO w7.heap.size w8.heap.size R1 R2 w16 G H (.slice pa pn pc) #[.i rcode, .i rh0, .i rh1, .bool rh2, .i rval, .slice sa sn sc] (.slice sa sn sc) (ndsDt rl) (ensDt rlist)) := HO15.out.step b_
   clear HL15 HA15 HO15
   clear z0_0 z0_1 z0_2 z0_3 z0_4 z0_5 z1_0 z1_1 z1_2 z1_3 z1_4 z1_5
   clear b_
   have z0_0 := HO16.out.vC.l1
   go_wp2_with fail
   refine Calls.mono (HMT.out _ _ _ HO16.out.t (fun b hb => by have := HO16.out.r b (.inl hb); have := HO16.out.hW; omega)) ?_
   rintro e w17 ⟨rfl, og_, t_⟩
   have HL17 : Hid (LV w w17 #[.slice xa xn xc] #[.i kd, .i p, .i q, .bool d, .slice ya yn yc, .i p2, .i q2, .bool d2, .slice za zn zc, .i ov] #[.i pf, .i qf, .bool df]) := HL16.out.turn t_ (fun b hb => by have := HO16.out.r b (.inl hb); omega)
   have HA17 : Hid (AnsR w3.heap.size w4.heap.size w17 C D (.slice ta tn tc) #[.i rcode, .i rh0, .i rh1, .bool rh2, .i rval, .slice ra rn rc] (.slice ra rn rc) (ndsDt rl) (ensDt rlist)) := HA16.out.turn t_ (fun b hb => by have := HO16.out.r b (.inl hb); omega)
   have HO17 : Hid (AnsO w7.heap.size w8.heap.size R1 R2 w17 G H (.slice pa pn pc) #[.i rcode, .i rh0, .i rh1, .bool rh2, .i rval, .slice sa sn sc] (.slice sa sn sc) (ndsDt (mkNds rl 1)) (ensDt rlist)) := HO16.out.turn1 t_ og_
   clear HL16 HA16 HO16
   clear z0_0
   clear t_ og_
   obtain ⟨z0_0, z0_1, z0_2, z0_3, z0_4, z0_5⟩ := HO17.out.vD.l6
   go_wp2_with fail
   refine Calls.mono (HMR.out _ _ _ HO17.out.z) ?_
   rintro e w18 ⟨rfl, og_, t_⟩
   have HL18 : Hid (LV w w18 #[.slice xa xn xc] #[.i kd, .i p, .i q, .bool d, .slice ya yn yc, .i p2, .i q2, .bool d2, .slice za zn zc, .i ov] #[.i pf, .i qf, .bool df]) := HL17.out.turn t_ (fun b hb => by have := HO17.out.r b (.inr hb); omega)
   have HA18 : Hid (AnsR w3.heap.size w4.heap.size w18 C D (.slice ta tn tc) #[.i rcode, .i rh0, .i rh1, .bool rh2, .i rval, .slice ra rn rc] (.slice ra rn rc) (ndsDt rl) (ensDt rlist)) := HA17.out.turn t_ (fun b hb => by have := HO17.out.r b (.inr hb); omega)
   have HO18 : Hid (AnsO w7.heap.size w8.heap.size R1 R2 w18 G H (.slice pa pn pc) #[.i rcode, .i rh0, .i rh1, .bool rh2, .i rval, .slice sa sn sc] (.slice sa sn sc) (ndsDt (mkNds rl 1)) (ensDt (mkEns rlist m1))) := HO17.out.turn2 t_ og_
   clear HL17 HA17 HO17
   clear z0_0 z0_1 z0_2 z0_3 z0_4 z0_5
   clear t_ og_
   have hm1 : ¬ ((m1 : Nat) : Int) < 0 := by omega
   have hm2 : ¬ ((m2 : Nat) : Int) < 0 := by omega
   have z0_0 := HO18.out.vC.l1
   go_wp2_with fail
   refine Calls.mono (HHT.out _ _ _ (OwV.rd HO18.out.t)) ?_
   rintro e w19 ⟨rfl, b_⟩
   have HL19 : Hid (LV w w19 #[.slice xa xn xc] #[.i kd, .i p, .i q, .bool d, .slice ya yn yc, .i p2, .i q2, .bool d2, .slice za zn zc, .i ov] #[.i pf, .i qf, .bool df]) := HL18.out.step b_
   have HA19 : Hid (AnsR w3.heap.size w4.heap.size w19 C D (.slice ta tn tc) #[.i rcode, .i rh0, .i rh1, .bool rh2, .i rval, .slice ra rn rc] (.slice ra rn rc) (ndsDt rl) (ensDt rlist)) := HA18.out.step b_
   have HO19 : Hid (AnsO w7.heap.size w8.heap.size R1 R2 w19 G H (.slice pa pn pc) #[.i rcode, .i rh0, .i rh1, .bool rh2, .i rval, .slice sa sn sc] (.slice sa sn sc) (ndsDt (mkNds rl 1)) (ensDt (mkEns rlist m1))) := HO18.out.step b_
   clear HL18 HA18 HO18
   clear z0_0
   clear b_
   obtain ⟨z0_0, z0_1, z0_2, z0_3, z0_4, z0_5⟩ := HO19.out.vD.l6
   go_wp2_with fail
   refine Calls.mono (HHR.out _ _ _ (OwV.rd HO19.out.z)) ?_
   rintro e w20 ⟨rfl, b_⟩
   have HL20 : Hid (LV w w20 #[.slice xa xn xc] #[.i kd, .i p, .i q, .bool d, .slice ya yn yc, .i p2, .i q2, .bool d2, .slice za zn zc, .i ov] #[.i pf, .i qf, .bool df]) := HL19.out.step b_
   have HA20 : Hid (AnsR w3.heap.size w4.heap.size w20 C D (.slice ta tn tc) #[.i rcode, .i rh0, .i rh1, .bool rh2, .i rval, .slice ra rn rc] (.slice ra rn rc) (ndsDt rl) (ensDt rlist)) := HA19.out.step b_
   have HO20 : Hid (AnsO w7.heap.size w8.heap.size R1 R2 w20 G H (.slice pa pn pc) #[.i rcode, .i rh0, .i rh1, .bool rh2, .i rval, .slice sa sn sc] (.slice sa sn sc) (ndsDt (mkNds rl 1)) (ensDt (mkEns rlist m1))) := HO19.out.step b_
   clear HL19 HA19 HO19
   clear z0_0 z0_1 z0_2 z0_3 z0_4 z0_5
   clear b_
   go_upto_region 35 with fail
   go_cut [17, 18] from 19 (fun s17 s18 wx => ∃ Y Z ea en ec va vn vc, s17 = .pointer (some ⟨Y, 0, none⟩) ∧ s18 = .pointer (some ⟨Z, 0, none⟩) ∧ Hid (Below w20.heap.size w20 wx ∧ w20.heap.size ≤ Y ∧ VarA wx Y 25 #[.slice ea en ec] ∧ w20.heap.size ≤ Z ∧ VarA wx Z 34 #[.i rcode, .i rh0, .i rh1, .bool rh2, .i rval, .slice va vn vc] ∧ FrV w20 wx (fun b => b = Y ∨ b = Z) (.slice ea en ec) (ndsDt rl) ∧ FrV w20 wx (fun b => b = Y ∨ b = Z) (.slice va vn vc) (ensDt rlist)))
   case first =>
    clear hkk hm1 hm2
    refine reg35 HT HO HF_ HI8 HL20 (fun C D ma mn mc ba bn bc ga gn gc ta tn tc ra rn rc wz HLF => ?_)
    go_wp2_with fail
    go_meet
    exact ⟨C, D, ta, tn, tc, ra, rn, rc, rfl, rfl, HLF⟩
   case rest =>
    rename World => w21
    obtain ⟨Y, Z, ea, en, ec, va, vn, vc, rfl, rfl, HW⟩ := hcut
    have HL21 : Hid (LV w w21 #[.slice xa xn xc] #[.i kd, .i p, .i q, .bool d, .slice ya yn yc, .i p2, .i q2, .bool d2, .slice za zn zc, .i ov] #[.i pf, .i qf, .bool df]) := HL20.out.step HW.out.1
    have HA21 : Hid (AnsR w3.heap.size w4.heap.size w21 C D (.slice ta tn tc) #[.i rcode, .i rh0, .i rh1, .bool rh2, .i rval, .slice ra rn rc] (.slice ra rn rc) (ndsDt rl) (ensDt rlist)) := HA20.out.step HW.out.1
    have HO21 : Hid (AnsO w7.heap.size w8.heap.size R1 R2 w21 G H (.slice pa pn pc) #[.i rcode, .i rh0, .i rh1, .bool rh2, .i rval, .slice sa sn sc] (.slice sa sn sc) (ndsDt (mkNds rl 1)) (ensDt (mkEns rlist m1))) := HO20.out.step HW.out.1
    have HP21 : Hid (AnsR w20.heap.size w21.heap.size w21 Y Z (.slice ea en ec) #[.i rcode, .i rh0, .i rh1, .bool rh2, .i rval, .slice va vn vc] (.slice va vn vc) (ndsDt rl) (ensDt rlist)) := AnsR.mk1 HW.out.2.1 HW.out.2.2.1 HW.out.2.2.2.1 HW.out.2.2.2.2.1 HW.out.2.2.2.2.2.1 HW.out.2.2.2.2.2.2
    clear HW HL20 HA20 HO20
    have z0_0 := HP21.out.vC.l1
    have z1_0 := HA21.out.vC.l1
    go_wp2_with fail
    refine Calls.mono (HET.out _ _ _ _ _ HP21.out.t HA21.out.t) ?_
    rintro e w22 ⟨rfl, b_⟩
    have HL22 : Hid (LV w w22 #[.slice xa xn xc] #[.i kd, .i p, .i q, .bool d, .slice ya yn yc, .i p2, .i q2, .bool d2, .slice za zn zc, .i ov] #[.i pf, .i qf, .bool df]) := HL21.out.step b_
    have HA22 : Hid (AnsR w3.heap.size w4.heap.size w22 C D (.slice ta tn tc) #[.i rcode, .i rh0, .i rh1, .bool rh2, .i rval, .slice ra rn rc] (.slice ra rn rc) (ndsDt rl) (ensDt rlist)) := HA21.out.step b_
    have HO22 : Hid (AnsO w7.heap.size w8.heap.size R1 R2 w22 G H (.slice pa pn pc) #[.i rcode, .i rh0, .i rh1, .bool rh2, .i rval, .slice sa sn sc] (.slice sa sn sc) (ndsDt (mkNds rl 1)) (ensDt (mkEns rlist m1))) := HO21.out.step b_
    have HP22 : Hid (AnsR w20.heap.size w21.heap.size w22 Y Z (.slice ea en ec) #[.i rcode, .i rh0, .i rh1, .bool rh2, .i rval, .slice va vn vc] (.slice va vn vc) (ndsDt rl) (ensDt rlist)) := HP21.out.step b_
    clear HL21 HA21 HO21 HP21
    clear z0_0 z1_0
    clear b_
    obtain ⟨z0_0, z0_1, z0_2, z0_3, z0_4, z0_5⟩ := HP22.out.vD.l6
    obtain ⟨z1_0, z1_1, z1_2, z1_3, z1_4, z1_5⟩ := HA22.out.vD.l6
    go_wp2_with fail
    refine Calls.mono (HER.out _ _ _ _ _ HP22.out.z HA22.out.z) ?_
    rintro e w23 ⟨rfl, b_⟩
    have HL23 : Hid (LV w w23 #[.slice xa xn xc] #[.i kd, .i p, .i q, .bool d, .slice ya yn yc, .i p2, .i q2, .bool d2, .slice za zn zc, .i ov] #[.i pf, .i qf, .bool df]) := HL22.out.step b_
    have HA23 : Hid (AnsR w3.heap.size w4.heap.size w23 C D (.slice ta tn tc) #[.i rcode, .i rh0, .i rh1, .bool rh2, .i rval, .slice ra rn rc] (.slice ra rn rc) (ndsDt rl) (ensDt rlist)) := HA22.out.step b_
    have HO23 : Hid (AnsO w7.heap.size w8.heap.size R1 R2 w23 G H (.slice pa pn pc) #[.i rcode, .i rh0, .i rh1, .bool rh2, .i rval, .slice sa sn sc] (.slice sa sn sc) (ndsDt (mkNds rl 1)) (ensDt (mkEns rlist m1))) := HO22.out.step b_
    have HP23 : Hid (AnsR w20.heap.size w21.heap.size w23 Y Z (.slice ea en ec) #[.i rcode, .i rh0, .i rh1, .bool rh2, .i rval, .slice va vn vc] (.slice va vn vc) (ndsDt rl) (ensDt rlist)) := HP22.out.step b_
    clear HL22 HA22 HO22 HP22
    clear z0_0 z0_1 z0_2 z0_3 z0_4 z0_5 z1_0 z1_1 z1_2 z1_3 z1_4 z1_5
    clear b_
    have z0_0 := HO23.out.vC.l1
    go_wp2_with fail
    refine Calls.mono (HHT.out _ _ _ (OwV.rd HO23.out.t)) ?_
    rintro e w24 ⟨rfl, b_⟩
    have HL24 : Hid (LV w w24 #[.slice xa xn xc] #[.i kd, .i p, .i q, .bool d, .slice ya yn yc, .i p2, .i q2, .bool d2, .slice za zn zc, .i ov] #[.i pf, .i qf, .bool df]) := HL23.out.step b_
    have HA24 : Hid (AnsR w3.heap.size w4.heap.size w24 C D (.slice ta tn tc) #[.i rcode, .i rh0, .i rh1, .bool rh2, .i rval, .slice ra rn rc] (.slice ra rn rc) (ndsDt rl) (ensDt rlist)) := HA23.out.step b_
    have HO24 : Hid (AnsO w7.heap.size w8.heap.size R1 R2 w24 G H (.slice pa pn pc) #[.i rcode, .i rh0, .i rh1, .bool rh2, .i rval, .slice sa sn sc] (.slice sa sn sc) (ndsDt (mkNds rl 1)) (ensDt (mkEns rlist m1))) := HO23.out.step b_
    have HP24 : Hid (AnsR w20.heap.size w21.heap.size w24 Y Z (.slice ea en ec) #[.i rcode, .i rh0, .i rh1, .bool rh2, .i rval, .slice va vn vc] (.slice va vn vc) (ndsDt rl) (ensDt rlist)) := HP23.out.step b_
    clear HL23 HA23 HO23 HP23
    clear z0_0
    clear b_
    obtain ⟨z0_0, z0_1, z0_2, z0_3, z0_4, z0_5⟩ := HO24.out.vD.l6
    go_wp2_with fail
    refine Calls.mono (HHR.out _ _ _ (OwV.rd HO24.out.z)) ?_
    rintro e w25 ⟨rfl, b_⟩
    have HL25 : Hid (LV w w25 #[.slice xa xn xc] #[.i kd, .i p, .i q, .bool d, .slice ya yn yc, .i p2, .i q2, .bool d2, .slice za zn zc, .i ov] #[.i pf, .i qf, .bool df]) := HL24.out.step b_
    have HA25 : Hid (AnsR w3.heap.size w4.heap.size w25 C D (.slice ta tn tc) #[.i rcode, .i rh0, .i rh1, .bool rh2, .i rval, .slice ra rn rc] (.slice ra rn rc) (ndsDt rl) (ensDt rlist)) := HA24.out.step b_
    have HO25 : Hid (AnsO w7.heap.size w8.heap.size R1 R2 w25 G H (.slice pa pn pc) #[.i rcode, .i rh0, .i rh1, .bool rh2, .i rval, .slice sa sn sc] (.slice sa sn sc) (ndsDt (mkNds rl 1)) (ensDt (mkEns rlist m1))) := HO24.out.step b_
    have HP25 : Hid (AnsR w20.heap.size w21.heap.size w25 Y Z (.slice ea en ec) #[.i rcode, .i rh0, .i rh1, .bool rh2, .i rval, .slice va vn vc] (.slice va vn vc) (ndsDt rl) (ensDt rlist)) := HP24.out.step b_
    clear HL24 HA24 HO24 HP24
    clear z0_0 z0_1 z0_2 z0_3 z0_4 z0_5
    clear b_
    go_wp2
    go_ret
    exact ⟨rfl, HL25.out.B⟩

set_option maxRecDepth 100000 in
theorem lifted (os : Os) (started : os.Started) (H : Type) (enc : TypeId × Value → H) :
  ReturnsInHanded {} Tryz.checked os 5 .any (Rows.fnExactDoSpec.pre6 enc Tryz.prog Tryz.f5 Rows.fnExactDoRow.domain false) (Rows.fnExactDoSpec.post enc Tryz.prog Tryz.f5 false true false false) := by
 refine returnsInHanded_of_change (C := Tryz.checked) own started (by kernel_rfl) Tryz.func5
  (ChangeSpec.witness6 (enc := enc) (C := Tryz.checked) false ⟨#[], #[.agg #[.slice none 0 0], .agg #[.i 0, .i 0, .i 0, .bool false, .slice none 0 0, .i 0, .i 0, .bool false, .slice none 0 0, .i 0], .agg #[.i 0, .i 0, .bool false]], []⟩ 8 (by kernel_rfl) (by kernel_rfl) (by kernel_rfl) (by kernel_rfl)) ?_
 intro W base args ds gs before hval0 hW hcnd _
 have hval : ∀ (j : Nat) t v, Tryz.f5.params[j]? = some t → args[j]? = some v → Value.okWide Tryz.prog W .any base t v := hval0
 have hW' := hW
 obtain ⟨p, q, hA0, hV, rfl, hfz, hnd⟩ := hW
 have hA : DataW.TrodAll enc Tryz.prog W 0 (fun _ => true) true Tryz.f5.params.toList args.toList ds p := hA0
 rw [Tryz.params5] at hA hval
 obtain ⟨v0, vs0, x0, ds0, p0, q0, hargs, rfl, rfl, h0, r0⟩ := trodAll_cons hA
 obtain ⟨v1, vs1, x1, ds1, p1, q1, rfl, rfl, rfl, h1, r1⟩ := trodAll_cons r0
 obtain ⟨v2, vs2, x2, ds2, p2, q2, rfl, rfl, rfl, h2, r2⟩ := trodAll_cons r1
 obtain ⟨rfl, rfl, rfl⟩ := trodAll_nil r2
 obtain rfl : args = #[v0, v1, v2] := by cases args; simp_all
 obtain ⟨rfl, rfl⟩ := trodVars_none hV
 have k0 := h0
 have lt0 : ∀ x ∈ p0, x.block < W.heap.size := by obtain ⟨m, hm⟩ := k0; exact DataW.trod_lt m _ _ _ hm
 obtain ⟨d0, e0⟩ := open_treeA (hval 0 44 v0 rfl rfl) h0
 have k1 := h1
 have lt1 : ∀ x ∈ p1, x.block < W.heap.size := by obtain ⟨m, hm⟩ := k1; exact DataW.trod_lt m _ _ _ hm
 obtain ⟨d1, e1⟩ := open_opA (hval 1 47 v1 rfl rfl) h1
 have k2 := h2
 have lt2 : ∀ x ∈ p2, x.block < W.heap.size := by obtain ⟨m, hm⟩ := k2; exact DataW.trod_lt m _ _ _ hm
 obtain ⟨d2, e2⟩ := open_handleW (hval 2 45 v2 rfl rfl) h2
 clear hA0 hval0
 refine (walk v0 d0 v1 d1 v2 d2 W e0 e1 e2).mono fun e W' ⟨he, bel⟩ => ?_
 subst he
 exact ⟨_, rfl, _, _, _, [], _, [], hW', trodAll_mk1 (shut_bool Tryz.underlying4 _), (trodAll_cons_mk (Below.trod laidOut (by kernel_rfl) (of_decide_eq_true (by kernel_rfl)) k0 bel lt0) (trodAll_cons_mk (Below.trod laidOut (by kernel_rfl) (of_decide_eq_true (by kernel_rfl)) k1 bel lt1) (trodAll_cons_mk (Below.trod laidOut (by kernel_rfl) (of_decide_eq_true (by kernel_rfl)) k2 bel lt2) trodAll_mk0))), rfl, bel.frame _, fun h => by cases h⟩

theorem over : Rows.fnExactDoRow.holds Tryz.pinned (OpenSpec.ofChange Rows.fnExactDoSpec) :=
 OpenClaim.holds_of_wide 5 Tryz.f5 rfl rfl rfl rfl rfl rfl rfl ⟨rfl, rfl, rfl, rfl, rfl⟩ rfl rfl rfl rfl rfl (by kernel_rfl) Tryz.func5 (by kernel_rfl)
  (of_decide_eq_true (by kernel_rfl)) (by unfold Func.isWrapper; first | (rw [if_pos (by decide +kernel)]; kernel_rfl) | (rw [if_neg (by decide +kernel)]; exact ⟨rfl, rfl⟩))
  (fun os started H enc _ => lifted os started H enc)
end Go.Proofs.YtcicadfhfojdpaaGreat.fnExactDo

namespace Go.Proofs.YtcicadfhfojdpaaGreat
/-- The given statement. -/
theorem fnExactDo_holds : Rows.FnExactDoSaid := fnExactDo.over
#print axioms fnExactDo_holds
end Go.Proofs.YtcicadfhfojdpaaGreat
