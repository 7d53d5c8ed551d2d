/- The drawn region 11 of FnExactDo; no condition. -/
import Derived.Test.YtcicadfhfojdpaaGreatQA01
import Derived.Test.YtcicadfhfojdpaaGreatQA07
namespace Go.Proofs.YtcicadfhfojdpaaGreat
open Go.RowKit
set_option linter.unusedVariables false
set_option linter.unusedSimpArgs false
set_option maxRecDepth 100000

set_option maxHeartbeats 8000000 in
theorem reg11 {Q : Exit → Act → World → Prop} {w w4 w5 w6 w7 : World} {M : Nat} {ua ba ga : Option Addr} {un uc bn bc gn gc : Nat} {xa ya za : Option Addr} {xn xc yn yc zn zc : Nat} {l rl : List Nd} {kd p q p2 q2 ov pf qf rcode rh0 rh1 rval : Int} {d d2 df rh2 : Bool} {nm asn : List Int} {rlist : List En}
  (HF_ : Hid (∀ W, Calls Tryz.prog 18 #[Hd.v (pf, qf, df)] W fun e w' => e = .returned (Hd.v (pf, qf, df)) ∧ Below W.heap.size W w'))
  (HI8 : Hid (∀ x y z W S, RdV W S x (ndsDt l) → RdV W S y (.bytes nm) → RdV W S z (.bytes asn) → (∀ b, S b → b < W.heap.size) → Calls Tryz.prog 7 #[.agg #[x], opV ⟨kd, (p, q, d), nm, (p2, q2, d2), asn, ov⟩ y z, Hd.v (pf, qf, df)] W (DoI W (rl, ⟨rcode, (rh0, rh1, rh2), rval, rlist⟩))))
  (HL7 : Hid (LV w w7 #[.slice xa xn xc] #[.i kd, .i p, .i q, .bool d, .slice ya yn yc, .i p2, .i q2, .bool d2, .slice za zn zc, .i ov] #[.i pf, .i qf, .bool df]))
  (HX7 : Hid (XS w4.heap.size w7 w5.heap.size w6.heap.size M (.slice ua un uc) #[.i kd, .i p, .i q, .bool d, .slice ba bn bc, .i p2, .i q2, .bool d2, .slice ga gn gc, .i ov] (.slice ba bn bc) (.slice ga gn gc) l nm asn))
  {s0 s1 s2 s3 s4 s6 s7 s8 s9 s12 s13 s14 s15 s16 s17 s18 s19 s20 s21 s22 s23 s24 s25 s26 s27 s28 s29 s30 s31 s32 s33 s34 s35 s36 s37 s38 s39 s40 s41 s42 s43 s44 s45 s46 s47 s48 s49 s50 s51 s52 s53 s54 s55 s56 s57 s58 s59 s60 s61 s62 s63 s64 s65 s66 s67 s68 s69 s70 s71 s72 s73 s74 s75 s76 s77 s78 s79 s80 s81 s82 s83 s84 s85 s86 s87 s88 s89 s90 s91 s92 s93 s94 s95 s96 s97 s98 s99 s100 s101 s102 s103 s104 s105 s106 s107 s108 s109 s110 s111 s112 s113 s114 s115 s116 s117 s118 s119 s120 s121 s122 s123 s124 s125 s126 s127 s128 s129 s130 s131 s132 s133 s134 s135 s136 s137 s138 s139 s140 s141 s142 : Value} {ds : List Deferred}
  (hQ : ∀ (C D : Nat) pa pn pc sa sn sc wz, Hid (Below w7.heap.size w7 wz ∧ w7.heap.size ≤ C ∧ VarA wz C 25 #[.slice pa pn pc] ∧ w7.heap.size ≤ D ∧ VarA wz D 34 #[.i rcode, .i rh0, .i rh1, .bool rh2, .i rval, .slice sa sn sc] ∧ FrO w7 wz (fun b => b = C ∨ b = D) (.slice pa pn pc) (ndsDt rl) (.slice sa sn sc) (ensDt rlist)) → Q .normal ⟨#[s0, s1, s2, s3, s4, .pointer (some ⟨w.heap.size + 2, 0, none⟩), s6, s7, s8, s9, .pointer (some ⟨w5.heap.size, 0, none⟩), .pointer (some ⟨w6.heap.size, 0, none⟩), .pointer (some ⟨C, 0, none⟩), .pointer (some ⟨D, 0, none⟩), s14, s15, s16, s17, s18, s19, s20, s21, s22, s23, s24, s25, s26, s27, s28, s29, s30, s31, s32, s33, s34, s35, s36, s37, s38, s39, s40, s41, s42, .tuple #[.agg #[.slice pa pn pc], .agg #[.i rcode, .i rh0, .i rh1, .bool rh2, .i rval, .slice sa sn sc]], .agg #[.slice ua un uc], .agg #[.i kd, .i p, .i q, .bool d, .slice ba bn bc, .i p2, .i q2, .bool d2, .slice ga gn gc, .i ov], .agg #[.i pf, .i qf, .bool df], .agg #[.i pf, .i qf, .bool df], .tuple #[.agg #[.slice pa pn pc], .agg #[.i rcode, .i rh0, .i rh1, .bool rh2, .i rval, .slice sa sn sc]], .agg #[.slice pa pn pc], .agg #[.i rcode, .i rh0, .i rh1, .bool rh2, .i rval, .slice sa sn sc], s51, s52, s53, s54, s55, s56, s57, s58, s59, s60, s61, s62, s63, s64, s65, s66, s67, s68, s69, s70, s71, s72, s73, s74, s75, s76, s77, s78, s79, s80, s81, s82, s83, s84, s85, s86, s87, s88, s89, s90, s91, s92, s93, s94, s95, s96, s97, s98, s99, s100, s101, s102, s103, s104, s105, s106, s107, s108, s109, s110, s111, s112, s113, s114, s115, s116, s117, s118, s119, s120, s121, s122, s123, s124, s125, s126, s127, s128, s129, s130, s131, s132, s133, s134, s135, s136, s137, s138, s139, s140, s141, s142], ds⟩ wz) :
  (Code.region 11 #[{ dst := some 44, op := Go.Op.load 25 (Go.Operand.tmp 10), type := 25, pos := "exact.go:3492", after := #[], guard := none }, { dst := some 45, op := Go.Op.load 29 (Go.Operand.tmp 11), type := 29, pos := "exact.go:3492", after := #[], guard := none }, { dst := some 46, op := Go.Op.load 45 (Go.Operand.tmp 5), type := 45, pos := "exact.go:3492", after := #[], guard := none }, { dst := some 47, op := Go.Op.call { callee := Go.Callee.value (Go.Operand.func 18), args := #[Go.Operand.tmp 46], argTypes := #[45] }, type := 27, pos := "exact.go:3492", after := #[{ on := 2, ground := Go.Ground.data }], guard := none }, { dst := some 48, op := Go.Op.call { callee := Go.Callee.value (Go.Operand.func 7), args := #[Go.Operand.tmp 44, Go.Operand.tmp 45, Go.Operand.tmp 47], argTypes := #[25, 29, 27] }, type := 35, pos := "exact.go:3492", after := #[{ on := 0, ground := Go.Ground.data }, { on := 1, ground := Go.Ground.data }, { on := 3, ground := Go.Ground.data }, { on := 3, ground := Go.Ground.chain }], guard := none }, { dst := some 43, op := Go.Op.move (Go.Operand.tmp 48), type := 35, pos := "exact.go:3492", after := #[{ on := 4, ground := Go.Ground.data }], guard := none }, { dst := some 49, op := Go.Op.extract (Go.Operand.tmp 43) 0, type := 25, pos := "exact.go:3492", after := #[{ on := 5, ground := Go.Ground.data }], guard := none }, { dst := some 50, op := Go.Op.extract (Go.Operand.tmp 43) 1, type := 34, pos := "exact.go:3492", after := #[{ on := 5, ground := Go.Ground.data }, { on := 10, ground := Go.Ground.gcOnly Go.Departure.lateStores }], guard := none }, { dst := some 12, op := Go.Op.alloc 25, type := 0, pos := "exact.go:3492", after := #[], guard := none }, { dst := some 13, op := Go.Op.alloc 34, type := 0, pos := "exact.go:3492", after := #[], guard := none }, { dst := none, op := Go.Op.store 25 (Go.Operand.tmp 12) (Go.Operand.tmp 49), type := 0, pos := "exact.go:3492", after := #[{ on := 8, ground := Go.Ground.data }, { on := 6, ground := Go.Ground.data }, { on := 4, ground := Go.Ground.chain }, { on := 0, ground := Go.Ground.phase }, { on := 1, ground := Go.Ground.phase }, { on := 2, ground := Go.Ground.phase }, { on := 3, ground := Go.Ground.phase }, { on := 4, ground := Go.Ground.phase }, { on := 5, ground := Go.Ground.phase }, { on := 6, ground := Go.Ground.phase }, { on := 7, ground := Go.Ground.textOnly Go.Departure.lateStores }, { on := 8, ground := Go.Ground.phase }, { on := 9, ground := Go.Ground.phase }], guard := none }, { dst := none, op := Go.Op.store 34 (Go.Operand.tmp 13) (Go.Operand.tmp 50), type := 0, pos := "exact.go:3492", after := #[{ on := 9, ground := Go.Ground.data }, { on := 7, ground := Go.Ground.data }, { on := 10, ground := Go.Ground.chain }, { on := 0, ground := Go.Ground.phase }, { on := 1, ground := Go.Ground.phase }, { on := 2, ground := Go.Ground.phase }, { on := 3, ground := Go.Ground.phase }, { on := 4, ground := Go.Ground.phase }, { on := 5, ground := Go.Ground.phase }, { on := 6, ground := Go.Ground.phase }, { on := 7, ground := Go.Ground.phase }, { on := 8, ground := Go.Ground.phase }, { on := 9, ground := Go.Ground.phase }, { on := 10, ground := Go.Ground.phase }], guard := none }] true).wp Tryz.prog Q ⟨#[s0, s1, s2, s3, s4, .pointer (some ⟨w.heap.size + 2, 0, none⟩), s6, s7, s8, s9, .pointer (some ⟨w5.heap.size, 0, none⟩), .pointer (some ⟨w6.heap.size, 0, none⟩), s12, s13, s14, s15, s16, s17, s18, s19, s20, s21, s22, s23, s24, s25, s26, s27, s28, s29, s30, s31, s32, s33, s34, s35, s36, s37, s38, s39, s40, s41, s42, s43, s44, s45, s46, s47, s48, s49, s50, s51, s52, s53, s54, s55, s56, s57, s58, s59, s60, s61, s62, s63, s64, s65, s66, s67, s68, s69, s70, s71, s72, s73, s74, s75, s76, s77, s78, s79, s80, s81, s82, s83, s84, s85, s86, s87, s88, s89, s90, s91, s92, s93, s94, s95, s96, s97, s98, s99, s100, s101, s102, s103, s104, s105, s106, s107, s108, s109, s110, s111, s112, s113, s114, s115, s116, s117, s118, s119, s120, s121, s122, s123, s124, s125, s126, s127, s128, s129, s130, s131, s132, s133, s134, s135, s136, s137, s138, s139, s140, s141, s142], ds⟩ w7 := by
 have HS : Hid (∀ W : World, Below w7.heap.size w7 W → W.cell? ⟨w5.heap.size, 0, none⟩ = some (.slice ua un uc) ∧ W.cell? ⟨w6.heap.size, 0, none⟩ = some (.i kd) ∧ W.cell? ⟨w6.heap.size, 1, none⟩ = some (.i p) ∧ W.cell? ⟨w6.heap.size, 2, none⟩ = some (.i q) ∧ W.cell? ⟨w6.heap.size, 3, none⟩ = some (.bool d) ∧ W.cell? ⟨w6.heap.size, 4, none⟩ = some (.slice ba bn bc) ∧ W.cell? ⟨w6.heap.size, 5, none⟩ = some (.i p2) ∧ W.cell? ⟨w6.heap.size, 6, none⟩ = some (.i q2) ∧ W.cell? ⟨w6.heap.size, 7, none⟩ = some (.bool d2) ∧ W.cell? ⟨w6.heap.size, 8, none⟩ = some (.slice ga gn gc) ∧ W.cell? ⟨w6.heap.size, 9, none⟩ = some (.i ov) ∧ W.cell? ⟨w.heap.size + 2, 0, none⟩ = some (.i pf) ∧ W.cell? ⟨w.heap.size + 2, 1, none⟩ = some (.i qf) ∧ W.cell? ⟨w.heap.size + 2, 2, none⟩ = some (.bool df)) := fun W hW => ⟨(HX7.out.vE.step hW).c 0 rfl, (HX7.out.vF.step hW).c 0 rfl, (HX7.out.vF.step hW).c 1 rfl, (HX7.out.vF.step hW).c 2 rfl, (HX7.out.vF.step hW).c 3 rfl, (HX7.out.vF.step hW).c 4 rfl, (HX7.out.vF.step hW).c 5 rfl, (HX7.out.vF.step hW).c 6 rfl, (HX7.out.vF.step hW).c 7 rfl, (HX7.out.vF.step hW).c 8 rfl, (HX7.out.vF.step hW).c 9 rfl, (HL7.out.vF.step hW).c 0 rfl, (HL7.out.vF.step hW).c 1 rfl, (HL7.out.vF.step hW).c 2 rfl⟩
 have HXR : Hid (∀ W : World, Below w7.heap.size w7 W → RdV W (fun b => b < W.heap.size) (.slice ua un uc) (ndsDt l) ∧ RdV W (fun b => b < W.heap.size) (.slice ba bn bc) (.bytes nm) ∧ RdV W (fun b => b < W.heap.size) (.slice ga gn gc) (.bytes asn)) := fun W hW => by
  have g := hW.size
  have h := HX7.out.vF.lt
  have hm := HX7.out.hM
  exact ⟨RdV.mono (fun b hb => by omega) (OwV.rd (HX7.out.x.step hW)), RdV.mono (fun b hb => by omega) (OwV.rd (HX7.out.y.step hW)), RdV.mono (fun b hb => by omega) (OwV.rd (HX7.out.z.step hW))⟩
 have HQQ : Hid _ := hQ
 clear hQ
 refine wp_region_noPanic ?_
 refine wp_region_held_drew (S := fun W => W.cell? ⟨w5.heap.size, 0, none⟩ = some (.slice ua un uc) ∧ W.cell? ⟨w6.heap.size, 0, none⟩ = some (.i kd) ∧ W.cell? ⟨w6.heap.size, 1, none⟩ = some (.i p) ∧ W.cell? ⟨w6.heap.size, 2, none⟩ = some (.i q) ∧ W.cell? ⟨w6.heap.size, 3, none⟩ = some (.bool d) ∧ W.cell? ⟨w6.heap.size, 4, none⟩ = some (.slice ba bn bc) ∧ W.cell? ⟨w6.heap.size, 5, none⟩ = some (.i p2) ∧ W.cell? ⟨w6.heap.size, 6, none⟩ = some (.i q2) ∧ W.cell? ⟨w6.heap.size, 7, none⟩ = some (.bool d2) ∧ W.cell? ⟨w6.heap.size, 8, none⟩ = some (.slice ga gn gc) ∧ W.cell? ⟨w6.heap.size, 9, none⟩ = some (.i ov) ∧ W.cell? ⟨w.heap.size + 2, 0, none⟩ = some (.i pf) ∧ W.cell? ⟨w.heap.size + 2, 1, none⟩ = some (.i qf) ∧ W.cell? ⟨w.heap.size + 2, 2, none⟩ = some (.bool df)) (by kernel_rfl) (HS.out _ (Below.drew (Below.refl w7.heap.size w7))) (fun hHeld => ?_)
 refine tkh 0 ?_ rfl (by kernel_rfl) rfl (by assumption) ?_ ?_
 rotate_left
 ·(intro _ h; (try dsimp only at h); go_simp; try with_reducible rfl)
 try simp only [Act.put, qz]
 refine tkh 1 ?_ rfl (by kernel_rfl) rfl (by assumption) ?_ ?_
 rotate_left
 ·(intro _ h; (try dsimp only at h); go_simp; try with_reducible rfl)
 try simp only [Act.put, qz]
 refine tkh 2 ?_ rfl (by kernel_rfl) rfl (by assumption) ?_ ?_
 rotate_left
 ·(intro _ h; (try dsimp only at h); go_simp; try with_reducible rfl)
 try simp only [Act.put, qz]
 have HW0 : Hid (Below w7.heap.size w7 w7.drew) := Below.drew (Below.refl w7.heap.size w7)
 generalize w7.drew = W0 at HW0 hHeld ⊢
 clear hHeld
 generalize hR : wpAnyH Tryz.prog Region.Mode.any _ _ _ = R
 generalize ha0 : Act.mk _ _ = a0
 obtain ⟨A, hA⟩ : ∃ A : Value → Value → Value → Value → Value → Value → Value → Act, A = fun v0 v1 v2 v3 v4 v5 v6 => (((((((a0.put (some 47) v0).put (some 48) v1).put (some 43) v2).put (some 49) v3).put (some 50) v4).put (some 12) v5).put (some 13) v6) := ⟨_, rfl⟩
 rw [← ha0] at hA
 simp only [Act.put, qz] at hA
 have ha : a0 = A s47 s48 s43 s49 s50 s12 s13 := by rw [hA, ← ha0]
 rw [ha]
 have HA_ : Hid _ := hA
 have HR_ : Hid _ := hR
 clear hA hR ha ha0
 have L3_11 : ∀ (W : World) (C : Nat) (D : Nat) pa pn pc sa sn sc, Hid ((Below w7.heap.size w7 W) ∧ (V25 w7 W C) ∧ (V34 w7 W D) ∧ (C ≠ D) ∧ (FrO w7 W (fun b => b = C ∨ b = D) (.slice pa pn pc) (ndsDt rl) (.slice sa sn sc) (ensDt rlist))) → R 2 #[true, true, true, true, true, true, true, true, true, true, false, false] (A (.agg #[.i pf, .i qf, .bool df]) (.tuple #[.agg #[.slice pa pn pc], .agg #[.i rcode, .i rh0, .i rh1, .bool rh2, .i rval, .slice sa sn sc]]) (.tuple #[.agg #[.slice pa pn pc], .agg #[.i rcode, .i rh0, .i rh1, .bool rh2, .i rval, .slice sa sn sc]]) (.agg #[.slice pa pn pc]) (.agg #[.i rcode, .i rh0, .i rh1, .bool rh2, .i rval, .slice sa sn sc]) (pt C) (pt D)) W := by
  intro W C D pa pn pc sa sn sc HF
  rw [← HR_.out, HA_.out]
  dsimp only
  obtain ⟨hB, hC, hD, hne, f0⟩ := HF.out
  refine doH 10 (by kernel_rfl) rfl fun K hK => ?_
  refine step_stF hC.2 (by rfl) (by rfl) (by kernel_rfl) rfl (of_decide_eq_true rfl) rfl ?_
  intro wy vY tY
  have BY := turn1 hB tY hC.1
  refine hK.out _ _ (HS.out _ BY) (fun hHeld => ?_)
  clear hK K
  try simp only [Act.put, qz]
  refine doH 11 (by kernel_rfl) rfl fun K hK => ?_
  refine step_stF (hD.2.turn tY (fun e => hne e.symm)) (by rfl) (by rfl) (by kernel_rfl) rfl (of_decide_eq_true rfl) rfl ?_
  intro wz vZ tZ
  have BZ := turn1 BY tZ hD.1
  refine hK.out _ _ (HS.out _ BZ) (fun hHeld => ?_)
  clear hK K hHeld
  try simp only [Act.put, qz]
  refine wpAnyH_done (by kernel_rfl) (NoPanic.normal ?_) _
  have vW := vY.turn tZ hne
  have hlC := vW.lt
  have hlD := vZ.lt
  have HLF : Hid _ := (⟨BZ, hC.1, vW, hD.1, vZ, (f0.turn tY (Or.inl rfl)).turn tZ (Or.inr rfl)⟩ : Below w7.heap.size w7 wz ∧ w7.heap.size ≤ C ∧ VarA wz C 25 #[.slice pa pn pc] ∧ w7.heap.size ≤ D ∧ VarA wz D 34 #[.i rcode, .i rh0, .i rh1, .bool rh2, .i rval, .slice sa sn sc] ∧ FrO w7 wz (fun b => b = C ∨ b = D) (.slice pa pn pc) (ndsDt rl) (.slice sa sn sc) (ensDt rlist))
  clear hB hC hD hne BY BZ vY vZ vW tY tZ HF f0 hlC hlD
  exact HQQ.out C D pa pn pc sa sn sc wz HLF
 have L3_10 : ∀ (W : World) (C : Nat) pa pn pc sa sn sc, Hid ((Below w7.heap.size w7 W) ∧ (V25 w7 W C) ∧ (True) ∧ (True) ∧ (FrO w7 W (fun b => b = C) (.slice pa pn pc) (ndsDt rl) (.slice sa sn sc) (ensDt rlist))) → R 3 #[true, true, true, true, true, true, true, true, true, false, false, false] (A (.agg #[.i pf, .i qf, .bool df]) (.tuple #[.agg #[.slice pa pn pc], .agg #[.i rcode, .i rh0, .i rh1, .bool rh2, .i rval, .slice sa sn sc]]) (.tuple #[.agg #[.slice pa pn pc], .agg #[.i rcode, .i rh0, .i rh1, .bool rh2, .i rval, .slice sa sn sc]]) (.agg #[.slice pa pn pc]) (.agg #[.i rcode, .i rh0, .i rh1, .bool rh2, .i rval, .slice sa sn sc]) (pt C) s13) W := by
  intro W C pa pn pc sa sn sc HF
  rw [← HR_.out, HA_.out]
  dsimp only
  refine doH 9 (by kernel_rfl) rfl fun K hK => ?_
  ·go_simp
   obtain ⟨hB, hC, hD, hne, f0⟩ := HF.out
   refine hK.out _ _ (HS.out _ (Below.al2 hB _)) (fun hHeld => ?_)
   clear hK K
   try simp only [Act.put, qz]
   have L := L3_11 _ C W.heap.size pa pn pc sa sn sc ⟨Below.al2 hB _, ⟨hC.1, hC.2.alloc _⟩, ⟨hB.size, VarA.new _ _ _⟩, (fun e => by have := hC.2.lt; omega), f0.new _ (fun b hb => by omega)⟩
   rw [← HR_.out, HA_.out] at L
   exact L
 have L3_01 : ∀ (W : World) (D : Nat) pa pn pc sa sn sc, Hid ((Below w7.heap.size w7 W) ∧ (True) ∧ (V34 w7 W D) ∧ (True) ∧ (FrO w7 W (fun b => b = D) (.slice pa pn pc) (ndsDt rl) (.slice sa sn sc) (ensDt rlist))) → R 3 #[true, true, true, true, true, true, true, true, false, true, false, false] (A (.agg #[.i pf, .i qf, .bool df]) (.tuple #[.agg #[.slice pa pn pc], .agg #[.i rcode, .i rh0, .i rh1, .bool rh2, .i rval, .slice sa sn sc]]) (.tuple #[.agg #[.slice pa pn pc], .agg #[.i rcode, .i rh0, .i rh1, .bool rh2, .i rval, .slice sa sn sc]]) (.agg #[.slice pa pn pc]) (.agg #[.i rcode, .i rh0, .i rh1, .bool rh2, .i rval, .slice sa sn sc]) s12 (pt D)) W := by
  intro W D pa pn pc sa sn sc HF
  rw [← HR_.out, HA_.out]
  dsimp only
  refine doH 8 (by kernel_rfl) rfl fun K hK => ?_
  ·go_simp
   obtain ⟨hB, hC, hD, hne, f0⟩ := HF.out
   refine hK.out _ _ (HS.out _ (Below.al2 hB _)) (fun hHeld => ?_)
   clear hK K
   try simp only [Act.put, qz]
   have L := L3_11 _ W.heap.size D pa pn pc sa sn sc ⟨Below.al2 hB _, ⟨hB.size, VarA.new _ _ _⟩, ⟨hD.1, hD.2.alloc _⟩, (fun e => by have := hD.2.lt; omega), f0.new _ (fun b hb => by omega)⟩
   rw [← HR_.out, HA_.out] at L
   exact L
 have L3_00 : ∀ (W : World) pa pn pc sa sn sc, Hid ((Below w7.heap.size w7 W) ∧ (True) ∧ (True) ∧ (True) ∧ (FrO w7 W (fun _ => False) (.slice pa pn pc) (ndsDt rl) (.slice sa sn sc) (ensDt rlist))) → R 4 #[true, true, true, true, true, true, true, true, false, false, false, false] (A (.agg #[.i pf, .i qf, .bool df]) (.tuple #[.agg #[.slice pa pn pc], .agg #[.i rcode, .i rh0, .i rh1, .bool rh2, .i rval, .slice sa sn sc]]) (.tuple #[.agg #[.slice pa pn pc], .agg #[.i rcode, .i rh0, .i rh1, .bool rh2, .i rval, .slice sa sn sc]]) (.agg #[.slice pa pn pc]) (.agg #[.i rcode, .i rh0, .i rh1, .bool rh2, .i rval, .slice sa sn sc]) s12 s13) W := by
  intro W pa pn pc sa sn sc HF
  rw [← HR_.out, HA_.out]
  dsimp only
  refine wpAnyH_ready (rs := [8, 9]) (by kernel_rfl) (by simp) ?_
  refine AllReadyH.cons rfl (fun K hK => ?_) ?_
  ·go_simp
   obtain ⟨hB, hC, hD, hne, f0⟩ := HF.out
   refine hK.out _ _ (HS.out _ (Below.al2 hB _)) (fun hHeld => ?_)
   clear hK K
   try simp only [Act.put, qz]
   have L := L3_10 _ W.heap.size pa pn pc sa sn sc ⟨Below.al2 hB _, ⟨hB.size, VarA.new _ _ _⟩, trivial, trivial, f0.new _ (fun b hb => by omega)⟩
   rw [← HR_.out, HA_.out] at L
   exact L
  refine AllReadyH.cons rfl (fun K hK => ?_) AllReadyH.nil
  ·go_simp
   obtain ⟨hB, hC, hD, hne, f0⟩ := HF.out
   refine hK.out _ _ (HS.out _ (Below.al2 hB _)) (fun hHeld => ?_)
   clear hK K
   try simp only [Act.put, qz]
   have L := L3_01 _ W.heap.size pa pn pc sa sn sc ⟨Below.al2 hB _, trivial, ⟨hB.size, VarA.new _ _ _⟩, trivial, f0.new _ (fun b hb => by omega)⟩
   rw [← HR_.out, HA_.out] at L
   exact L
 have L1_11 : ∀ (W : World) (C : Nat) (D : Nat), Hid ((Below w7.heap.size w7 W) ∧ (V25 w7 W C) ∧ (V34 w7 W D) ∧ (C ≠ D)) → R 6 #[true, true, true, true, false, false, false, false, true, true, false, false] (A (.agg #[.i pf, .i qf, .bool df]) s48 s43 s49 s50 (pt C) (pt D)) W := by
  intro W C D HF
  rw [← HR_.out, HA_.out]
  dsimp only
  refine doH 4 (by kernel_rfl) rfl fun K hK => ?_
  ·go_simp
   obtain ⟨hB, hC, hD, hne⟩ := HF.out
   refine Calls.mono (HI8.out _ _ _ W _ (HXR.out W hB).1 (HXR.out W hB).2.1 (HXR.out W hB).2.2 (fun b hb => hb)) ?_
   rintro e W2 ⟨pa, pn, pc, sa, sn, sc, R1, R2, rfl, o1, o2, h12, hR1, hR2, b2⟩
   have B2 := hB.trans (b2.mono hB.size)
   dsimp only
   refine hK.out _ _ (HS.out _ B2) (fun hHeld => ?_)
   clear hK K
   try simp only [Act.put, qz]
   refine tkh 5 ?_ rfl (by kernel_rfl) rfl (by assumption) ?_ ?_
   rotate_left
   ·(intro _ h; (try dsimp only at h); go_simp; try with_reducible rfl)
   try simp only [Act.put, qz]
   refine tkh 6 ?_ rfl (by kernel_rfl) rfl (by assumption) ?_ ?_
   rotate_left
   ·(intro _ h; (try dsimp only at h); go_simp; try with_reducible rfl)
   try simp only [Act.put, qz]
   refine tkh 7 ?_ rfl (by kernel_rfl) rfl (by assumption) ?_ ?_
   rotate_left
   ·(intro _ h; (try dsimp only at h); go_simp; try with_reducible rfl)
   try simp only [Act.put, qz]
   have L := L3_11 _ C D pa pn pc sa sn sc ⟨B2, ⟨hC.1, hC.2.step b2⟩, ⟨hD.1, hD.2.step b2⟩, hne, FrO.made o1 o2 h12 hR1 hR2 hB.size (fun b hb => by have := hC.2.lt; have := hD.2.lt; omega)⟩
   rw [← HR_.out, HA_.out] at L
   exact L
 have L1_10 : ∀ (W : World) (C : Nat), Hid ((Below w7.heap.size w7 W) ∧ (V25 w7 W C) ∧ (True) ∧ (True)) → R 7 #[true, true, true, true, false, false, false, false, true, false, false, false] (A (.agg #[.i pf, .i qf, .bool df]) s48 s43 s49 s50 (pt C) s13) W := by
  intro W C HF
  rw [← HR_.out, HA_.out]
  dsimp only
  refine wpAnyH_ready (rs := [4, 9]) (by kernel_rfl) (by simp) ?_
  refine AllReadyH.cons rfl (fun K hK => ?_) ?_
  ·go_simp
   obtain ⟨hB, hC, hD, hne⟩ := HF.out
   refine Calls.mono (HI8.out _ _ _ W _ (HXR.out W hB).1 (HXR.out W hB).2.1 (HXR.out W hB).2.2 (fun b hb => hb)) ?_
   rintro e W2 ⟨pa, pn, pc, sa, sn, sc, R1, R2, rfl, o1, o2, h12, hR1, hR2, b2⟩
   have B2 := hB.trans (b2.mono hB.size)
   dsimp only
   refine hK.out _ _ (HS.out _ B2) (fun hHeld => ?_)
   clear hK K
   try simp only [Act.put, qz]
   refine tkh 5 ?_ rfl (by kernel_rfl) rfl (by assumption) ?_ ?_
   rotate_left
   ·(intro _ h; (try dsimp only at h); go_simp; try with_reducible rfl)
   try simp only [Act.put, qz]
   refine tkh 6 ?_ rfl (by kernel_rfl) rfl (by assumption) ?_ ?_
   rotate_left
   ·(intro _ h; (try dsimp only at h); go_simp; try with_reducible rfl)
   try simp only [Act.put, qz]
   refine tkh 7 ?_ rfl (by kernel_rfl) rfl (by assumption) ?_ ?_
   rotate_left
   ·(intro _ h; (try dsimp only at h); go_simp; try with_reducible rfl)
   try simp only [Act.put, qz]
   have L := L3_10 _ C pa pn pc sa sn sc ⟨B2, ⟨hC.1, hC.2.step b2⟩, trivial, trivial, FrO.made o1 o2 h12 hR1 hR2 hB.size (fun b hb => by have := hC.2.lt; omega)⟩
   rw [← HR_.out, HA_.out] at L
   exact L
  refine AllReadyH.cons rfl (fun K hK => ?_) AllReadyH.nil
  ·go_simp
   obtain ⟨hB, hC, hD, hne⟩ := HF.out
   refine hK.out _ _ (HS.out _ (Below.al2 hB _)) (fun hHeld => ?_)
   clear hK K
   try simp only [Act.put, qz]
   have L := L1_11 _ C W.heap.size ⟨Below.al2 hB _, ⟨hC.1, hC.2.alloc _⟩, ⟨hB.size, VarA.new _ _ _⟩, (fun e => by have := hC.2.lt; omega)⟩
   rw [← HR_.out, HA_.out] at L
   exact L
 have L1_01 : ∀ (W : World) (D : Nat), Hid ((Below w7.heap.size w7 W) ∧ (True) ∧ (V34 w7 W D) ∧ (True)) → R 7 #[true, true, true, true, false, false, false, false, false, true, false, false] (A (.agg #[.i pf, .i qf, .bool df]) s48 s43 s49 s50 s12 (pt D)) W := by
  intro W D HF
  rw [← HR_.out, HA_.out]
  dsimp only
  refine wpAnyH_ready (rs := [4, 8]) (by kernel_rfl) (by simp) ?_
  refine AllReadyH.cons rfl (fun K hK => ?_) ?_
  ·go_simp
   obtain ⟨hB, hC, hD, hne⟩ := HF.out
   refine Calls.mono (HI8.out _ _ _ W _ (HXR.out W hB).1 (HXR.out W hB).2.1 (HXR.out W hB).2.2 (fun b hb => hb)) ?_
   rintro e W2 ⟨pa, pn, pc, sa, sn, sc, R1, R2, rfl, o1, o2, h12, hR1, hR2, b2⟩
   have B2 := hB.trans (b2.mono hB.size)
   dsimp only
   refine hK.out _ _ (HS.out _ B2) (fun hHeld => ?_)
   clear hK K
   try simp only [Act.put, qz]
   refine tkh 5 ?_ rfl (by kernel_rfl) rfl (by assumption) ?_ ?_
   rotate_left
   ·(intro _ h; (try dsimp only at h); go_simp; try with_reducible rfl)
   try simp only [Act.put, qz]
   refine tkh 6 ?_ rfl (by kernel_rfl) rfl (by assumption) ?_ ?_
   rotate_left
   ·(intro _ h; (try dsimp only at h); go_simp; try with_reducible rfl)
   try simp only [Act.put, qz]
   refine tkh 7 ?_ rfl (by kernel_rfl) rfl (by assumption) ?_ ?_
   rotate_left
   ·(intro _ h; (try dsimp only at h); go_simp; try with_reducible rfl)
   try simp only [Act.put, qz]
   have L := L3_01 _ D pa pn pc sa sn sc ⟨B2, trivial, ⟨hD.1, hD.2.step b2⟩, trivial, FrO.made o1 o2 h12 hR1 hR2 hB.size (fun b hb => by have := hD.2.lt; omega)⟩
   rw [← HR_.out, HA_.out] at L
   exact L
  refine AllReadyH.cons rfl (fun K hK => ?_) AllReadyH.nil
  ·go_simp
   obtain ⟨hB, hC, hD, hne⟩ := HF.out
   refine hK.out _ _ (HS.out _ (Below.al2 hB _)) (fun hHeld => ?_)
   clear hK K
   try simp only [Act.put, qz]
   have L := L1_11 _ W.heap.size D ⟨Below.al2 hB _, ⟨hB.size, VarA.new _ _ _⟩, ⟨hD.1, hD.2.alloc _⟩, (fun e => by have := hD.2.lt; omega)⟩
   rw [← HR_.out, HA_.out] at L
   exact L
 have L1_00 : ∀ (W : World), Hid ((Below w7.heap.size w7 W) ∧ (True) ∧ (True) ∧ (True)) → R 8 #[true, true, true, true, false, false, false, false, false, false, false, false] (A (.agg #[.i pf, .i qf, .bool df]) s48 s43 s49 s50 s12 s13) W := by
  intro W HF
  rw [← HR_.out, HA_.out]
  dsimp only
  refine wpAnyH_ready (rs := [4, 8, 9]) (by kernel_rfl) (by simp) ?_
  refine AllReadyH.cons rfl (fun K hK => ?_) ?_
  ·go_simp
   obtain ⟨hB, hC, hD, hne⟩ := HF.out
   refine Calls.mono (HI8.out _ _ _ W _ (HXR.out W hB).1 (HXR.out W hB).2.1 (HXR.out W hB).2.2 (fun b hb => hb)) ?_
   rintro e W2 ⟨pa, pn, pc, sa, sn, sc, R1, R2, rfl, o1, o2, h12, hR1, hR2, b2⟩
   have B2 := hB.trans (b2.mono hB.size)
   dsimp only
   refine hK.out _ _ (HS.out _ B2) (fun hHeld => ?_)
   clear hK K
   try simp only [Act.put, qz]
   refine tkh 5 ?_ rfl (by kernel_rfl) rfl (by assumption) ?_ ?_
   rotate_left
   ·(intro _ h; (try dsimp only at h); go_simp; try with_reducible rfl)
   try simp only [Act.put, qz]
   refine tkh 6 ?_ rfl (by kernel_rfl) rfl (by assumption) ?_ ?_
   rotate_left
   ·(intro _ h; (try dsimp only at h); go_simp; try with_reducible rfl)
   try simp only [Act.put, qz]
   refine tkh 7 ?_ rfl (by kernel_rfl) rfl (by assumption) ?_ ?_
   rotate_left
   ·(intro _ h; (try dsimp only at h); go_simp; try with_reducible rfl)
   try simp only [Act.put, qz]
   have L := L3_00 _ pa pn pc sa sn sc ⟨B2, trivial, trivial, trivial, FrO.made o1 o2 h12 hR1 hR2 hB.size (fun b hb => hb.elim)⟩
   rw [← HR_.out, HA_.out] at L
   exact L
  refine AllReadyH.cons rfl (fun K hK => ?_) ?_
  ·go_simp
   obtain ⟨hB, hC, hD, hne⟩ := HF.out
   refine hK.out _ _ (HS.out _ (Below.al2 hB _)) (fun hHeld => ?_)
   clear hK K
   try simp only [Act.put, qz]
   have L := L1_10 _ W.heap.size ⟨Below.al2 hB _, ⟨hB.size, VarA.new _ _ _⟩, trivial, trivial⟩
   rw [← HR_.out, HA_.out] at L
   exact L
  refine AllReadyH.cons rfl (fun K hK => ?_) AllReadyH.nil
  ·go_simp
   obtain ⟨hB, hC, hD, hne⟩ := HF.out
   refine hK.out _ _ (HS.out _ (Below.al2 hB _)) (fun hHeld => ?_)
   clear hK K
   try simp only [Act.put, qz]
   have L := L1_01 _ W.heap.size ⟨Below.al2 hB _, trivial, ⟨hB.size, VarA.new _ _ _⟩, trivial⟩
   rw [← HR_.out, HA_.out] at L
   exact L
 have L0_11 : ∀ (W : World) (C : Nat) (D : Nat), Hid ((Below w7.heap.size w7 W) ∧ (V25 w7 W C) ∧ (V34 w7 W D) ∧ (C ≠ D)) → R 7 #[true, true, true, false, false, false, false, false, true, true, false, false] (A s47 s48 s43 s49 s50 (pt C) (pt D)) W := by
  intro W C D HF
  rw [← HR_.out, HA_.out]
  dsimp only
  refine doH 3 (by kernel_rfl) rfl fun K hK => ?_
  ·go_simp
   obtain ⟨hB, hC, hD, hne⟩ := HF.out
   refine Calls.mono (HF_.out _) ?_
   rintro e W2 ⟨rfl, b2⟩
   have B2 := hB.trans (b2.mono hB.size)
   dsimp only
   refine hK.out _ _ (HS.out _ B2) (fun hHeld => ?_)
   clear hK K
   try simp only [Act.put, qz]
   have L := L1_11 _ C D ⟨B2, ⟨hC.1, hC.2.step b2⟩, ⟨hD.1, hD.2.step b2⟩, hne⟩
   rw [← HR_.out, HA_.out] at L
   exact L
 have L0_10 : ∀ (W : World) (C : Nat), Hid ((Below w7.heap.size w7 W) ∧ (V25 w7 W C) ∧ (True) ∧ (True)) → R 8 #[true, true, true, false, false, false, false, false, true, false, false, false] (A s47 s48 s43 s49 s50 (pt C) s13) W := by
  intro W C HF
  rw [← HR_.out, HA_.out]
  dsimp only
  refine wpAnyH_ready (rs := [3, 9]) (by kernel_rfl) (by simp) ?_
  refine AllReadyH.cons rfl (fun K hK => ?_) ?_
  ·go_simp
   obtain ⟨hB, hC, hD, hne⟩ := HF.out
   refine Calls.mono (HF_.out _) ?_
   rintro e W2 ⟨rfl, b2⟩
   have B2 := hB.trans (b2.mono hB.size)
   dsimp only
   refine hK.out _ _ (HS.out _ B2) (fun hHeld => ?_)
   clear hK K
   try simp only [Act.put, qz]
   have L := L1_10 _ C ⟨B2, ⟨hC.1, hC.2.step b2⟩, trivial, trivial⟩
   rw [← HR_.out, HA_.out] at L
   exact L
  refine AllReadyH.cons rfl (fun K hK => ?_) AllReadyH.nil
  ·go_simp
   obtain ⟨hB, hC, hD, hne⟩ := HF.out
   refine hK.out _ _ (HS.out _ (Below.al2 hB _)) (fun hHeld => ?_)
   clear hK K
   try simp only [Act.put, qz]
   have L := L0_11 _ C W.heap.size ⟨Below.al2 hB _, ⟨hC.1, hC.2.alloc _⟩, ⟨hB.size, VarA.new _ _ _⟩, (fun e => by have := hC.2.lt; omega)⟩
   rw [← HR_.out, HA_.out] at L
   exact L
 have L0_01 : ∀ (W : World) (D : Nat), Hid ((Below w7.heap.size w7 W) ∧ (True) ∧ (V34 w7 W D) ∧ (True)) → R 8 #[true, true, true, false, false, false, false, false, false, true, false, false] (A s47 s48 s43 s49 s50 s12 (pt D)) W := by
  intro W D HF
  rw [← HR_.out, HA_.out]
  dsimp only
  refine wpAnyH_ready (rs := [3, 8]) (by kernel_rfl) (by simp) ?_
  refine AllReadyH.cons rfl (fun K hK => ?_) ?_
  ·go_simp
   obtain ⟨hB, hC, hD, hne⟩ := HF.out
   refine Calls.mono (HF_.out _) ?_
   rintro e W2 ⟨rfl, b2⟩
   have B2 := hB.trans (b2.mono hB.size)
   dsimp only
   refine hK.out _ _ (HS.out _ B2) (fun hHeld => ?_)
   clear hK K
   try simp only [Act.put, qz]
   have L := L1_01 _ D ⟨B2, trivial, ⟨hD.1, hD.2.step b2⟩, trivial⟩
   rw [← HR_.out, HA_.out] at L
   exact L
  refine AllReadyH.cons rfl (fun K hK => ?_) AllReadyH.nil
  ·go_simp
   obtain ⟨hB, hC, hD, hne⟩ := HF.out
   refine hK.out _ _ (HS.out _ (Below.al2 hB _)) (fun hHeld => ?_)
   clear hK K
   try simp only [Act.put, qz]
   have L := L0_11 _ W.heap.size D ⟨Below.al2 hB _, ⟨hB.size, VarA.new _ _ _⟩, ⟨hD.1, hD.2.alloc _⟩, (fun e => by have := hD.2.lt; omega)⟩
   rw [← HR_.out, HA_.out] at L
   exact L
 have L0_00 : ∀ (W : World), Hid ((Below w7.heap.size w7 W) ∧ (True) ∧ (True) ∧ (True)) → R 9 #[true, true, true, false, false, false, false, false, false, false, false, false] (A s47 s48 s43 s49 s50 s12 s13) W := by
  intro W HF
  rw [← HR_.out, HA_.out]
  dsimp only
  refine wpAnyH_ready (rs := [3, 8, 9]) (by kernel_rfl) (by simp) ?_
  refine AllReadyH.cons rfl (fun K hK => ?_) ?_
  ·go_simp
   obtain ⟨hB, hC, hD, hne⟩ := HF.out
   refine Calls.mono (HF_.out _) ?_
   rintro e W2 ⟨rfl, b2⟩
   have B2 := hB.trans (b2.mono hB.size)
   dsimp only
   refine hK.out _ _ (HS.out _ B2) (fun hHeld => ?_)
   clear hK K
   try simp only [Act.put, qz]
   have L := L1_00 _ ⟨B2, trivial, trivial, trivial⟩
   rw [← HR_.out, HA_.out] at L
   exact L
  refine AllReadyH.cons rfl (fun K hK => ?_) ?_
  ·go_simp
   obtain ⟨hB, hC, hD, hne⟩ := HF.out
   refine hK.out _ _ (HS.out _ (Below.al2 hB _)) (fun hHeld => ?_)
   clear hK K
   try simp only [Act.put, qz]
   have L := L0_10 _ W.heap.size ⟨Below.al2 hB _, ⟨hB.size, VarA.new _ _ _⟩, trivial, trivial⟩
   rw [← HR_.out, HA_.out] at L
   exact L
  refine AllReadyH.cons rfl (fun K hK => ?_) AllReadyH.nil
  ·go_simp
   obtain ⟨hB, hC, hD, hne⟩ := HF.out
   refine hK.out _ _ (HS.out _ (Below.al2 hB _)) (fun hHeld => ?_)
   clear hK K
   try simp only [Act.put, qz]
   have L := L0_01 _ W.heap.size ⟨Below.al2 hB _, trivial, ⟨hB.size, VarA.new _ _ _⟩, trivial⟩
   rw [← HR_.out, HA_.out] at L
   exact L
 exact L0_00 W0 ⟨HW0.out, trivial, trivial, trivial⟩
end Go.Proofs.YtcicadfhfojdpaaGreat
