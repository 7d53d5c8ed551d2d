/- The drawn region 8 of FnExactDo; no condition. -/
import Derived.Test.YtcicadfhfojdpaaGreatQA01
import Derived.Test.YtcicadfhfojdpaaGreatQA07
namespace Go.Proofs.YtcicadfhfojdpaaGreat
open Go.RowKit
set_option linter.unusedVariables false
set_option linter.unusedSimpArgs false
set_option maxRecDepth 100000

set_option maxHeartbeats 8000000 in
theorem reg8 {Q : Exit → Act → World → Prop} {w w3 : World} {xa ya za : Option Addr} {xn xc yn yc zn zc : Nat} {l rl : List Nd} {kd p q p2 q2 ov pf qf rcode rh0 rh1 rval : Int} {d d2 df rh2 : Bool} {nm asn : List Int} {rlist : List En}
  (HT : Hid (∀ W, Below w.heap.size w W → Calls Tryz.prog 16 #[.agg #[.slice xa xn xc]] W fun e w' => ∃ a n c, e = .returned (.agg #[.slice a n c]) ∧ OwV w' (fun b => W.heap.size ≤ b ∧ b < w'.heap.size) (.slice a n c) (ndsDt l) ∧ Below W.heap.size W w'))
  (HO : Hid (∀ W, Below w.heap.size w W → Calls Tryz.prog 17 #[opV ⟨kd, (p, q, d), nm, (p2, q2, d2), asn, ov⟩ (.slice ya yn yc) (.slice za zn zc)] W fun e w' => ∃ a n c a2 n2 c2 M, e = .returned (opV ⟨kd, (p, q, d), nm, (p2, q2, d2), asn, ov⟩ (.slice a n c) (.slice a2 n2 c2)) ∧ (W.heap.size ≤ M ∧ M ≤ w'.heap.size) ∧ OwV w' (fun b => W.heap.size ≤ b ∧ b < M) (.slice a n c) (.bytes nm) ∧ OwV w' (fun b => M ≤ b ∧ b < w'.heap.size) (.slice a2 n2 c2) (.bytes asn) ∧ Below W.heap.size W w'))
  (HF_ : Hid (∀ W, Calls Tryz.prog 18 #[Hd.v (pf, qf, df)] W fun e w' => e = .returned (Hd.v (pf, qf, df)) ∧ Below W.heap.size W w'))
  (HS8 : Hid (∀ x y z W S, RdV W S x (ndsDt l) → RdV W S y (.bytes nm) → RdV W S z (.bytes asn) → (∀ b, S b → b < W.heap.size) → Calls Tryz.prog 15 #[.agg #[x], opV ⟨kd, (p, q, d), nm, (p2, q2, d2), asn, ov⟩ y z, Hd.v (pf, qf, df)] W (DoS W (rl, ⟨rcode, (rh0, rh1, rh2), rval, rlist⟩))))
  (HL3 : Hid (LV w w3 #[.slice xa xn xc] #[.i kd, .i p, .i q, .bool d, .slice ya yn yc, .i p2, .i q2, .bool d2, .slice za zn zc, .i ov] #[.i pf, .i qf, .bool df]))
  {s0 s1 s2 s6 s7 s8 s9 s10 s11 s12 s13 s14 s15 s16 s17 s18 s19 s20 s21 s22 s23 s24 s25 s26 s27 s28 s29 s30 s31 s32 s33 s34 s35 s36 s37 s38 s39 s40 s41 s42 s43 s44 s45 s46 s47 s48 s49 s50 s51 s52 s53 s54 s55 s56 s57 s58 s59 s60 s61 s62 s63 s64 s65 s66 s67 s68 s69 s70 s71 s72 s73 s74 s75 s76 s77 s78 s79 s80 s81 s82 s83 s84 s85 s86 s87 s88 s89 s90 s91 s92 s93 s94 s95 s96 s97 s98 s99 s100 s101 s102 s103 s104 s105 s106 s107 s108 s109 s110 s111 s112 s113 s114 s115 s116 s117 s118 s119 s120 s121 s122 s123 s124 s125 s126 s127 s128 s129 s130 s131 s132 s133 s134 s135 s136 s137 s138 s139 s140 s141 s142 : Value} {ds : List Deferred}
  (hQ : ∀ (C D : Nat) ma mn mc ba bn bc ga gn gc ta tn tc ra rn rc wz, Hid (Below w3.heap.size w3 wz ∧ w3.heap.size ≤ C ∧ VarA wz C 25 #[.slice ta tn tc] ∧ w3.heap.size ≤ D ∧ VarA wz D 34 #[.i rcode, .i rh0, .i rh1, .bool rh2, .i rval, .slice ra rn rc] ∧ FrV w3 wz (fun b => b = C ∨ b = D) (.slice ta tn tc) (ndsDt rl) ∧ FrV w3 wz (fun b => b = C ∨ b = D) (.slice ra rn rc) (ensDt rlist)) → Q .normal ⟨#[s0, s1, s2, .pointer (some ⟨w.heap.size, 0, none⟩), .pointer (some ⟨w.heap.size + 1, 0, none⟩), .pointer (some ⟨w.heap.size + 2, 0, none⟩), s6, s7, .pointer (some ⟨C, 0, none⟩), .pointer (some ⟨D, 0, none⟩), s10, s11, s12, s13, s14, s15, s16, s17, s18, s19, s20, s21, s22, s23, s24, s25, s26, s27, s28, .tuple #[.agg #[.slice ta tn tc], .agg #[.i rcode, .i rh0, .i rh1, .bool rh2, .i rval, .slice ra rn rc]], .agg #[.slice xa xn xc], .agg #[.slice ma mn mc], .agg #[.i kd, .i p, .i q, .bool d, .slice ya yn yc, .i p2, .i q2, .bool d2, .slice za zn zc, .i ov], .agg #[.i kd, .i p, .i q, .bool d, .slice ba bn bc, .i p2, .i q2, .bool d2, .slice ga gn gc, .i ov], .agg #[.i pf, .i qf, .bool df], .agg #[.i pf, .i qf, .bool df], .tuple #[.agg #[.slice ta tn tc], .agg #[.i rcode, .i rh0, .i rh1, .bool rh2, .i rval, .slice ra rn rc]], .agg #[.slice ta tn tc], .agg #[.i rcode, .i rh0, .i rh1, .bool rh2, .i rval, .slice ra rn rc], s39, s40, s41, s42, s43, s44, s45, s46, s47, s48, s49, s50, s51, s52, s53, s54, s55, s56, s57, s58, s59, s60, s61, s62, s63, s64, s65, s66, s67, s68, s69, s70, s71, s72, s73, s74, s75, s76, s77, s78, s79, s80, s81, s82, s83, s84, s85, s86, s87, s88, s89, s90, s91, s92, s93, s94, s95, s96, s97, s98, s99, s100, s101, s102, s103, s104, s105, s106, s107, s108, s109, s110, s111, s112, s113, s114, s115, s116, s117, s118, s119, s120, s121, s122, s123, s124, s125, s126, s127, s128, s129, s130, s131, s132, s133, s134, s135, s136, s137, s138, s139, s140, s141, s142], ds⟩ wz) :
  (Code.region 8 #[{ dst := some 30, op := Go.Op.load 44 (Go.Operand.tmp 3), type := 44, pos := "exact.go:3489", after := #[], guard := none }, { dst := some 31, op := Go.Op.call { callee := Go.Callee.value (Go.Operand.func 16), args := #[Go.Operand.tmp 30], argTypes := #[44] }, type := 25, pos := "exact.go:3489", after := #[{ on := 0, ground := Go.Ground.data }], guard := none }, { dst := some 32, op := Go.Op.load 47 (Go.Operand.tmp 4), type := 47, pos := "exact.go:3489", after := #[], guard := none }, { dst := some 33, op := Go.Op.call { callee := Go.Callee.value (Go.Operand.func 17), args := #[Go.Operand.tmp 32], argTypes := #[47] }, type := 29, pos := "exact.go:3489", after := #[{ on := 2, ground := Go.Ground.data }, { on := 1, ground := Go.Ground.chain }], guard := none }, { dst := some 34, op := Go.Op.load 45 (Go.Operand.tmp 5), type := 45, pos := "exact.go:3489", after := #[], guard := none }, { dst := some 35, op := Go.Op.call { callee := Go.Callee.value (Go.Operand.func 18), args := #[Go.Operand.tmp 34], argTypes := #[45] }, type := 27, pos := "exact.go:3489", after := #[{ on := 4, ground := Go.Ground.data }, { on := 3, ground := Go.Ground.chain }], guard := none }, { dst := some 36, op := Go.Op.call { callee := Go.Callee.value (Go.Operand.func 15), args := #[Go.Operand.tmp 31, Go.Operand.tmp 33, Go.Operand.tmp 35], argTypes := #[25, 29, 27] }, type := 35, pos := "exact.go:3489", after := #[{ on := 1, ground := Go.Ground.data }, { on := 3, ground := Go.Ground.data }, { on := 5, ground := Go.Ground.data }, { on := 5, ground := Go.Ground.chain }], guard := none }, { dst := some 29, op := Go.Op.move (Go.Operand.tmp 36), type := 35, pos := "exact.go:3489", after := #[{ on := 6, ground := Go.Ground.data }], guard := none }, { dst := some 37, op := Go.Op.extract (Go.Operand.tmp 29) 0, type := 25, pos := "exact.go:3489", after := #[{ on := 7, ground := Go.Ground.data }], guard := none }, { dst := some 38, op := Go.Op.extract (Go.Operand.tmp 29) 1, type := 34, pos := "exact.go:3489", after := #[{ on := 7, ground := Go.Ground.data }, { on := 12, ground := Go.Ground.gcOnly Go.Departure.lateStores }], guard := none }, { dst := some 8, op := Go.Op.alloc 25, type := 0, pos := "exact.go:3489", after := #[], guard := none }, { dst := some 9, op := Go.Op.alloc 34, type := 0, pos := "exact.go:3489", after := #[], guard := none }, { dst := none, op := Go.Op.store 25 (Go.Operand.tmp 8) (Go.Operand.tmp 37), type := 0, pos := "exact.go:3489", after := #[{ on := 10, ground := Go.Ground.data }, { on := 8, ground := Go.Ground.data }, { on := 6, ground := Go.Ground.chain }, { on := 0, ground := Go.Ground.phase }, { on := 1, ground := Go.Ground.phase }, { on := 2, ground := Go.Ground.phase }, { on := 3, ground := Go.Ground.phase }, { on := 4, ground := Go.Ground.phase }, { on := 5, ground := Go.Ground.phase }, { on := 6, ground := Go.Ground.phase }, { on := 7, ground := Go.Ground.phase }, { on := 8, ground := Go.Ground.phase }, { on := 9, ground := Go.Ground.textOnly Go.Departure.lateStores }, { on := 10, ground := Go.Ground.phase }, { on := 11, ground := Go.Ground.phase }], guard := none }, { dst := none, op := Go.Op.store 34 (Go.Operand.tmp 9) (Go.Operand.tmp 38), type := 0, pos := "exact.go:3489", after := #[{ on := 11, ground := Go.Ground.data }, { on := 9, ground := Go.Ground.data }, { on := 12, ground := Go.Ground.chain }, { on := 0, ground := Go.Ground.phase }, { on := 1, ground := Go.Ground.phase }, { on := 2, ground := Go.Ground.phase }, { on := 3, ground := Go.Ground.phase }, { on := 4, ground := Go.Ground.phase }, { on := 5, ground := Go.Ground.phase }, { on := 6, ground := Go.Ground.phase }, { on := 7, ground := Go.Ground.phase }, { on := 8, ground := Go.Ground.phase }, { on := 9, ground := Go.Ground.phase }, { on := 10, ground := Go.Ground.phase }, { on := 11, ground := Go.Ground.phase }, { on := 12, ground := Go.Ground.phase }], guard := none }] true).wp Tryz.prog Q ⟨#[s0, s1, s2, .pointer (some ⟨w.heap.size, 0, none⟩), .pointer (some ⟨w.heap.size + 1, 0, none⟩), .pointer (some ⟨w.heap.size + 2, 0, none⟩), s6, s7, s8, s9, s10, s11, s12, s13, s14, s15, s16, s17, s18, s19, s20, s21, s22, s23, s24, s25, s26, s27, s28, s29, s30, s31, s32, s33, s34, s35, s36, s37, s38, s39, s40, s41, s42, s43, s44, s45, s46, s47, s48, s49, s50, s51, s52, s53, s54, s55, s56, s57, s58, s59, s60, s61, s62, s63, s64, s65, s66, s67, s68, s69, s70, s71, s72, s73, s74, s75, s76, s77, s78, s79, s80, s81, s82, s83, s84, s85, s86, s87, s88, s89, s90, s91, s92, s93, s94, s95, s96, s97, s98, s99, s100, s101, s102, s103, s104, s105, s106, s107, s108, s109, s110, s111, s112, s113, s114, s115, s116, s117, s118, s119, s120, s121, s122, s123, s124, s125, s126, s127, s128, s129, s130, s131, s132, s133, s134, s135, s136, s137, s138, s139, s140, s141, s142], ds⟩ w3 := by
 have HBW : Hid (Below w.heap.size w w3) := HL3.out.B
 have HS : Hid (∀ W : World, Below w3.heap.size w3 W → W.cell? ⟨w.heap.size, 0, none⟩ = some (.slice xa xn xc) ∧ W.cell? ⟨w.heap.size + 1, 0, none⟩ = some (.i kd) ∧ W.cell? ⟨w.heap.size + 1, 1, none⟩ = some (.i p) ∧ W.cell? ⟨w.heap.size + 1, 2, none⟩ = some (.i q) ∧ W.cell? ⟨w.heap.size + 1, 3, none⟩ = some (.bool d) ∧ W.cell? ⟨w.heap.size + 1, 4, none⟩ = some (.slice ya yn yc) ∧ W.cell? ⟨w.heap.size + 1, 5, none⟩ = some (.i p2) ∧ W.cell? ⟨w.heap.size + 1, 6, none⟩ = some (.i q2) ∧ W.cell? ⟨w.heap.size + 1, 7, none⟩ = some (.bool d2) ∧ W.cell? ⟨w.heap.size + 1, 8, none⟩ = some (.slice za zn zc) ∧ W.cell? ⟨w.heap.size + 1, 9, none⟩ = some (.i ov) ∧ W.cell? ⟨w.heap.size + 2, 0, none⟩ = some (.i pf) ∧ W.cell? ⟨w.heap.size + 2, 1, none⟩ = some (.i qf) ∧ W.cell? ⟨w.heap.size + 2, 2, none⟩ = some (.bool df)) := fun W hW => ⟨(HL3.out.vT.step hW).c 0 rfl, (HL3.out.vO.step hW).c 0 rfl, (HL3.out.vO.step hW).c 1 rfl, (HL3.out.vO.step hW).c 2 rfl, (HL3.out.vO.step hW).c 3 rfl, (HL3.out.vO.step hW).c 4 rfl, (HL3.out.vO.step hW).c 5 rfl, (HL3.out.vO.step hW).c 6 rfl, (HL3.out.vO.step hW).c 7 rfl, (HL3.out.vO.step hW).c 8 rfl, (HL3.out.vO.step hW).c 9 rfl, (HL3.out.vF.step hW).c 0 rfl, (HL3.out.vF.step hW).c 1 rfl, (HL3.out.vF.step hW).c 2 rfl⟩
 have HQQ : Hid _ := hQ
 clear hQ
 refine wp_region_noPanic ?_
 refine wp_region_held_drew (S := fun W => W.cell? ⟨w.heap.size, 0, none⟩ = some (.slice xa xn xc) ∧ W.cell? ⟨w.heap.size + 1, 0, none⟩ = some (.i kd) ∧ W.cell? ⟨w.heap.size + 1, 1, none⟩ = some (.i p) ∧ W.cell? ⟨w.heap.size + 1, 2, none⟩ = some (.i q) ∧ W.cell? ⟨w.heap.size + 1, 3, none⟩ = some (.bool d) ∧ W.cell? ⟨w.heap.size + 1, 4, none⟩ = some (.slice ya yn yc) ∧ W.cell? ⟨w.heap.size + 1, 5, none⟩ = some (.i p2) ∧ W.cell? ⟨w.heap.size + 1, 6, none⟩ = some (.i q2) ∧ W.cell? ⟨w.heap.size + 1, 7, none⟩ = some (.bool d2) ∧ W.cell? ⟨w.heap.size + 1, 8, none⟩ = some (.slice za zn zc) ∧ W.cell? ⟨w.heap.size + 1, 9, none⟩ = some (.i ov) ∧ W.cell? ⟨w.heap.size + 2, 0, none⟩ = some (.i pf) ∧ W.cell? ⟨w.heap.size + 2, 1, none⟩ = some (.i qf) ∧ W.cell? ⟨w.heap.size + 2, 2, none⟩ = some (.bool df)) (by kernel_rfl) (HS.out _ (Below.drew (Below.refl w3.heap.size w3))) (fun hHeld => ?_)
 refine tkh 0 ?_ rfl (by kernel_rfl) rfl (by assumption) ?_ ?_
 rotate_left
 ·(intro _ h; (try dsimp only at h); go_simp; try with_reducible rfl)
 try simp only [Act.put, qz]
 refine tkh 2 ?_ rfl (by kernel_rfl) rfl (by assumption) ?_ ?_
 rotate_left
 ·(intro _ h; (try dsimp only at h); go_simp; try with_reducible rfl)
 try simp only [Act.put, qz]
 refine tkh 4 ?_ rfl (by kernel_rfl) rfl (by assumption) ?_ ?_
 rotate_left
 ·(intro _ h; (try dsimp only at h); go_simp; try with_reducible rfl)
 try simp only [Act.put, qz]
 have HW0 : Hid (Below w3.heap.size w3 w3.drew) := Below.drew (Below.refl w3.heap.size w3)
 generalize w3.drew = W0 at HW0 hHeld ⊢
 clear hHeld
 generalize hR : wpAnyH Tryz.prog Region.Mode.any _ _ _ = R
 generalize ha0 : Act.mk _ _ = a0
 obtain ⟨A, hA⟩ : ∃ A : Value → Value → Value → Value → Value → Value → Value → Value → Value → Act, A = fun v0 v1 v2 v3 v4 v5 v6 v7 v8 => (((((((((a0.put (some 31) v0).put (some 33) v1).put (some 35) v2).put (some 36) v3).put (some 29) v4).put (some 37) v5).put (some 38) v6).put (some 8) v7).put (some 9) v8) := ⟨_, rfl⟩
 rw [← ha0] at hA
 simp only [Act.put, qz] at hA
 have ha : a0 = A s31 s33 s35 s36 s29 s37 s38 s8 s9 := by rw [hA, ← ha0]
 rw [ha]
 have HA_ : Hid _ := hA
 have HR_ : Hid _ := hR
 clear hA hR ha ha0
 have L5_11 : ∀ (W : World) (C : Nat) (D : Nat) ma mn mc ba bn bc ga gn gc ta tn tc ra rn rc, Hid ((Below w3.heap.size w3 W) ∧ (V25 w3 W C) ∧ (V34 w3 W D) ∧ (C ≠ D) ∧ (FrV w3 W (fun b => b = C ∨ b = D) (.slice ta tn tc) (ndsDt rl)) ∧ (FrV w3 W (fun b => b = C ∨ b = D) (.slice ra rn rc) (ensDt rlist))) → R 2 #[true, true, true, true, true, true, true, true, true, true, true, true, false, false] (A (.agg #[.slice ma mn mc]) (.agg #[.i kd, .i p, .i q, .bool d, .slice ba bn bc, .i p2, .i q2, .bool d2, .slice ga gn gc, .i ov]) (.agg #[.i pf, .i qf, .bool df]) (.tuple #[.agg #[.slice ta tn tc], .agg #[.i rcode, .i rh0, .i rh1, .bool rh2, .i rval, .slice ra rn rc]]) (.tuple #[.agg #[.slice ta tn tc], .agg #[.i rcode, .i rh0, .i rh1, .bool rh2, .i rval, .slice ra rn rc]]) (.agg #[.slice ta tn tc]) (.agg #[.i rcode, .i rh0, .i rh1, .bool rh2, .i rval, .slice ra rn rc]) (pt C) (pt D)) W := by
  intro W C D ma mn mc ba bn bc ga gn gc ta tn tc ra rn rc HF
  rw [← HR_.out, HA_.out]
  dsimp only
  obtain ⟨hB, hC, hD, hne, f0, f1⟩ := HF.out
  refine doH 12 (by kernel_rfl) rfl fun K hK => ?_
  refine step_stF hC.2 (by rfl) (by rfl) (by kernel_rfl) rfl (of_decide_eq_true rfl) rfl ?_
  intro wy vY tY
  have BY := turn1 hB tY hC.1
  refine hK.out _ _ (HS.out _ BY) (fun hHeld => ?_)
  clear hK K
  try simp only [Act.put, qz]
  refine doH 13 (by kernel_rfl) rfl fun K hK => ?_
  refine step_stF (hD.2.turn tY (fun e => hne e.symm)) (by rfl) (by rfl) (by kernel_rfl) rfl (of_decide_eq_true rfl) rfl ?_
  intro wz vZ tZ
  have BZ := turn1 BY tZ hD.1
  refine hK.out _ _ (HS.out _ BZ) (fun hHeld => ?_)
  clear hK K hHeld
  try simp only [Act.put, qz]
  refine wpAnyH_done (by kernel_rfl) (NoPanic.normal ?_) _
  have vW := vY.turn tZ hne
  have hlC := vW.lt
  have hlD := vZ.lt
  have HLF : Hid _ := (⟨BZ, hC.1, vW, hD.1, vZ, (f0.turn tY (Or.inl rfl)).turn tZ (Or.inr rfl), (f1.turn tY (Or.inl rfl)).turn tZ (Or.inr rfl)⟩ : Below w3.heap.size w3 wz ∧ w3.heap.size ≤ C ∧ VarA wz C 25 #[.slice ta tn tc] ∧ w3.heap.size ≤ D ∧ VarA wz D 34 #[.i rcode, .i rh0, .i rh1, .bool rh2, .i rval, .slice ra rn rc] ∧ FrV w3 wz (fun b => b = C ∨ b = D) (.slice ta tn tc) (ndsDt rl) ∧ FrV w3 wz (fun b => b = C ∨ b = D) (.slice ra rn rc) (ensDt rlist))
  clear hB hC hD hne BY BZ vY vZ vW tY tZ HF f0 f1 hlC hlD
  exact HQQ.out C D ma mn mc ba bn bc ga gn gc ta tn tc ra rn rc wz HLF
 have L5_10 : ∀ (W : World) (C : Nat) ma mn mc ba bn bc ga gn gc ta tn tc ra rn rc, Hid ((Below w3.heap.size w3 W) ∧ (V25 w3 W C) ∧ (True) ∧ (True) ∧ (FrV w3 W (fun b => b = C) (.slice ta tn tc) (ndsDt rl)) ∧ (FrV w3 W (fun b => b = C) (.slice ra rn rc) (ensDt rlist))) → R 3 #[true, true, true, true, true, true, true, true, true, true, true, false, false, false] (A (.agg #[.slice ma mn mc]) (.agg #[.i kd, .i p, .i q, .bool d, .slice ba bn bc, .i p2, .i q2, .bool d2, .slice ga gn gc, .i ov]) (.agg #[.i pf, .i qf, .bool df]) (.tuple #[.agg #[.slice ta tn tc], .agg #[.i rcode, .i rh0, .i rh1, .bool rh2, .i rval, .slice ra rn rc]]) (.tuple #[.agg #[.slice ta tn tc], .agg #[.i rcode, .i rh0, .i rh1, .bool rh2, .i rval, .slice ra rn rc]]) (.agg #[.slice ta tn tc]) (.agg #[.i rcode, .i rh0, .i rh1, .bool rh2, .i rval, .slice ra rn rc]) (pt C) s9) W := by
  intro W C ma mn mc ba bn bc ga gn gc ta tn tc ra rn rc HF
  rw [← HR_.out, HA_.out]
  dsimp only
  refine doH 11 (by kernel_rfl) rfl fun K hK => ?_
  ·go_simp
   obtain ⟨hB, hC, hD, hne, f0, f1⟩ := HF.out
   refine hK.out _ _ (HS.out _ (Below.al2 hB _)) (fun hHeld => ?_)
   clear hK K
   try simp only [Act.put, qz]
   have L := L5_11 _ C W.heap.size ma mn mc ba bn bc ga gn gc ta tn tc ra rn rc ⟨Below.al2 hB _, ⟨hC.1, hC.2.alloc _⟩, ⟨hB.size, VarA.new _ _ _⟩, (fun e => by have := hC.2.lt; omega), f0.new _ (fun b hb => by omega), f1.new _ (fun b hb => by omega)⟩
   rw [← HR_.out, HA_.out] at L
   exact L
 have L5_01 : ∀ (W : World) (D : Nat) ma mn mc ba bn bc ga gn gc ta tn tc ra rn rc, Hid ((Below w3.heap.size w3 W) ∧ (True) ∧ (V34 w3 W D) ∧ (True) ∧ (FrV w3 W (fun b => b = D) (.slice ta tn tc) (ndsDt rl)) ∧ (FrV w3 W (fun b => b = D) (.slice ra rn rc) (ensDt rlist))) → R 3 #[true, true, true, true, true, true, true, true, true, true, false, true, false, false] (A (.agg #[.slice ma mn mc]) (.agg #[.i kd, .i p, .i q, .bool d, .slice ba bn bc, .i p2, .i q2, .bool d2, .slice ga gn gc, .i ov]) (.agg #[.i pf, .i qf, .bool df]) (.tuple #[.agg #[.slice ta tn tc], .agg #[.i rcode, .i rh0, .i rh1, .bool rh2, .i rval, .slice ra rn rc]]) (.tuple #[.agg #[.slice ta tn tc], .agg #[.i rcode, .i rh0, .i rh1, .bool rh2, .i rval, .slice ra rn rc]]) (.agg #[.slice ta tn tc]) (.agg #[.i rcode, .i rh0, .i rh1, .bool rh2, .i rval, .slice ra rn rc]) s8 (pt D)) W := by
  intro W D ma mn mc ba bn bc ga gn gc ta tn tc ra rn rc HF
  rw [← HR_.out, HA_.out]
  dsimp only
  refine doH 10 (by kernel_rfl) rfl fun K hK => ?_
  ·go_simp
   obtain ⟨hB, hC, hD, hne, f0, f1⟩ := HF.out
   refine hK.out _ _ (HS.out _ (Below.al2 hB _)) (fun hHeld => ?_)
   clear hK K
   try simp only [Act.put, qz]
   have L := L5_11 _ W.heap.size D ma mn mc ba bn bc ga gn gc ta tn tc ra rn rc ⟨Below.al2 hB _, ⟨hB.size, VarA.new _ _ _⟩, ⟨hD.1, hD.2.alloc _⟩, (fun e => by have := hD.2.lt; omega), f0.new _ (fun b hb => by omega), f1.new _ (fun b hb => by omega)⟩
   rw [← HR_.out, HA_.out] at L
   exact L
 have L5_00 : ∀ (W : World) ma mn mc ba bn bc ga gn gc ta tn tc ra rn rc, Hid ((Below w3.heap.size w3 W) ∧ (True) ∧ (True) ∧ (True) ∧ (FrV w3 W (fun _ => False) (.slice ta tn tc) (ndsDt rl)) ∧ (FrV w3 W (fun _ => False) (.slice ra rn rc) (ensDt rlist))) → R 4 #[true, true, true, true, true, true, true, true, true, true, false, false, false, false] (A (.agg #[.slice ma mn mc]) (.agg #[.i kd, .i p, .i q, .bool d, .slice ba bn bc, .i p2, .i q2, .bool d2, .slice ga gn gc, .i ov]) (.agg #[.i pf, .i qf, .bool df]) (.tuple #[.agg #[.slice ta tn tc], .agg #[.i rcode, .i rh0, .i rh1, .bool rh2, .i rval, .slice ra rn rc]]) (.tuple #[.agg #[.slice ta tn tc], .agg #[.i rcode, .i rh0, .i rh1, .bool rh2, .i rval, .slice ra rn rc]]) (.agg #[.slice ta tn tc]) (.agg #[.i rcode, .i rh0, .i rh1, .bool rh2, .i rval, .slice ra rn rc]) s8 s9) W := by
  intro W ma mn mc ba bn bc ga gn gc ta tn tc ra rn rc HF
  rw [← HR_.out, HA_.out]
  dsimp only
  refine wpAnyH_ready (rs := [10, 11]) (by kernel_rfl) (by simp) ?_
  refine AllReadyH.cons rfl (fun K hK => ?_) ?_
  ·go_simp
   obtain ⟨hB, hC, hD, hne, f0, f1⟩ := HF.out
   refine hK.out _ _ (HS.out _ (Below.al2 hB _)) (fun hHeld => ?_)
   clear hK K
   try simp only [Act.put, qz]
   have L := L5_10 _ W.heap.size ma mn mc ba bn bc ga gn gc ta tn tc ra rn rc ⟨Below.al2 hB _, ⟨hB.size, VarA.new _ _ _⟩, trivial, trivial, f0.new _ (fun b hb => by omega), f1.new _ (fun b hb => by omega)⟩
   rw [← HR_.out, HA_.out] at L
   exact L
  refine AllReadyH.cons rfl (fun K hK => ?_) AllReadyH.nil
  ·go_simp
   obtain ⟨hB, hC, hD, hne, f0, f1⟩ := HF.out
   refine hK.out _ _ (HS.out _ (Below.al2 hB _)) (fun hHeld => ?_)
   clear hK K
   try simp only [Act.put, qz]
   have L := L5_01 _ W.heap.size ma mn mc ba bn bc ga gn gc ta tn tc ra rn rc ⟨Below.al2 hB _, trivial, ⟨hB.size, VarA.new _ _ _⟩, trivial, f0.new _ (fun b hb => by omega), f1.new _ (fun b hb => by omega)⟩
   rw [← HR_.out, HA_.out] at L
   exact L
 have L3_11 : ∀ (W : World) (C : Nat) (D : Nat) ma mn mc ba bn bc ga gn gc, Hid ((Below w3.heap.size w3 W) ∧ (V25 w3 W C) ∧ (V34 w3 W D) ∧ (C ≠ D) ∧ (FrV w3 W (fun b => b = C ∨ b = D) (.slice ma mn mc) (ndsDt l)) ∧ (FrV w3 W (fun b => b = C ∨ b = D) (.slice ba bn bc) (.bytes nm)) ∧ (FrV w3 W (fun b => b = C ∨ b = D) (.slice ga gn gc) (.bytes asn))) → R 6 #[true, true, true, true, true, true, false, false, false, false, true, true, false, false] (A (.agg #[.slice ma mn mc]) (.agg #[.i kd, .i p, .i q, .bool d, .slice ba bn bc, .i p2, .i q2, .bool d2, .slice ga gn gc, .i ov]) (.agg #[.i pf, .i qf, .bool df]) s36 s29 s37 s38 (pt C) (pt D)) W := by
  intro W C D ma mn mc ba bn bc ga gn gc HF
  rw [← HR_.out, HA_.out]
  dsimp only
  refine doH 6 (by kernel_rfl) rfl fun K hK => ?_
  ·go_simp
   obtain ⟨hB, hC, hD, hne, f0, f1, f2⟩ := HF.out
   refine Calls.mono (HS8.out _ _ _ W _ (RdV.mono (fun b hb => hb.2.1) f0) (RdV.mono (fun b hb => hb.2.1) f1) (RdV.mono (fun b hb => hb.2.1) f2) (fun b hb => hb)) ?_
   rintro e W2 ⟨ta, tn, tc, ra, rn, rc, rfl, o1, o2, b2⟩
   have B2 := hB.trans (b2.mono hB.size)
   dsimp only
   refine hK.out _ _ (HS.out _ B2) (fun hHeld => ?_)
   clear hK K
   try simp only [Act.put, qz]
   refine tkh 7 ?_ rfl (by kernel_rfl) rfl (by assumption) ?_ ?_
   rotate_left
   ·(intro _ h; (try dsimp only at h); go_simp; try with_reducible rfl)
   try simp only [Act.put, qz]
   refine tkh 8 ?_ rfl (by kernel_rfl) rfl (by assumption) ?_ ?_
   rotate_left
   ·(intro _ h; (try dsimp only at h); go_simp; try with_reducible rfl)
   try simp only [Act.put, qz]
   refine tkh 9 ?_ rfl (by kernel_rfl) rfl (by assumption) ?_ ?_
   rotate_left
   ·(intro _ h; (try dsimp only at h); go_simp; try with_reducible rfl)
   try simp only [Act.put, qz]
   have L := L5_11 _ C D ma mn mc ba bn bc ga gn gc ta tn tc ra rn rc ⟨B2, ⟨hC.1, hC.2.step b2⟩, ⟨hD.1, hD.2.step b2⟩, hne, FrV.made o1 hB.size (fun b hb => by have := hC.2.lt; have := hD.2.lt; omega), FrV.made o2 hB.size (fun b hb => by have := hC.2.lt; have := hD.2.lt; omega)⟩
   rw [← HR_.out, HA_.out] at L
   exact L
 have L3_10 : ∀ (W : World) (C : Nat) ma mn mc ba bn bc ga gn gc, Hid ((Below w3.heap.size w3 W) ∧ (V25 w3 W C) ∧ (True) ∧ (True) ∧ (FrV w3 W (fun b => b = C) (.slice ma mn mc) (ndsDt l)) ∧ (FrV w3 W (fun b => b = C) (.slice ba bn bc) (.bytes nm)) ∧ (FrV w3 W (fun b => b = C) (.slice ga gn gc) (.bytes asn))) → R 7 #[true, true, true, true, true, true, false, false, false, false, true, false, false, false] (A (.agg #[.slice ma mn mc]) (.agg #[.i kd, .i p, .i q, .bool d, .slice ba bn bc, .i p2, .i q2, .bool d2, .slice ga gn gc, .i ov]) (.agg #[.i pf, .i qf, .bool df]) s36 s29 s37 s38 (pt C) s9) W := by
  intro W C ma mn mc ba bn bc ga gn gc HF
  rw [← HR_.out, HA_.out]
  dsimp only
  refine wpAnyH_ready (rs := [6, 11]) (by kernel_rfl) (by simp) ?_
  refine AllReadyH.cons rfl (fun K hK => ?_) ?_
  ·go_simp
   obtain ⟨hB, hC, hD, hne, f0, f1, f2⟩ := HF.out
   refine Calls.mono (HS8.out _ _ _ W _ (RdV.mono (fun b hb => hb.2.1) f0) (RdV.mono (fun b hb => hb.2.1) f1) (RdV.mono (fun b hb => hb.2.1) f2) (fun b hb => hb)) ?_
   rintro e W2 ⟨ta, tn, tc, ra, rn, rc, rfl, o1, o2, b2⟩
   have B2 := hB.trans (b2.mono hB.size)
   dsimp only
   refine hK.out _ _ (HS.out _ B2) (fun hHeld => ?_)
   clear hK K
   try simp only [Act.put, qz]
   refine tkh 7 ?_ rfl (by kernel_rfl) rfl (by assumption) ?_ ?_
   rotate_left
   ·(intro _ h; (try dsimp only at h); go_simp; try with_reducible rfl)
   try simp only [Act.put, qz]
   refine tkh 8 ?_ rfl (by kernel_rfl) rfl (by assumption) ?_ ?_
   rotate_left
   ·(intro _ h; (try dsimp only at h); go_simp; try with_reducible rfl)
   try simp only [Act.put, qz]
   refine tkh 9 ?_ rfl (by kernel_rfl) rfl (by assumption) ?_ ?_
   rotate_left
   ·(intro _ h; (try dsimp only at h); go_simp; try with_reducible rfl)
   try simp only [Act.put, qz]
   have L := L5_10 _ C ma mn mc ba bn bc ga gn gc ta tn tc ra rn rc ⟨B2, ⟨hC.1, hC.2.step b2⟩, trivial, trivial, FrV.made o1 hB.size (fun b hb => by have := hC.2.lt; omega), FrV.made o2 hB.size (fun b hb => by have := hC.2.lt; omega)⟩
   rw [← HR_.out, HA_.out] at L
   exact L
  refine AllReadyH.cons rfl (fun K hK => ?_) AllReadyH.nil
  ·go_simp
   obtain ⟨hB, hC, hD, hne, f0, f1, f2⟩ := HF.out
   refine hK.out _ _ (HS.out _ (Below.al2 hB _)) (fun hHeld => ?_)
   clear hK K
   try simp only [Act.put, qz]
   have L := L3_11 _ C W.heap.size ma mn mc ba bn bc ga gn gc ⟨Below.al2 hB _, ⟨hC.1, hC.2.alloc _⟩, ⟨hB.size, VarA.new _ _ _⟩, (fun e => by have := hC.2.lt; omega), f0.new _ (fun b hb => by omega), f1.new _ (fun b hb => by omega), f2.new _ (fun b hb => by omega)⟩
   rw [← HR_.out, HA_.out] at L
   exact L
 have L3_01 : ∀ (W : World) (D : Nat) ma mn mc ba bn bc ga gn gc, Hid ((Below w3.heap.size w3 W) ∧ (True) ∧ (V34 w3 W D) ∧ (True) ∧ (FrV w3 W (fun b => b = D) (.slice ma mn mc) (ndsDt l)) ∧ (FrV w3 W (fun b => b = D) (.slice ba bn bc) (.bytes nm)) ∧ (FrV w3 W (fun b => b = D) (.slice ga gn gc) (.bytes asn))) → R 7 #[true, true, true, true, true, true, false, false, false, false, false, true, false, false] (A (.agg #[.slice ma mn mc]) (.agg #[.i kd, .i p, .i q, .bool d, .slice ba bn bc, .i p2, .i q2, .bool d2, .slice ga gn gc, .i ov]) (.agg #[.i pf, .i qf, .bool df]) s36 s29 s37 s38 s8 (pt D)) W := by
  intro W D ma mn mc ba bn bc ga gn gc HF
  rw [← HR_.out, HA_.out]
  dsimp only
  refine wpAnyH_ready (rs := [6, 10]) (by kernel_rfl) (by simp) ?_
  refine AllReadyH.cons rfl (fun K hK => ?_) ?_
  ·go_simp
   obtain ⟨hB, hC, hD, hne, f0, f1, f2⟩ := HF.out
   refine Calls.mono (HS8.out _ _ _ W _ (RdV.mono (fun b hb => hb.2.1) f0) (RdV.mono (fun b hb => hb.2.1) f1) (RdV.mono (fun b hb => hb.2.1) f2) (fun b hb => hb)) ?_
   rintro e W2 ⟨ta, tn, tc, ra, rn, rc, rfl, o1, o2, b2⟩
   have B2 := hB.trans (b2.mono hB.size)
   dsimp only
   refine hK.out _ _ (HS.out _ B2) (fun hHeld => ?_)
   clear hK K
   try simp only [Act.put, qz]
   refine tkh 7 ?_ rfl (by kernel_rfl) rfl (by assumption) ?_ ?_
   rotate_left
   ·(intro _ h; (try dsimp only at h); go_simp; try with_reducible rfl)
   try simp only [Act.put, qz]
   refine tkh 8 ?_ rfl (by kernel_rfl) rfl (by assumption) ?_ ?_
   rotate_left
   ·(intro _ h; (try dsimp only at h); go_simp; try with_reducible rfl)
   try simp only [Act.put, qz]
   refine tkh 9 ?_ rfl (by kernel_rfl) rfl (by assumption) ?_ ?_
   rotate_left
   ·(intro _ h; (try dsimp only at h); go_simp; try with_reducible rfl)
   try simp only [Act.put, qz]
   have L := L5_01 _ D ma mn mc ba bn bc ga gn gc ta tn tc ra rn rc ⟨B2, trivial, ⟨hD.1, hD.2.step b2⟩, trivial, FrV.made o1 hB.size (fun b hb => by have := hD.2.lt; omega), FrV.made o2 hB.size (fun b hb => by have := hD.2.lt; omega)⟩
   rw [← HR_.out, HA_.out] at L
   exact L
  refine AllReadyH.cons rfl (fun K hK => ?_) AllReadyH.nil
  ·go_simp
   obtain ⟨hB, hC, hD, hne, f0, f1, f2⟩ := HF.out
   refine hK.out _ _ (HS.out _ (Below.al2 hB _)) (fun hHeld => ?_)
   clear hK K
   try simp only [Act.put, qz]
   have L := L3_11 _ W.heap.size D ma mn mc ba bn bc ga gn gc ⟨Below.al2 hB _, ⟨hB.size, VarA.new _ _ _⟩, ⟨hD.1, hD.2.alloc _⟩, (fun e => by have := hD.2.lt; omega), f0.new _ (fun b hb => by omega), f1.new _ (fun b hb => by omega), f2.new _ (fun b hb => by omega)⟩
   rw [← HR_.out, HA_.out] at L
   exact L
 have L3_00 : ∀ (W : World) ma mn mc ba bn bc ga gn gc, Hid ((Below w3.heap.size w3 W) ∧ (True) ∧ (True) ∧ (True) ∧ (FrV w3 W (fun _ => False) (.slice ma mn mc) (ndsDt l)) ∧ (FrV w3 W (fun _ => False) (.slice ba bn bc) (.bytes nm)) ∧ (FrV w3 W (fun _ => False) (.slice ga gn gc) (.bytes asn))) → R 8 #[true, true, true, true, true, true, false, false, false, false, false, false, false, false] (A (.agg #[.slice ma mn mc]) (.agg #[.i kd, .i p, .i q, .bool d, .slice ba bn bc, .i p2, .i q2, .bool d2, .slice ga gn gc, .i ov]) (.agg #[.i pf, .i qf, .bool df]) s36 s29 s37 s38 s8 s9) W := by
  intro W ma mn mc ba bn bc ga gn gc HF
  rw [← HR_.out, HA_.out]
  dsimp only
  refine wpAnyH_ready (rs := [6, 10, 11]) (by kernel_rfl) (by simp) ?_
  refine AllReadyH.cons rfl (fun K hK => ?_) ?_
  ·go_simp
   obtain ⟨hB, hC, hD, hne, f0, f1, f2⟩ := HF.out
   refine Calls.mono (HS8.out _ _ _ W _ (RdV.mono (fun b hb => hb.2.1) f0) (RdV.mono (fun b hb => hb.2.1) f1) (RdV.mono (fun b hb => hb.2.1) f2) (fun b hb => hb)) ?_
   rintro e W2 ⟨ta, tn, tc, ra, rn, rc, rfl, o1, o2, b2⟩
   have B2 := hB.trans (b2.mono hB.size)
   dsimp only
   refine hK.out _ _ (HS.out _ B2) (fun hHeld => ?_)
   clear hK K
   try simp only [Act.put, qz]
   refine tkh 7 ?_ rfl (by kernel_rfl) rfl (by assumption) ?_ ?_
   rotate_left
   ·(intro _ h; (try dsimp only at h); go_simp; try with_reducible rfl)
   try simp only [Act.put, qz]
   refine tkh 8 ?_ rfl (by kernel_rfl) rfl (by assumption) ?_ ?_
   rotate_left
   ·(intro _ h; (try dsimp only at h); go_simp; try with_reducible rfl)
   try simp only [Act.put, qz]
   refine tkh 9 ?_ rfl (by kernel_rfl) rfl (by assumption) ?_ ?_
   rotate_left
   ·(intro _ h; (try dsimp only at h); go_simp; try with_reducible rfl)
   try simp only [Act.put, qz]
   have L := L5_00 _ ma mn mc ba bn bc ga gn gc ta tn tc ra rn rc ⟨B2, trivial, trivial, trivial, FrV.made o1 hB.size (fun b hb => hb.elim), FrV.made o2 hB.size (fun b hb => hb.elim)⟩
   rw [← HR_.out, HA_.out] at L
   exact L
  refine AllReadyH.cons rfl (fun K hK => ?_) ?_
  ·go_simp
   obtain ⟨hB, hC, hD, hne, f0, f1, f2⟩ := HF.out
   refine hK.out _ _ (HS.out _ (Below.al2 hB _)) (fun hHeld => ?_)
   clear hK K
   try simp only [Act.put, qz]
   have L := L3_10 _ W.heap.size ma mn mc ba bn bc ga gn gc ⟨Below.al2 hB _, ⟨hB.size, VarA.new _ _ _⟩, trivial, trivial, f0.new _ (fun b hb => by omega), f1.new _ (fun b hb => by omega), f2.new _ (fun b hb => by omega)⟩
   rw [← HR_.out, HA_.out] at L
   exact L
  refine AllReadyH.cons rfl (fun K hK => ?_) AllReadyH.nil
  ·go_simp
   obtain ⟨hB, hC, hD, hne, f0, f1, f2⟩ := HF.out
   refine hK.out _ _ (HS.out _ (Below.al2 hB _)) (fun hHeld => ?_)
   clear hK K
   try simp only [Act.put, qz]
   have L := L3_01 _ W.heap.size ma mn mc ba bn bc ga gn gc ⟨Below.al2 hB _, trivial, ⟨hB.size, VarA.new _ _ _⟩, trivial, f0.new _ (fun b hb => by omega), f1.new _ (fun b hb => by omega), f2.new _ (fun b hb => by omega)⟩
   rw [← HR_.out, HA_.out] at L
   exact L
 have L2_11 : ∀ (W : World) (C : Nat) (D : Nat) ma mn mc ba bn bc ga gn gc, Hid ((Below w3.heap.size w3 W) ∧ (V25 w3 W C) ∧ (V34 w3 W D) ∧ (C ≠ D) ∧ (FrV w3 W (fun b => b = C ∨ b = D) (.slice ma mn mc) (ndsDt l)) ∧ (FrV w3 W (fun b => b = C ∨ b = D) (.slice ba bn bc) (.bytes nm)) ∧ (FrV w3 W (fun b => b = C ∨ b = D) (.slice ga gn gc) (.bytes asn))) → R 7 #[true, true, true, true, true, false, false, false, false, false, true, true, false, false] (A (.agg #[.slice ma mn mc]) (.agg #[.i kd, .i p, .i q, .bool d, .slice ba bn bc, .i p2, .i q2, .bool d2, .slice ga gn gc, .i ov]) s35 s36 s29 s37 s38 (pt C) (pt D)) W := by
  intro W C D ma mn mc ba bn bc ga gn gc HF
  rw [← HR_.out, HA_.out]
  dsimp only
  refine doH 5 (by kernel_rfl) rfl fun K hK => ?_
  ·go_simp
   obtain ⟨hB, hC, hD, hne, f0, f1, f2⟩ := HF.out
   refine Calls.mono (HF_.out _) ?_
   rintro e W2 ⟨rfl, b2⟩
   have B2 := hB.trans (b2.mono hB.size)
   dsimp only
   refine hK.out _ _ (HS.out _ B2) (fun hHeld => ?_)
   clear hK K
   try simp only [Act.put, qz]
   have L := L3_11 _ C D ma mn mc ba bn bc ga gn gc ⟨B2, ⟨hC.1, hC.2.step b2⟩, ⟨hD.1, hD.2.step b2⟩, hne, f0.grow b2, f1.grow b2, f2.grow b2⟩
   rw [← HR_.out, HA_.out] at L
   exact L
 have L2_10 : ∀ (W : World) (C : Nat) ma mn mc ba bn bc ga gn gc, Hid ((Below w3.heap.size w3 W) ∧ (V25 w3 W C) ∧ (True) ∧ (True) ∧ (FrV w3 W (fun b => b = C) (.slice ma mn mc) (ndsDt l)) ∧ (FrV w3 W (fun b => b = C) (.slice ba bn bc) (.bytes nm)) ∧ (FrV w3 W (fun b => b = C) (.slice ga gn gc) (.bytes asn))) → R 8 #[true, true, true, true, true, false, false, false, false, false, true, false, false, false] (A (.agg #[.slice ma mn mc]) (.agg #[.i kd, .i p, .i q, .bool d, .slice ba bn bc, .i p2, .i q2, .bool d2, .slice ga gn gc, .i ov]) s35 s36 s29 s37 s38 (pt C) s9) W := by
  intro W C ma mn mc ba bn bc ga gn gc HF
  rw [← HR_.out, HA_.out]
  dsimp only
  refine wpAnyH_ready (rs := [5, 11]) (by kernel_rfl) (by simp) ?_
  refine AllReadyH.cons rfl (fun K hK => ?_) ?_
  ·go_simp
   obtain ⟨hB, hC, hD, hne, f0, f1, f2⟩ := HF.out
   refine Calls.mono (HF_.out _) ?_
   rintro e W2 ⟨rfl, b2⟩
   have B2 := hB.trans (b2.mono hB.size)
   dsimp only
   refine hK.out _ _ (HS.out _ B2) (fun hHeld => ?_)
   clear hK K
   try simp only [Act.put, qz]
   have L := L3_10 _ C ma mn mc ba bn bc ga gn gc ⟨B2, ⟨hC.1, hC.2.step b2⟩, trivial, trivial, f0.grow b2, f1.grow b2, f2.grow b2⟩
   rw [← HR_.out, HA_.out] at L
   exact L
  refine AllReadyH.cons rfl (fun K hK => ?_) AllReadyH.nil
  ·go_simp
   obtain ⟨hB, hC, hD, hne, f0, f1, f2⟩ := HF.out
   refine hK.out _ _ (HS.out _ (Below.al2 hB _)) (fun hHeld => ?_)
   clear hK K
   try simp only [Act.put, qz]
   have L := L2_11 _ C W.heap.size ma mn mc ba bn bc ga gn gc ⟨Below.al2 hB _, ⟨hC.1, hC.2.alloc _⟩, ⟨hB.size, VarA.new _ _ _⟩, (fun e => by have := hC.2.lt; omega), f0.new _ (fun b hb => by omega), f1.new _ (fun b hb => by omega), f2.new _ (fun b hb => by omega)⟩
   rw [← HR_.out, HA_.out] at L
   exact L
 have L2_01 : ∀ (W : World) (D : Nat) ma mn mc ba bn bc ga gn gc, Hid ((Below w3.heap.size w3 W) ∧ (True) ∧ (V34 w3 W D) ∧ (True) ∧ (FrV w3 W (fun b => b = D) (.slice ma mn mc) (ndsDt l)) ∧ (FrV w3 W (fun b => b = D) (.slice ba bn bc) (.bytes nm)) ∧ (FrV w3 W (fun b => b = D) (.slice ga gn gc) (.bytes asn))) → R 8 #[true, true, true, true, true, false, false, false, false, false, false, true, false, false] (A (.agg #[.slice ma mn mc]) (.agg #[.i kd, .i p, .i q, .bool d, .slice ba bn bc, .i p2, .i q2, .bool d2, .slice ga gn gc, .i ov]) s35 s36 s29 s37 s38 s8 (pt D)) W := by
  intro W D ma mn mc ba bn bc ga gn gc HF
  rw [← HR_.out, HA_.out]
  dsimp only
  refine wpAnyH_ready (rs := [5, 10]) (by kernel_rfl) (by simp) ?_
  refine AllReadyH.cons rfl (fun K hK => ?_) ?_
  ·go_simp
   obtain ⟨hB, hC, hD, hne, f0, f1, f2⟩ := HF.out
   refine Calls.mono (HF_.out _) ?_
   rintro e W2 ⟨rfl, b2⟩
   have B2 := hB.trans (b2.mono hB.size)
   dsimp only
   refine hK.out _ _ (HS.out _ B2) (fun hHeld => ?_)
   clear hK K
   try simp only [Act.put, qz]
   have L := L3_01 _ D ma mn mc ba bn bc ga gn gc ⟨B2, trivial, ⟨hD.1, hD.2.step b2⟩, trivial, f0.grow b2, f1.grow b2, f2.grow b2⟩
   rw [← HR_.out, HA_.out] at L
   exact L
  refine AllReadyH.cons rfl (fun K hK => ?_) AllReadyH.nil
  ·go_simp
   obtain ⟨hB, hC, hD, hne, f0, f1, f2⟩ := HF.out
   refine hK.out _ _ (HS.out _ (Below.al2 hB _)) (fun hHeld => ?_)
   clear hK K
   try simp only [Act.put, qz]
   have L := L2_11 _ W.heap.size D ma mn mc ba bn bc ga gn gc ⟨Below.al2 hB _, ⟨hB.size, VarA.new _ _ _⟩, ⟨hD.1, hD.2.alloc _⟩, (fun e => by have := hD.2.lt; omega), f0.new _ (fun b hb => by omega), f1.new _ (fun b hb => by omega), f2.new _ (fun b hb => by omega)⟩
   rw [← HR_.out, HA_.out] at L
   exact L
 have L2_00 : ∀ (W : World) ma mn mc ba bn bc ga gn gc, Hid ((Below w3.heap.size w3 W) ∧ (True) ∧ (True) ∧ (True) ∧ (FrV w3 W (fun _ => False) (.slice ma mn mc) (ndsDt l)) ∧ (FrV w3 W (fun _ => False) (.slice ba bn bc) (.bytes nm)) ∧ (FrV w3 W (fun _ => False) (.slice ga gn gc) (.bytes asn))) → R 9 #[true, true, true, true, true, false, false, false, false, false, false, false, false, false] (A (.agg #[.slice ma mn mc]) (.agg #[.i kd, .i p, .i q, .bool d, .slice ba bn bc, .i p2, .i q2, .bool d2, .slice ga gn gc, .i ov]) s35 s36 s29 s37 s38 s8 s9) W := by
  intro W ma mn mc ba bn bc ga gn gc HF
  rw [← HR_.out, HA_.out]
  dsimp only
  refine wpAnyH_ready (rs := [5, 10, 11]) (by kernel_rfl) (by simp) ?_
  refine AllReadyH.cons rfl (fun K hK => ?_) ?_
  ·go_simp
   obtain ⟨hB, hC, hD, hne, f0, f1, f2⟩ := HF.out
   refine Calls.mono (HF_.out _) ?_
   rintro e W2 ⟨rfl, b2⟩
   have B2 := hB.trans (b2.mono hB.size)
   dsimp only
   refine hK.out _ _ (HS.out _ B2) (fun hHeld => ?_)
   clear hK K
   try simp only [Act.put, qz]
   have L := L3_00 _ ma mn mc ba bn bc ga gn gc ⟨B2, trivial, trivial, trivial, f0.grow b2, f1.grow b2, f2.grow b2⟩
   rw [← HR_.out, HA_.out] at L
   exact L
  refine AllReadyH.cons rfl (fun K hK => ?_) ?_
  ·go_simp
   obtain ⟨hB, hC, hD, hne, f0, f1, f2⟩ := HF.out
   refine hK.out _ _ (HS.out _ (Below.al2 hB _)) (fun hHeld => ?_)
   clear hK K
   try simp only [Act.put, qz]
   have L := L2_10 _ W.heap.size ma mn mc ba bn bc ga gn gc ⟨Below.al2 hB _, ⟨hB.size, VarA.new _ _ _⟩, trivial, trivial, f0.new _ (fun b hb => by omega), f1.new _ (fun b hb => by omega), f2.new _ (fun b hb => by omega)⟩
   rw [← HR_.out, HA_.out] at L
   exact L
  refine AllReadyH.cons rfl (fun K hK => ?_) AllReadyH.nil
  ·go_simp
   obtain ⟨hB, hC, hD, hne, f0, f1, f2⟩ := HF.out
   refine hK.out _ _ (HS.out _ (Below.al2 hB _)) (fun hHeld => ?_)
   clear hK K
   try simp only [Act.put, qz]
   have L := L2_01 _ W.heap.size ma mn mc ba bn bc ga gn gc ⟨Below.al2 hB _, trivial, ⟨hB.size, VarA.new _ _ _⟩, trivial, f0.new _ (fun b hb => by omega), f1.new _ (fun b hb => by omega), f2.new _ (fun b hb => by omega)⟩
   rw [← HR_.out, HA_.out] at L
   exact L
 have L1_11 : ∀ (W : World) (C : Nat) (D : Nat) ma mn mc, Hid ((Below w3.heap.size w3 W) ∧ (V25 w3 W C) ∧ (V34 w3 W D) ∧ (C ≠ D) ∧ (FrV w3 W (fun b => b = C ∨ b = D) (.slice ma mn mc) (ndsDt l))) → R 8 #[true, true, true, false, true, false, false, false, false, false, true, true, false, false] (A (.agg #[.slice ma mn mc]) s33 s35 s36 s29 s37 s38 (pt C) (pt D)) W := by
  intro W C D ma mn mc HF
  rw [← HR_.out, HA_.out]
  dsimp only
  refine doH 3 (by kernel_rfl) rfl fun K hK => ?_
  ·go_simp
   obtain ⟨hB, hC, hD, hne, f0⟩ := HF.out
   refine Calls.mono (HO.out _ (HBW.out.trans (hB.mono HBW.out.size))) ?_
   rintro e W2 ⟨ba, bn, bc, ga, gn, gc, M, rfl, hM, o1, o2, b2⟩
   have B2 := hB.trans (b2.mono hB.size)
   dsimp only
   refine hK.out _ _ (HS.out _ B2) (fun hHeld => ?_)
   clear hK K
   try simp only [Act.put, qz]
   have L := L2_11 _ C D ma mn mc ba bn bc ga gn gc ⟨B2, ⟨hC.1, hC.2.step b2⟩, ⟨hD.1, hD.2.step b2⟩, hne, f0.grow b2, FrV.made (RdV.mono (fun b hb => ⟨hb.1, Nat.lt_of_lt_of_le hb.2 hM.2⟩) (OwV.rd o1)) hB.size (fun b hb => by have := hC.2.lt; have := hD.2.lt; omega), FrV.made (RdV.mono (fun b hb => ⟨Nat.le_trans hM.1 hb.1, hb.2⟩) (OwV.rd o2)) hB.size (fun b hb => by have := hC.2.lt; have := hD.2.lt; omega)⟩
   rw [← HR_.out, HA_.out] at L
   exact L
 have L1_10 : ∀ (W : World) (C : Nat) ma mn mc, Hid ((Below w3.heap.size w3 W) ∧ (V25 w3 W C) ∧ (True) ∧ (True) ∧ (FrV w3 W (fun b => b = C) (.slice ma mn mc) (ndsDt l))) → R 9 #[true, true, true, false, true, false, false, false, false, false, true, false, false, false] (A (.agg #[.slice ma mn mc]) s33 s35 s36 s29 s37 s38 (pt C) s9) W := by
  intro W C ma mn mc HF
  rw [← HR_.out, HA_.out]
  dsimp only
  refine wpAnyH_ready (rs := [3, 11]) (by kernel_rfl) (by simp) ?_
  refine AllReadyH.cons rfl (fun K hK => ?_) ?_
  ·go_simp
   obtain ⟨hB, hC, hD, hne, f0⟩ := HF.out
   refine Calls.mono (HO.out _ (HBW.out.trans (hB.mono HBW.out.size))) ?_
   rintro e W2 ⟨ba, bn, bc, ga, gn, gc, M, rfl, hM, o1, o2, b2⟩
   have B2 := hB.trans (b2.mono hB.size)
   dsimp only
   refine hK.out _ _ (HS.out _ B2) (fun hHeld => ?_)
   clear hK K
   try simp only [Act.put, qz]
   have L := L2_10 _ C ma mn mc ba bn bc ga gn gc ⟨B2, ⟨hC.1, hC.2.step b2⟩, trivial, trivial, f0.grow b2, FrV.made (RdV.mono (fun b hb => ⟨hb.1, Nat.lt_of_lt_of_le hb.2 hM.2⟩) (OwV.rd o1)) hB.size (fun b hb => by have := hC.2.lt; omega), FrV.made (RdV.mono (fun b hb => ⟨Nat.le_trans hM.1 hb.1, hb.2⟩) (OwV.rd o2)) hB.size (fun b hb => by have := hC.2.lt; omega)⟩
   rw [← HR_.out, HA_.out] at L
   exact L
  refine AllReadyH.cons rfl (fun K hK => ?_) AllReadyH.nil
  ·go_simp
   obtain ⟨hB, hC, hD, hne, f0⟩ := HF.out
   refine hK.out _ _ (HS.out _ (Below.al2 hB _)) (fun hHeld => ?_)
   clear hK K
   try simp only [Act.put, qz]
   have L := L1_11 _ C W.heap.size ma mn mc ⟨Below.al2 hB _, ⟨hC.1, hC.2.alloc _⟩, ⟨hB.size, VarA.new _ _ _⟩, (fun e => by have := hC.2.lt; omega), f0.new _ (fun b hb => by omega)⟩
   rw [← HR_.out, HA_.out] at L
   exact L
 have L1_01 : ∀ (W : World) (D : Nat) ma mn mc, Hid ((Below w3.heap.size w3 W) ∧ (True) ∧ (V34 w3 W D) ∧ (True) ∧ (FrV w3 W (fun b => b = D) (.slice ma mn mc) (ndsDt l))) → R 9 #[true, true, true, false, true, false, false, false, false, false, false, true, false, false] (A (.agg #[.slice ma mn mc]) s33 s35 s36 s29 s37 s38 s8 (pt D)) W := by
  intro W D ma mn mc HF
  rw [← HR_.out, HA_.out]
  dsimp only
  refine wpAnyH_ready (rs := [3, 10]) (by kernel_rfl) (by simp) ?_
  refine AllReadyH.cons rfl (fun K hK => ?_) ?_
  ·go_simp
   obtain ⟨hB, hC, hD, hne, f0⟩ := HF.out
   refine Calls.mono (HO.out _ (HBW.out.trans (hB.mono HBW.out.size))) ?_
   rintro e W2 ⟨ba, bn, bc, ga, gn, gc, M, rfl, hM, o1, o2, b2⟩
   have B2 := hB.trans (b2.mono hB.size)
   dsimp only
   refine hK.out _ _ (HS.out _ B2) (fun hHeld => ?_)
   clear hK K
   try simp only [Act.put, qz]
   have L := L2_01 _ D ma mn mc ba bn bc ga gn gc ⟨B2, trivial, ⟨hD.1, hD.2.step b2⟩, trivial, f0.grow b2, FrV.made (RdV.mono (fun b hb => ⟨hb.1, Nat.lt_of_lt_of_le hb.2 hM.2⟩) (OwV.rd o1)) hB.size (fun b hb => by have := hD.2.lt; omega), FrV.made (RdV.mono (fun b hb => ⟨Nat.le_trans hM.1 hb.1, hb.2⟩) (OwV.rd o2)) hB.size (fun b hb => by have := hD.2.lt; omega)⟩
   rw [← HR_.out, HA_.out] at L
   exact L
  refine AllReadyH.cons rfl (fun K hK => ?_) AllReadyH.nil
  ·go_simp
   obtain ⟨hB, hC, hD, hne, f0⟩ := HF.out
   refine hK.out _ _ (HS.out _ (Below.al2 hB _)) (fun hHeld => ?_)
   clear hK K
   try simp only [Act.put, qz]
   have L := L1_11 _ W.heap.size D ma mn mc ⟨Below.al2 hB _, ⟨hB.size, VarA.new _ _ _⟩, ⟨hD.1, hD.2.alloc _⟩, (fun e => by have := hD.2.lt; omega), f0.new _ (fun b hb => by omega)⟩
   rw [← HR_.out, HA_.out] at L
   exact L
 have L1_00 : ∀ (W : World) ma mn mc, Hid ((Below w3.heap.size w3 W) ∧ (True) ∧ (True) ∧ (True) ∧ (FrV w3 W (fun _ => False) (.slice ma mn mc) (ndsDt l))) → R 10 #[true, true, true, false, true, false, false, false, false, false, false, false, false, false] (A (.agg #[.slice ma mn mc]) s33 s35 s36 s29 s37 s38 s8 s9) W := by
  intro W ma mn mc HF
  rw [← HR_.out, HA_.out]
  dsimp only
  refine wpAnyH_ready (rs := [3, 10, 11]) (by kernel_rfl) (by simp) ?_
  refine AllReadyH.cons rfl (fun K hK => ?_) ?_
  ·go_simp
   obtain ⟨hB, hC, hD, hne, f0⟩ := HF.out
   refine Calls.mono (HO.out _ (HBW.out.trans (hB.mono HBW.out.size))) ?_
   rintro e W2 ⟨ba, bn, bc, ga, gn, gc, M, rfl, hM, o1, o2, b2⟩
   have B2 := hB.trans (b2.mono hB.size)
   dsimp only
   refine hK.out _ _ (HS.out _ B2) (fun hHeld => ?_)
   clear hK K
   try simp only [Act.put, qz]
   have L := L2_00 _ ma mn mc ba bn bc ga gn gc ⟨B2, trivial, trivial, trivial, f0.grow b2, FrV.made (RdV.mono (fun b hb => ⟨hb.1, Nat.lt_of_lt_of_le hb.2 hM.2⟩) (OwV.rd o1)) hB.size (fun b hb => hb.elim), FrV.made (RdV.mono (fun b hb => ⟨Nat.le_trans hM.1 hb.1, hb.2⟩) (OwV.rd o2)) hB.size (fun b hb => hb.elim)⟩
   rw [← HR_.out, HA_.out] at L
   exact L
  refine AllReadyH.cons rfl (fun K hK => ?_) ?_
  ·go_simp
   obtain ⟨hB, hC, hD, hne, f0⟩ := HF.out
   refine hK.out _ _ (HS.out _ (Below.al2 hB _)) (fun hHeld => ?_)
   clear hK K
   try simp only [Act.put, qz]
   have L := L1_10 _ W.heap.size ma mn mc ⟨Below.al2 hB _, ⟨hB.size, VarA.new _ _ _⟩, trivial, trivial, f0.new _ (fun b hb => by omega)⟩
   rw [← HR_.out, HA_.out] at L
   exact L
  refine AllReadyH.cons rfl (fun K hK => ?_) AllReadyH.nil
  ·go_simp
   obtain ⟨hB, hC, hD, hne, f0⟩ := HF.out
   refine hK.out _ _ (HS.out _ (Below.al2 hB _)) (fun hHeld => ?_)
   clear hK K
   try simp only [Act.put, qz]
   have L := L1_01 _ W.heap.size ma mn mc ⟨Below.al2 hB _, trivial, ⟨hB.size, VarA.new _ _ _⟩, trivial, f0.new _ (fun b hb => by omega)⟩
   rw [← HR_.out, HA_.out] at L
   exact L
 have L0_11 : ∀ (W : World) (C : Nat) (D : Nat), Hid ((Below w3.heap.size w3 W) ∧ (V25 w3 W C) ∧ (V34 w3 W D) ∧ (C ≠ D)) → R 9 #[true, false, true, false, true, false, false, false, false, false, true, true, false, false] (A s31 s33 s35 s36 s29 s37 s38 (pt C) (pt D)) W := by
  intro W C D HF
  rw [← HR_.out, HA_.out]
  dsimp only
  refine doH 1 (by kernel_rfl) rfl fun K hK => ?_
  ·go_simp
   obtain ⟨hB, hC, hD, hne⟩ := HF.out
   refine Calls.mono (HT.out _ (HBW.out.trans (hB.mono HBW.out.size))) ?_
   rintro e W2 ⟨ma, mn, mc, rfl, o1, b2⟩
   have B2 := hB.trans (b2.mono hB.size)
   dsimp only
   refine hK.out _ _ (HS.out _ B2) (fun hHeld => ?_)
   clear hK K
   try simp only [Act.put, qz]
   have L := L1_11 _ C D ma mn mc ⟨B2, ⟨hC.1, hC.2.step b2⟩, ⟨hD.1, hD.2.step b2⟩, hne, FrV.made (OwV.rd o1) hB.size (fun b hb => by have := hC.2.lt; have := hD.2.lt; omega)⟩
   rw [← HR_.out, HA_.out] at L
   exact L
 have L0_10 : ∀ (W : World) (C : Nat), Hid ((Below w3.heap.size w3 W) ∧ (V25 w3 W C) ∧ (True) ∧ (True)) → R 10 #[true, false, true, false, true, false, false, false, false, false, true, false, false, false] (A s31 s33 s35 s36 s29 s37 s38 (pt C) s9) W := by
  intro W C HF
  rw [← HR_.out, HA_.out]
  dsimp only
  refine wpAnyH_ready (rs := [1, 11]) (by kernel_rfl) (by simp) ?_
  refine AllReadyH.cons rfl (fun K hK => ?_) ?_
  ·go_simp
   obtain ⟨hB, hC, hD, hne⟩ := HF.out
   refine Calls.mono (HT.out _ (HBW.out.trans (hB.mono HBW.out.size))) ?_
   rintro e W2 ⟨ma, mn, mc, rfl, o1, b2⟩
   have B2 := hB.trans (b2.mono hB.size)
   dsimp only
   refine hK.out _ _ (HS.out _ B2) (fun hHeld => ?_)
   clear hK K
   try simp only [Act.put, qz]
   have L := L1_10 _ C ma mn mc ⟨B2, ⟨hC.1, hC.2.step b2⟩, trivial, trivial, FrV.made (OwV.rd o1) hB.size (fun b hb => by have := hC.2.lt; omega)⟩
   rw [← HR_.out, HA_.out] at L
   exact L
  refine AllReadyH.cons rfl (fun K hK => ?_) AllReadyH.nil
  ·go_simp
   obtain ⟨hB, hC, hD, hne⟩ := HF.out
   refine hK.out _ _ (HS.out _ (Below.al2 hB _)) (fun hHeld => ?_)
   clear hK K
   try simp only [Act.put, qz]
   have L := L0_11 _ C W.heap.size ⟨Below.al2 hB _, ⟨hC.1, hC.2.alloc _⟩, ⟨hB.size, VarA.new _ _ _⟩, (fun e => by have := hC.2.lt; omega)⟩
   rw [← HR_.out, HA_.out] at L
   exact L
 have L0_01 : ∀ (W : World) (D : Nat), Hid ((Below w3.heap.size w3 W) ∧ (True) ∧ (V34 w3 W D) ∧ (True)) → R 10 #[true, false, true, false, true, false, false, false, false, false, false, true, false, false] (A s31 s33 s35 s36 s29 s37 s38 s8 (pt D)) W := by
  intro W D HF
  rw [← HR_.out, HA_.out]
  dsimp only
  refine wpAnyH_ready (rs := [1, 10]) (by kernel_rfl) (by simp) ?_
  refine AllReadyH.cons rfl (fun K hK => ?_) ?_
  ·go_simp
   obtain ⟨hB, hC, hD, hne⟩ := HF.out
   refine Calls.mono (HT.out _ (HBW.out.trans (hB.mono HBW.out.size))) ?_
   rintro e W2 ⟨ma, mn, mc, rfl, o1, b2⟩
   have B2 := hB.trans (b2.mono hB.size)
   dsimp only
   refine hK.out _ _ (HS.out _ B2) (fun hHeld => ?_)
   clear hK K
   try simp only [Act.put, qz]
   have L := L1_01 _ D ma mn mc ⟨B2, trivial, ⟨hD.1, hD.2.step b2⟩, trivial, FrV.made (OwV.rd o1) hB.size (fun b hb => by have := hD.2.lt; omega)⟩
   rw [← HR_.out, HA_.out] at L
   exact L
  refine AllReadyH.cons rfl (fun K hK => ?_) AllReadyH.nil
  ·go_simp
   obtain ⟨hB, hC, hD, hne⟩ := HF.out
   refine hK.out _ _ (HS.out _ (Below.al2 hB _)) (fun hHeld => ?_)
   clear hK K
   try simp only [Act.put, qz]
   have L := L0_11 _ W.heap.size D ⟨Below.al2 hB _, ⟨hB.size, VarA.new _ _ _⟩, ⟨hD.1, hD.2.alloc _⟩, (fun e => by have := hD.2.lt; omega)⟩
   rw [← HR_.out, HA_.out] at L
   exact L
 have L0_00 : ∀ (W : World), Hid ((Below w3.heap.size w3 W) ∧ (True) ∧ (True) ∧ (True)) → R 11 #[true, false, true, false, true, false, false, false, false, false, false, false, false, false] (A s31 s33 s35 s36 s29 s37 s38 s8 s9) W := by
  intro W HF
  rw [← HR_.out, HA_.out]
  dsimp only
  refine wpAnyH_ready (rs := [1, 10, 11]) (by kernel_rfl) (by simp) ?_
  refine AllReadyH.cons rfl (fun K hK => ?_) ?_
  ·go_simp
   obtain ⟨hB, hC, hD, hne⟩ := HF.out
   refine Calls.mono (HT.out _ (HBW.out.trans (hB.mono HBW.out.size))) ?_
   rintro e W2 ⟨ma, mn, mc, rfl, o1, b2⟩
   have B2 := hB.trans (b2.mono hB.size)
   dsimp only
   refine hK.out _ _ (HS.out _ B2) (fun hHeld => ?_)
   clear hK K
   try simp only [Act.put, qz]
   have L := L1_00 _ ma mn mc ⟨B2, trivial, trivial, trivial, FrV.made (OwV.rd o1) hB.size (fun b hb => hb.elim)⟩
   rw [← HR_.out, HA_.out] at L
   exact L
  refine AllReadyH.cons rfl (fun K hK => ?_) ?_
  ·go_simp
   obtain ⟨hB, hC, hD, hne⟩ := HF.out
   refine hK.out _ _ (HS.out _ (Below.al2 hB _)) (fun hHeld => ?_)
   clear hK K
   try simp only [Act.put, qz]
   have L := L0_10 _ W.heap.size ⟨Below.al2 hB _, ⟨hB.size, VarA.new _ _ _⟩, trivial, trivial⟩
   rw [← HR_.out, HA_.out] at L
   exact L
  refine AllReadyH.cons rfl (fun K hK => ?_) AllReadyH.nil
  ·go_simp
   obtain ⟨hB, hC, hD, hne⟩ := HF.out
   refine hK.out _ _ (HS.out _ (Below.al2 hB _)) (fun hHeld => ?_)
   clear hK K
   try simp only [Act.put, qz]
   have L := L0_01 _ W.heap.size ⟨Below.al2 hB _, trivial, ⟨hB.size, VarA.new _ _ _⟩, trivial⟩
   rw [← HR_.out, HA_.out] at L
   exact L
 exact L0_00 W0 ⟨HW0.out, trivial, trivial, trivial⟩
end Go.Proofs.YtcicadfhfojdpaaGreat
