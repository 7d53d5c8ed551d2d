/- The specification's cutting out of an entry. Condition: at most 4,000 entries. -/
import Derived.Test.YtblahkhniabhiaaGreatDoorFA01
import Derived.Test.YtblahkhniabhiaaGreatDoorFSpecD9
namespace Go.Proofs.YtblahkhniabhiaaGreatDoor
open Go.RowKit
set_option linter.unusedVariables false
set_option linter.unusedSimpArgs false
set_option maxRecDepth 100000

theorem wrapI (x : Int) (h1 : -9223372036854775808 ≤ x) (h2 : x ≤ 9223372036854775807) : IntKind.i64.wrap x = x:=by
 simp only [IntKind.wrap,IntKind.bits,IntKind.signed]
 simp
 omega
theorem exec_sl {t t' : TypeId} {dst : Option Tmp} {x : Operand} {lo hi : Option Operand} {pos : String} {af : Array Edge} {gd : Option (Nat × Bool)} {ρ : Operand → Value} {w : World} {v : Value}
  (h : (Instr.sliceAt t (ρ x) (lo.map ρ) (hi.map ρ) none).run Tryz.prog w = .ok v w) : (execOp ρ ⟨dst,.slice t x lo hi none,t',pos,af,gd⟩).run Tryz.prog w = .ok (.value v) w:=by
 unfold execOp
 simp only [Option.map_none,h,Sem.run_bind,Sem.run_pure,Result.andThen_ok]
theorem exec_slH {t t' : TypeId} {dst : Option Tmp} {x y : Operand} {pos : String} {af : Array Edge} {gd : Option (Nat × Bool)} {ρ : Operand → Value} {w : World} {v u z : Value}
  (hx : ρ x = u) (hy : ρ y = z) (h : (Instr.sliceAt t u none (some z) none).run Tryz.prog w = .ok v w) : (execOp ρ ⟨dst,.slice t x none (some y) none,t',pos,af,gd⟩).run Tryz.prog w = .ok (.value v) w:=
 exec_sl (by rw [hx,Option.map_some,hy]; exact h)
theorem exec_slL {t t' : TypeId} {dst : Option Tmp} {x y : Operand} {pos : String} {af : Array Edge} {gd : Option (Nat × Bool)} {ρ : Operand → Value} {w : World} {v u z : Value}
  (hx : ρ x = u) (hy : ρ y = z) (h : (Instr.sliceAt t u (some z) none none).run Tryz.prog w = .ok v w) : (execOp ρ ⟨dst,.slice t x (some y) none none,t',pos,af,gd⟩).run Tryz.prog w = .ok (.value v) w:=
 exec_sl (by rw [hx,Option.map_some,hy]; exact h)
def cutE (es : List En) (i : Nat) : List En:=es.take i ++ es.drop (i + 1)
set_option maxHeartbeats 4000000 in
theorem specCut_any (g o : Nat) (xa : Option Addr) (xc : Nat) (es : List En) (i : Nat) (S : Nat → Prop) (w : World) (c8 : w.cell? ⟨g,o + 8,none⟩ = some (.slice xa es.length xc)) (hfz : w.frozen? ⟨g,o + 8,none⟩ = false) (r : RdV w S (.slice xa es.length xc) (ensDt es)) (hS : ∀ b,S b → b < w.heap.size) (hn : es.length ≤ 4000) (hi : i < es.length) :
  Calls Tryz.prog 78 #[.pointer (some ⟨g,o,none⟩),.i i] w fun e w' => e = .returned (.tuple #[]) ∧ ∃ W x,w' = W.setCell ⟨g,o + 8,none⟩ x ∧ Below w.heap.size w W ∧ RdV W (fun b => (S b ∨ w.heap.size ≤ b) ∧ b < W.heap.size) x (ensO (cutE es i)):=by
 have hgl : g < w.heap.size:=block_lt_of_cell (a:=⟨g,o + 8,none⟩) c8
 have hcap : es.length ≤ xc:=by obtain ⟨a',cap',V',hv',hh',_⟩:=RdV.inv r; simp only [Value.slice.injEq] at hv'; obtain ⟨-,-,rfl⟩:=hv'; exact hh'.1
 have HR : Hid (∀ W,Below w.heap.size w W → RdV W S (.slice xa es.length xc) (.rows 86 4 es.length (fun i j => enCell (es[i]?.getD en0) j))):=RdV.old r
 have HC8 : Hid (∀ W,Below w.heap.size w W → W.cell? ⟨g,o + 8,none⟩ = some (.slice xa es.length xc)):=fun W hW => (hW.cell (p:=⟨g,o + 8,none⟩) hgl).trans c8
 have HFZ : Hid (∀ W,Below w.heap.size w W → W.frozen? ⟨g,o + 8,none⟩ = false):=fun W hW => (hW.frozen (p:=⟨g,o + 8,none⟩) hgl).trans hfz
 have HS : Hid (∀ b,S b → b < w.heap.size):=hS
 have hic : i ≤ xc:=by omega
 have hwi : IntKind.i64.wrap ((i : Int) + 1) = (i : Int) + 1:=wrapI _ (by omega) (by omega)
 have htl : (es.take i).length = i:=by rw [List.length_take]; omega
 have hdl : (es.drop (i + 1)).length = es.length - (i + 1):=List.length_drop
 clear r c8 hfz hS
 go_enter Tryz.func78,Tryz.ntmps78
 refine wp_region_noPanic ?_
 refine wp_region_Z (fun W => W.cell? ⟨g,o + 8,none⟩ = some (.slice xa es.length xc)) 19 (by kernel_rfl) (HC8.out _ (Below.drew (Below.refl w.heap.size w))) (fun hHeld => ?_)
 apply tkz 0 _ rfl (by kernel_rfl) rfl (by assumption)
 ·(intro _ h; (try dsimp only at h); go_simp; try with_reducible rfl)
 try simp only [qz]
 apply tkz 2 _ rfl (by kernel_rfl) rfl (by assumption)
 ·(intro _ h; (try dsimp only at h); go_simp; try with_reducible rfl)
 try simp only [qz]
 apply tkz 3 _ rfl (by kernel_rfl) rfl (by assumption)
 ·(intro _ h; (try dsimp only at h); go_simp; try with_reducible rfl)
 try simp only [qz]
 apply tkz 4 _ rfl (by kernel_rfl) rfl (by assumption)
 ·(intro _ h; (try dsimp only at h); go_simp; try with_reducible rfl)
 try simp only [qz]
 apply tkz 5 _ rfl (by kernel_rfl) rfl (by assumption)
 ·(intro _ h; (try dsimp only at h); go_simp; try with_reducible rfl)
 try simp only [qz]
 apply tkz 6 _ rfl (by kernel_rfl) rfl (by assumption)
 ·(intro _ h; (try dsimp only at h); go_simp; try with_reducible rfl)
 try simp only [qz]
 refine wpAnyZ_take (i:=7) (v:=(.slice xa i xc)) rfl (by kernel_rfl) (by kernel_rfl) (by kernel_rfl) (by kernel_rfl) (fun _ _ _ h => h) (Or.inl ⟨by rfl,?_⟩) (by assumption) ?_
 ·(intro w_ hSw_; (try dsimp only at hSw_); exact exec_slH (u:=.slice xa es.length xc) (z:=.i (i : Int)) (by rfl) (by rfl) (sliceHE xa es.length xc i hic w_))
 try simp only [qz]
 apply tkz 9 _ rfl (by kernel_rfl) rfl (by assumption)
 ·(intro _ h; (try dsimp only at h); go_simp; try with_reducible rfl)
 try simp only [qz]
 apply tkz 10 _ rfl (by kernel_rfl) rfl (by assumption)
 ·(intro _ h; (try dsimp only at h); go_simp; try with_reducible rfl)
 try simp only [qz]
 apply tkz 11 _ rfl (by kernel_rfl) rfl (by assumption)
 ·(intro _ h; (try dsimp only at h); go_simp; try with_reducible rfl)
 try simp only [qz]
 apply tkz 12 _ rfl (by kernel_rfl) rfl (by assumption)
 ·(intro _ h; (try dsimp only at h); go_simp; try with_reducible rfl)
 try simp only [qz]
 apply tkz 13 _ rfl (by kernel_rfl) rfl (by assumption)
 ·(intro _ h; (try dsimp only at h); go_simp; try with_reducible rfl)
 try simp only [qz]
 apply tkz 14 _ rfl (by kernel_rfl) rfl (by assumption)
 ·(intro _ h; (try dsimp only at h); go_simp; try with_reducible rfl)
 try simp only [qz]
 refine wpAnyZ_take (i:=15) (v:=(.slice (if xc = i + 1 then xa else xa.map (·.add ((i + 1) * 4))) (es.length - (i + 1)) (xc - (i + 1)))) rfl (by kernel_rfl) (by kernel_rfl) (by kernel_rfl) (by kernel_rfl) (fun _ _ _ h => h) (Or.inl ⟨by rfl,?_⟩) (by assumption) ?_
 ·(intro w_ hSw_; (try dsimp only at hSw_); exact exec_slL (u:=.slice xa es.length xc) (z:=.i ((i + 1 : Nat) : Int)) (by rfl) (by rfl) (sliceLE xa es.length xc (i + 1) hi w_))
 try simp only [qz]
 refine wpAnyZ_one (i:=1) (by kernel_rfl) rfl (fun K hK => ?_)
 go_simp
 have b1 : Below w.heap.size w (w.drew.alloc (.cells #[] 86)):=Below.alloc (Below.drew (Below.refl w.heap.size w)) (Nat.le_refl _) _
 refine hK.out _ _ (HC8.out _ b1) (fun hHeld => ?_)
 clear hK K
 try simp only [qz]
 refine wpAnyZ_one (i:=8) (by kernel_rfl) rfl (fun K hK => ?_)
 obtain ⟨VV,hV1,hV2⟩:=RdV.lies (HR.out _ b1)
 refine step_appE (w.drew.alloc (.cells #[] 86)) rfl (.tmp 5) (.tmp 11) (by rfl) (.slice (some ⟨w.heap.size,0,none⟩) 0 0) (by rfl) [] (es.take i) w.heap.size xc xa (fun b => S b ∨ w.heap.size ≤ b) (by rw [htl]; rfl) VV (hV2 i (by omega)).1 ?_ (SE.empty w.drew w.heap.size (fun b => S b ∨ w.heap.size ≤ b) (Nat.le_refl _)) (by simp) (by rw [htl]; simp; omega) ?_
 ·intro j hj
  rw [getD_take _ _ _ _ hj]
  rw [htl] at hj
  exact RdV.mono (fun b hb => ⟨.inl hb,by have:=HS.out b hb; simp; omega,fun e => by have:=HS.out b hb; have e2 : w.heap.size = b:=(by simpa [Value.ownBlock] using e); omega⟩) (hV1 j (by omega))
 intro v2 w2 se2 hg2 hgg2
 rw [List.nil_append] at se2
 have b2 : Below w.heap.size w w2:=Below.grown b1 hg2 (by simp) (fun q hq => by have e2 : w.heap.size = q:=(by simpa [Value.ownBlock] using hq); omega)
 obtain ⟨a2,c2,rfl⟩:=se2.shapeN htl
 refine hK.out _ _ (HC8.out _ b2) (fun hHeld => ?_)
 clear hK K
 try simp only [qz]
 refine wpAnyZ_one (i:=16) (by kernel_rfl) rfl (fun K hK => ?_)
 obtain ⟨VW,hW1,hW2⟩:=RdV.lies (HR.out _ b2)
 have hb2:=se2.lt
 have s2:=b2.size
 refine step_appE w2 rfl (.tmp 12) (.tmp 19) (by rfl) (.slice a2 i c2) (by rfl) (es.take i) (es.drop (i + 1)) w.heap.size (xc - (i + 1)) _ (fun b => S b ∨ w.heap.size ≤ b) (by rw [hdl]; rfl) (fun j => VW (i + 1 + j)) (hW2 (i + 1) (by omega)).2 ?_ se2 s2 (by rw [htl,hdl]; omega) ?_
 ·intro j hj
  rw [getD_drop]
  rw [hdl] at hj
  exact RdV.mono (fun b hb => ⟨.inl hb,by have:=HS.out b hb; omega,fun e => by have:=HS.out b hb; have:=hb2 b e; omega⟩) (hW1 (i + 1 + j) (by omega))
 intro v3 w3 se3 hg3 hgg3
 have b3 : Below w.heap.size w w3:=Below.grown b2 hg3 s2 (fun q hq => (hb2 q hq).1)
 obtain ⟨n3,hn3⟩ : ∃ n,(es.take i ++ es.drop (i + 1)).length = n:=⟨_,rfl⟩
 obtain ⟨a3,c3,rfl⟩:=se3.shapeN hn3
 clear hn3
 refine hK.out _ _ (HC8.out _ b3) (fun hHeld => ?_)
 clear hK K
 try simp only [qz]
 refine wpAnyZ_one (i:=17) (by kernel_rfl) rfl (fun K hK => ?_)
 go_simp
 refine hK.out _ _ (by assumption) (fun hHeld => ?_)
 clear hK K
 try simp only [qz]
 apply tkz 18 _ rfl (by kernel_rfl) rfl (by assumption)
 ·(intro _ h; (try dsimp only at h); go_simp; try with_reducible rfl)
 try simp only [qz]
 refine wpAnyZ_last (by kernel_rfl) rfl (fun K hK => ?_)
 have fz:=HFZ.out _ b3
 have c83:=HC8.out _ b3
 go_simp
 refine hK.out _ _ ?_
 clear hK K
 try simp only [qz]
 refine wpAnyZ_done (by kernel_rfl) (NoPanic.normal ?_) _
 have HSE3 : Hid (SE w3 w.heap.size _ _ _):=se3
 have HB3 : Hid (Below w.heap.size w w3):=b3
 clear se3 b3 b1 b2 hHeld
 go_end0
 refine ⟨rfl,w3,_,rfl,HB3.out,?_⟩
 unfold cutE
 exact RdV.mono (fun b hb => ⟨hb.1.elim id (fun h => .inr h),hb.2⟩) (SE.rdO HSE3.out)
end Go.Proofs.YtblahkhniabhiaaGreatDoor
