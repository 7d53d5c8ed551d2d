/- The program's move. Condition: the handles' numbers are of their type; at most 4,000 entries; what is moved is there. -/
import Derived.Test.YtblahkhniabhiaaGreatDoorFA01
import Derived.Test.YtblahkhniabhiaaGreatDoorFA06
namespace Go.Proofs.YtblahkhniabhiaaGreatDoor
open Go.RowKit
open Go.Maps
set_option linter.unusedVariables false
set_option linter.unusedSimpArgs false
set_option maxRecDepth 100000

def mvF (f : Hd → Option Nd) (dir tt : Hd) (nm asn : List Int) (h : Hd) : Hd → Option Nd:=
  setN (setN f dir { (f dir).getD nd0 with es:=outE ((f dir).getD nd0).es nm }) tt { (setN f dir { (f dir).getD nd0 with es:=outE ((f dir).getD nd0).es nm } tt).getD nd0 with es:=addE ((setN f dir { (f dir).getD nd0 with es:=outE ((f dir).getD nd0).es nm } tt).getD nd0).es asn h }
def moveF (f : Hd → Option Nd) (s : Nat) (o : OpD) : (Hd → Option Nd) × Nat × RpD:=
  if fdB ((f o.dir).getD nd0).es o.nm = false then (f,s,rcI 3) else
  if moveI f o.dir o.to o.asn (fdH ((f o.dir).getD nd0).es o.nm) ≠ 0 then (f,s,rcI (moveI f o.dir o.to o.asn (fdH ((f o.dir).getD nd0).es o.nm))) else
  (if (fdH ((f o.dir).getD nd0).es o.nm).dir = true then setN (mvF f o.dir o.to o.nm o.asn (fdH ((f o.dir).getD nd0).es o.nm)) (fdH ((f o.dir).getD nd0).es o.nm) { (mvF f o.dir o.to o.nm o.asn (fdH ((f o.dir).getD nd0).es o.nm) (fdH ((f o.dir).getD nd0).es o.nm)).getD nd0 with par:=o.to }
    else mvF f o.dir o.to o.nm o.asn (fdH ((f o.dir).getD nd0).es o.nm),s,rcI 0)
theorem moveI_to {f : Hd → Option Nd} {dir tt : Hd} {asn : List Int} {h : Hd} (e : moveI f dir tt asn h = 0) : ∃ t,f tt = some t:=by
  unfold moveI at e
  cases hf : f tt with
  | some t => exact ⟨t,rfl⟩
  | none =>
    rw [hf] at e
    by_cases h1 : tt.dir = false
    · rw [if_pos h1] at e; omega
    · rw [if_neg h1,if_pos (by rfl)] at e; omega
theorem setN_some {f : Hd → Option Nd} {g h : Hd} {n t : Nd} (e : f h = some t) : ∃ u,setN f g n h = some u:=by
  unfold setN
  by_cases x : h = g
  · exact ⟨n,by rw [if_pos x]⟩
  · exact ⟨t,by rw [if_neg x]; exact e⟩
theorem Turned.past3 {P : Nat → Prop} {w w1 w9 w10 : World} (a : Turned P w w9) (t : Turned (GP P w1 w9) w9 w10) (h : w.heap.size ≤ w1.heap.size) : Turned P w w10:=
  ⟨t.os.trans a.os,t.tape.trans a.tape,t.output.trans a.output,Nat.le_trans a.size t.size,fun k hk hp => (t.block k (Nat.lt_of_lt_of_le hk a.size) (fun e => by rcases e with e | e; exact hp e; omega)).trans (a.block k hk hp)⟩
set_option maxHeartbeats 4000000 in
theorem move_any (b s : Nat) (f : Hd → Option Nd) (o : OpD) (n : Nd) (y z : Value) (S2 P : Nat → Prop) (w : World) (N : NM w b s f P) (hin : HIn o.dir) (hito : HIn o.to) (hf : f o.dir = some n) (r2 : RdV w S2 y (.bytes o.nm)) (r3 : RdV w S2 z (.bytes o.asn)) (hS2 : ∀ c,S2 c → ¬ P c) (hSb : ∀ c,S2 c → c < w.heap.size) (hl : n.es.length ≤ 4000) (hs : s ≤ 2097000) (hna : o.asn.length ≤ 2097152)
    (hel : ∀ g t,f g = some t → t.es.length ≤ 4000 ∧ HIn t.par)
    (hh : fdB n.es o.nm = true → ∃ t,f (fdH n.es o.nm) = some t ∧ HIn (fdH n.es o.nm))
    (hL : fdB n.es o.nm = true → moveI f o.dir o.to o.asn (fdH n.es o.nm) = 0 → ∀ n2,setN f o.dir { n with es:=outE n.es o.nm } o.to = some n2 → (n2.es ++ [En.mk o.asn (fdH n.es o.nm)]).Perm (addE n2.es o.asn (fdH n.es o.nm)) ∧ (addE n2.es o.asn (fdH n.es o.nm)).Pairwise (fun a b => cmpB a.nm b.nm < 0)) :
    Calls Tryz.prog 107 #[.map (some b),opV o y z] w (MPost w b P (moveF f s o)):=by
  obtain ⟨za,zc,rfl⟩:=r3.sliceB
  obtain ⟨ya,yc,rfl⟩:=r2.sliceB
  have HNM : Hid (NM w b s f P):=N
  have HPS : Hid (∀ c,P c → c < w.heap.size):=N.sm
  have hbw:=N.lt
  have HRD : Hid (∀ W T,Turned T w W → (∀ c,T c → ¬ S2 c) → RdV W S2 (.slice ya o.nm.length yc) (.bytes o.nm)):=fun W T t ht => RdV.keep (t.keeps (fun c hc e => ht c e hc)) r2
  have HS2 : Hid (∀ c,S2 c → ¬ P c):=hS2
  have HF : Hid (f o.dir = some n):=hf
  obtain ⟨X,Q,N⟩:=N
  have HN : Hid (NX w b s f X Q P):=N
  obtain ⟨a,cap,hat,rx⟩:=atX_rd f X o.dir P w (N.rd _)
  have HM : Hid (∀ W,Below w.heap.size w W → MapH (ndX X) W b s f):=fun W hW => N.m.blk (hW.block b hbw)
  rw [hf] at hat rx
  simp only [Option.getD_some] at hat rx
  have HH : Hid (∀ W,Below w.heap.size w W → _):=fun W hW => find_any (.slice a n.es.length cap) (.slice ya o.nm.length yc) n o.nm P S2 W (rx.step hW) (r2.step hW) (by omega)
  have HI : Hid (HIn o.dir):=hin
  have HA : Hid _:=hat
  have HRA : Hid (∀ W T,Turned T w W → (∀ c,T c → ¬ S2 c) → RdV W S2 (.slice za o.asn.length zc) (.bytes o.asn)):=fun W T t ht => RdV.keep (t.keeps (fun c hc e => ht c e hc)) r3
  have HTK : Hid (∀ W,NM W b s f P → RdV W S2 (.slice ya o.nm.length yc) (.bytes o.nm) → _):=fun W hW rW => takeOut_any b s f o.dir n (.slice ya o.nm.length yc) o.nm S2 P W hW hin hf rW hl (by omega)
  have HMC : Hid (∀ W,Below w.heap.size w W → _):=fun W hW => moveCode_any b s f X o (fdH n.es o.nm) (.slice za o.asn.length zc) ya o.nm.length yc P S2 W (N.m.blk (hW.block b hbw)) hito (fun g a ha => (N.rd g a ha).step hW) (fun g a ha => (hel g a ha).2) (r3.step hW) (by
    cases hft : f o.to with
    | none => simp [nd0]
    | some t => have:=(hel _ t hft).1; show t.es.length ≤ _; omega)
  obtain ⟨f1,hf1⟩ : ∃ f1,setN f o.dir { n with es:=outE n.es o.nm } = f1:=⟨_,rfl⟩
  have HEN : Hid (fdB n.es o.nm = true → moveI f o.dir o.to o.asn (fdH n.es o.nm) = 0 → ∃ n2,f1 o.to = some n2 ∧ ∀ P1 W,NM W b s f1 P1 → RdV W S2 (.slice za o.asn.length zc) (.bytes o.asn) → Calls Tryz.prog 121 #[.map (some b),o.to.v,.slice za o.asn.length zc,(fdH n.es o.nm).v] W fun e w' => e = .returned (.tuple #[]) ∧ NM w' b s (setN f1 o.to { n2 with es:=addE n2.es o.asn (fdH n.es o.nm) }) (GP P1 W w') ∧ Turned P1 W w'):=fun h1 h2 => by
    obtain ⟨t,ht⟩:=moveI_to h2
    obtain ⟨n2,hn2⟩ : ∃ u,f1 o.to = some u:=by rw [← hf1]; exact setN_some ht
    have hll : n2.es.length ≤ 4000:=by
      have h9:=hn2
      rw [← hf1] at h9
      unfold setN at h9
      by_cases x : o.to = o.dir
      · rw [if_pos x] at h9; obtain rfl:=Option.some.inj h9; exact Nat.le_trans (outE_len _ _) hl
      · rw [if_neg x] at h9; exact (hel _ _ h9).1
    have h3:=hL h1 h2 n2 (by rw [hf1]; exact hn2)
    exact ⟨n2,hn2,fun P1 W hW rW => enter_any b s f1 o.to (fdH n.es o.nm) n2 (.slice za o.asn.length zc) o.asn S2 P1 W hW hito hn2 rW hll hna (by omega) _ h3.1 h3.2⟩
  have HIH : Hid (fdB n.es o.nm = true → HIn (fdH n.es o.nm) ∧ ∃ t1,f1 (fdH n.es o.nm) = some t1):=fun h => ⟨(hh h).choose_spec.2,by rw [← hf1]; exact setN_some (hh h).choose_spec.1⟩
  have HIT : Hid (HIn o.to):=hito
  obtain ⟨res,hres⟩ : ∃ r,moveF f s o = r:=⟨_,rfl⟩
  have HRES : Hid ((if fdB n.es o.nm = false then (f,s,rcI 3) else
      if moveI f o.dir o.to o.asn (fdH n.es o.nm) ≠ 0 then (f,s,rcI (moveI f o.dir o.to o.asn (fdH n.es o.nm))) else
      (if (fdH n.es o.nm).dir = true then setN (setN f1 o.to { (f1 o.to).getD nd0 with es:=addE ((f1 o.to).getD nd0).es o.asn (fdH n.es o.nm) }) (fdH n.es o.nm) { ((setN f1 o.to { (f1 o.to).getD nd0 with es:=addE ((f1 o.to).getD nd0).es o.asn (fdH n.es o.nm) }) (fdH n.es o.nm)).getD nd0 with par:=o.to }
        else setN f1 o.to { (f1 o.to).getD nd0 with es:=addE ((f1 o.to).getD nd0).es o.asn (fdH n.es o.nm) },s,rcI 0)) = res):=by
    show _ = _
    rw [← hres,← hf1]
    unfold moveF mvF
    rw [hf]
    rfl
  rw [hres]
  have hsm : s < maxLen:=by unfold maxLen; omega
  have HSB : Hid (∀ c,S2 c → c < w.heap.size):=hSb
  rw [hf1] at HTK
  clear N r2 r3 hS2 hSb hin hito hf hres hat rx hf1 hh hel hL hna
  obtain ⟨⟨ph,qh,dh⟩,hfh⟩ : ∃ r,fdH n.es o.nm = r:=⟨_,rfl⟩
  obtain ⟨bh,hbh⟩ : ∃ r,fdB n.es o.nm = r:=⟨_,rfl⟩
  obtain ⟨mc,hmc⟩ : ∃ r,moveI f o.dir o.to o.asn (fdH n.es o.nm) = r:=⟨_,rfl⟩
  rw [hmc] at HMC HRES HEN
  rw [hfh] at HH HRES HIH HMC HEN
  rw [hbh] at HH HRES HIH HEN
  clear hbh hmc hfh
  obtain ⟨kd,⟨p,q,d⟩,nm,⟨p2,q2,d2⟩,asn,ov⟩:=o
  obtain ⟨⟨s0,s1,s2⟩,⟨s3,s4,s5⟩,lk,vl,es⟩:=n
  dsimp only at HTK HRD HRA HF HH HA HI HRES HEN HMC HIT hl
  generalize hyn : nm.length = yn at *
  generalize hzn : asn.length = zn at *
  generalize hmm : es.length = m at *
  go_enter Tryz.func107,Tryz.ntmps107
  go_upto_region 1 with fail
  go_cut [5,6] from 7 (fun s5 s6 wx => ∃ C,s5 = .pointer (some ⟨C,0,none⟩) ∧ s6 = .bool bh ∧ VarA wx C 48 #[.i ph,.i qh,.bool dh] ∧ VarA wx (w.heap.size + 1) 51 #[.i 0,.i 0,.i 0,.bool false,.i 0,.n0] ∧ Below w.heap.size w wx ∧ VarA wx w.heap.size 53 #[.i kd,.i p,.i q,.bool d,.slice ya yn yc,.i p2,.i q2,.bool d2,.slice za zn zc,.i ov] ∧ w.heap.size + 2 ≤ C)
  case first =>
    refine gen_world (P:=fun W => Code.wp _ _ _ _ W) (fun W => VarA W w.heap.size 53 #[.i kd,.i p,.i q,.bool d,.slice ya yn yc,.i p2,.i q2,.bool d2,.slice za zn zc,.i ov] ∧ VarA W (w.heap.size + 1) 51 #[.i 0,.i 0,.i 0,.bool false,.i 0,.n0] ∧ Below w.heap.size w W) ⟨(VarA.new w _ _).alloc _,(by simpa using VarA.new (w.alloc _) 51 _ : VarA ((w.alloc _).alloc (.cells #[.i 0,.i 0,.i 0,.bool false,.i 0,.n0] 51)) (w.heap.size + 1) _ _),(by repeat (first | exact Below.refl _ _ | refine Below.al2 ?_ _))⟩ ?_
    rintro wr ⟨vO,vR,hbel⟩
    have HS : Hid (∀ W : World,Below wr.heap.size wr W → W.cell? ⟨w.heap.size,1,none⟩ = some (.i p) ∧ W.cell? ⟨w.heap.size,2,none⟩ = some (.i q) ∧ W.cell? ⟨w.heap.size,3,none⟩ = some (.bool d) ∧ W.cell? ⟨w.heap.size,4,none⟩ = some (.slice ya yn yc) ∧ (Instr.lookup 148 (.map (some b)) (.agg #[.i p,.i q,.bool d]) false).run Tryz.prog W = .ok (.agg #[.i s0,.i s1,.bool s2,.i s3,.i s4,.bool s5,.i lk,.i vl,.slice a m cap]) W):=fun W hW => ⟨(vO.step hW).c 1 rfl,(vO.step hW).c 2 rfl,(vO.step hW).c 3 rfl,(vO.step hW).c 4 rfl,by have h9:=lookX_run (HM.out _ (hbel.trans (hW.mono hbel.size))) HI.out; rw [HA.out] at h9; exact h9⟩
    refine wp_region_noPanic ?_
    refine wp_region_held_drew (S:=fun W => W.cell? ⟨w.heap.size,1,none⟩ = some (.i p) ∧ W.cell? ⟨w.heap.size,2,none⟩ = some (.i q) ∧ W.cell? ⟨w.heap.size,3,none⟩ = some (.bool d) ∧ W.cell? ⟨w.heap.size,4,none⟩ = some (.slice ya yn yc) ∧ (Instr.lookup 148 (.map (some b)) (.agg #[.i p,.i q,.bool d]) false).run Tryz.prog W = .ok (.agg #[.i s0,.i s1,.bool s2,.i s3,.i s4,.bool s5,.i lk,.i vl,.slice a m cap]) W) (by kernel_rfl) (HS.out _ (Below.drew (Below.refl wr.heap.size wr))) (fun hHeld => ?_)
    apply tkh 0 _ rfl (by kernel_rfl) rfl (by assumption)
    · (intro _ h; (try dsimp only at h); go_simp; try with_reducible rfl)
    try simp only [qz]
    apply tkh 1 _ rfl (by kernel_rfl) rfl (by assumption)
    · (intro _ h; (try dsimp only at h); go_simp; try with_reducible rfl)
    try simp only [qz]
    apply tkh 2 _ rfl (by kernel_rfl) rfl (by assumption)
    · (intro _ h; (try dsimp only at h); go_simp; try with_reducible rfl)
    try simp only [qz]
    apply tkh 3 _ rfl (by kernel_rfl) rfl (by assumption)
    · (intro _ h; (try dsimp only at h); go_simp; try with_reducible rfl)
    try simp only [qz]
    apply tkh 4 _ rfl (by kernel_rfl) rfl (by assumption)
    · (intro _ h; (try dsimp only at h); go_simp; try with_reducible rfl)
    try simp only [qz]
    apply tkh 5 _ rfl (by kernel_rfl) rfl (by assumption)
    · (intro _ h; (try dsimp only at h); go_simp; try with_reducible rfl)
    try simp only [qz]
    refine wpAnyH_ready (rs:=[6,10]) (by kernel_rfl) (by simp) ?_
    refine AllReadyH.cons rfl (fun K hK => ?_) ?_
    · go_simp
      refine Calls.mono (HH.out _ (hbel.trans (((Below.drew (Below.refl wr.heap.size wr))).mono hbel.size))) ?_
      rintro e w8 ⟨rfl,b8⟩
      have b8p : Below wr.heap.size wr w8:=((Below.drew (Below.refl wr.heap.size wr))).trans (b8.mono ((Below.drew (Below.refl wr.heap.size wr))).size)
      dsimp only
      refine hK.out _ _ (HS.out _ b8p) (fun hHeld => ?_)
      clear hK K
      try simp only [qz]
      apply tkh 7 _ rfl (by kernel_rfl) rfl (by assumption)
      · (intro _ h; (try dsimp only at h); go_simp; try with_reducible rfl)
      try simp only [qz]
      apply tkh 8 _ rfl (by kernel_rfl) rfl (by assumption)
      · (intro _ h; (try dsimp only at h); go_simp; try with_reducible rfl)
      try simp only [qz]
      apply tkh 9 _ rfl (by kernel_rfl) rfl (by assumption)
      · (intro _ h; (try dsimp only at h); go_simp; try with_reducible rfl)
      try simp only [qz]
      refine doH 10 (by kernel_rfl) rfl fun K hK => ?_
      go_simp
      refine hK.out _ _ (HS.out _ (b8p.alloc b8p.size _)) (fun hHeld => ?_)
      clear hK K
      try simp only [qz]
      refine doH 11 (by kernel_rfl) rfl fun K hK => ?_
      go_simp
      refine hK.out _ _ (HS.out _ (b8p.alloc b8p.size _)) (fun hHeld => ?_)
      clear hK K
      try simp only [qz]
      apply tkh 12 _ rfl (by kernel_rfl) rfl (by assumption)
      · (intro _ h; (try dsimp only at h); go_simp; try with_reducible rfl)
      try simp only [qz]
      refine wpAnyH_done (by kernel_rfl) (NoPanic.normal ?_) _
      clear hHeld
      go_wp2_with fail
      go_meet
      exact ⟨_,rfl,rfl,VarA.new w8 48 #[.i ph,.i qh,.bool dh],(vR.step b8p).alloc _,(hbel.trans (b8p.mono hbel.size)).alloc (Nat.le_trans hbel.size b8p.size) _,(vO.step b8p).alloc _,by have:=vR.lt; have:=b8p.size; omega⟩
    refine AllReadyH.cons rfl (fun K hK => ?_) AllReadyH.nil
    go_simp
    refine hK.out _ _ (HS.out _ (Below.alloc (Below.drew (Below.refl wr.heap.size wr)) (Nat.le_refl _) (.cells #[.i 0,.i 0,.bool false] 48))) (fun hHeld => ?_)
    clear hK K
    try simp only [qz]
    refine doH 6 (by kernel_rfl) rfl fun K hK => ?_
    go_simp
    refine Calls.mono (HH.out _ (hbel.trans (((Below.alloc (Below.drew (Below.refl wr.heap.size wr)) (Nat.le_refl _) (.cells #[.i 0,.i 0,.bool false] 48))).mono hbel.size))) ?_
    rintro e w8 ⟨rfl,b8⟩
    have b8p : Below wr.heap.size wr w8:=((Below.alloc (Below.drew (Below.refl wr.heap.size wr)) (Nat.le_refl _) (.cells #[.i 0,.i 0,.bool false] 48))).trans (b8.mono ((Below.alloc (Below.drew (Below.refl wr.heap.size wr)) (Nat.le_refl _) (.cells #[.i 0,.i 0,.bool false] 48))).size)
    dsimp only
    refine hK.out _ _ (HS.out _ b8p) (fun hHeld => ?_)
    clear hK K
    try simp only [qz]
    apply tkh 7 _ rfl (by kernel_rfl) rfl (by assumption)
    · (intro _ h; (try dsimp only at h); go_simp; try with_reducible rfl)
    try simp only [qz]
    apply tkh 8 _ rfl (by kernel_rfl) rfl (by assumption)
    · (intro _ h; (try dsimp only at h); go_simp; try with_reducible rfl)
    try simp only [qz]
    apply tkh 9 _ rfl (by kernel_rfl) rfl (by assumption)
    · (intro _ h; (try dsimp only at h); go_simp; try with_reducible rfl)
    try simp only [qz]
    refine doH 11 (by kernel_rfl) rfl fun K hK => ?_
    have vZ : VarA w8 wr.heap.size 48 #[.i 0,.i 0,.bool false]:=VarA.step (VarA.new wr.drew 48 #[.i 0,.i 0,.bool false]) b8
    obtain ⟨z0,z1,z2⟩:=vZ.l3
    have zf:=vZ.fz
    go_simp
    clear z0 z1 z2 zf
    refine hK.out _ _ (HS.out _ (Below.set3 b8p (Nat.le_refl _))) (fun hHeld => ?_)
    clear hK K
    try simp only [qz]
    apply tkh 12 _ rfl (by kernel_rfl) rfl (by assumption)
    · (intro _ h; (try dsimp only at h); go_simp; try with_reducible rfl)
    try simp only [qz]
    refine wpAnyH_done (by kernel_rfl) (NoPanic.normal ?_) _
    clear hHeld
    go_wp2_with fail
    go_meet
    exact ⟨_,rfl,rfl,VarA.set3 vZ,((((vR.step b8p).aside (p:=⟨wr.heap.size,0,none⟩) (by have:=vR.lt; dsimp only; omega) _).aside (p:=⟨wr.heap.size,1,none⟩) (by have:=vR.lt; dsimp only; omega) _).aside (p:=⟨wr.heap.size,2,none⟩) (by have:=vR.lt; dsimp only; omega) _),Below.set3 (hbel.trans (b8p.mono hbel.size)) hbel.size,((((vO.step b8p).aside (p:=⟨wr.heap.size,0,none⟩) (by have:=vO.lt; dsimp only; omega) _).aside (p:=⟨wr.heap.size,1,none⟩) (by have:=vO.lt; dsimp only; omega) _).aside (p:=⟨wr.heap.size,2,none⟩) (by have:=vO.lt; dsimp only; omega) _),by have:=vR.lt; have:=b8p.size; omega⟩
  case rest =>
   obtain ⟨C,rfl,rfl,vC,vR,hb,vO,hC⟩:=hcut
   rename World => wx
   have HVR : Hid (VarA wx (w.heap.size + 1) 51 _):=vR
   have HVC : Hid (VarA wx C 48 _):=vC
   have HVO : Hid (VarA wx w.heap.size 53 _):=vO
   have HBX : Hid (Below w.heap.size w wx):=hb
   have swx:=hb.size
   have hCl:=vC.lt
   have hRl:=vR.lt
   cases bh
   case false =>
     have hres2 : res = (f,s,rcI 3):=by rw [← HRES.out]; simp
     subst hres2
     clear vR vC vO hb
     go_wp2_with ((with_reducible refine gS 51 ?_); refine sF HVR.out rfl rfl (by kernel_rfl) rfl rfl ?_; intro w8 v8 t8)
     refine bpR Tryz.results107 v8 Tryz.underlying51 rfl rfl (by kernel_rfl) rfl ?_
     exact ⟨.n0,rfl,own_nil _ _ _ rfl,rfl,NM.ret0 HNM.out HBX.out t8 (by omega) rfl,Turned.past (Turned.ofBelow HBX.out) t8 (by omega)⟩
   obtain ⟨c0,c1,c2⟩:=vC.l3
   obtain ⟨q0,q1,q2_,q3,q4,q5,q6,q7,q8,q9⟩:=vO.l10
   clear vR vC vO hb
   have HX : Hid _:=HMC.out wx HBX.out
   clear HMC
   by_cases hmc : mc = 0
   case neg =>
     have hm1 : (mc == 0) = false:=by simpa using hmc
     have hm2 : (mc != 0) = true:=by simpa using hmc
     have hres2 : res = (f,s,rcI mc):=by rw [← HRES.out]; simp [hmc]
     subst hres2
     go_wp2_with (first | (go_at_call 124; refine Calls.mono HX.out ?_; rintro e w1 ⟨rfl,hb1⟩; have kR:=HVR.out.step hb1; have kC:=HVC.out.step hb1; have kO:=HVO.out.step hb1; have HR1 : Hid (VarA w1 (w.heap.size + 1) 51 _):=kR; have HC1 : Hid (VarA w1 C 48 _):=kC; have HO1 : Hid (VarA w1 w.heap.size 53 _):=kO; have HB1 : Hid (Below w.heap.size w w1):=HBX.out.trans (hb1.mono HBX.out.size); have sx1:=hb1.size; have r1:=kO.c 1 rfl; have r2:=kO.c 2 rfl; have r3:=kO.c 3 rfl; have r4:=kO.c 4 rfl; dsimp at r1 r2 r3 r4; clear kR kC kO hb1) | ((with_reducible refine gS 51 ?_); refine sF HR1.out rfl rfl (by kernel_rfl) rfl rfl ?_; intro w8 v8 t8))
     refine bpR Tryz.results107 v8 Tryz.underlying51 rfl rfl (by kernel_rfl) rfl ?_
     exact ⟨.n0,rfl,own_nil _ _ _ rfl,rfl,NM.ret0 HNM.out HB1.out t8 (by omega) rfl,Turned.past (Turned.ofBelow HB1.out) t8 (by omega)⟩
   subst hmc
   obtain ⟨n2,hn2,he2⟩:=HEN.out rfl rfl
   obtain ⟨hih,u1,hu1⟩:=HIH.out rfl
   obtain ⟨f2,hf2⟩ : ∃ f2,setN f1 (p2,q2,d2) { n2 with es:=addE n2.es asn (ph,qh,dh) } = f2:=⟨_,rfl⟩
   obtain ⟨te,hte⟩ : ∃ u,f2 (ph,qh,dh) = some u:=by rw [← hf2]; exact setN_some hu1
   have hres2 : res = (if dh = true then setN f2 (ph,qh,dh) { te with par:=(p2,q2,d2) } else f2,s,rcI 0):=by
     rw [← HRES.out,hn2]
     simp only [Option.getD_some]
     rw [hf2,hte]
     simp
   subst hres2
   have HE2 : Hid (∀ P1 W,NM W b s f1 P1 → RdV W S2 (.slice za zn zc) (.bytes asn) → Calls Tryz.prog 121 #[.map (some b),.agg #[.i p2,.i q2,.bool d2],.slice za zn zc,.agg #[.i ph,.i qh,.bool dh]] W fun e w' => e = .returned (.tuple #[]) ∧ NM w' b s f2 (GP P1 W w') ∧ Turned P1 W w'):=by
     show ∀ P1 W,_
     rw [← hf2]
     exact he2
   have HIH2 : Hid (HIn (ph,qh,dh)):=hih
   have HF2 : Hid (f2 (ph,qh,dh) = some te):=hte
   clear HEN HIH HRES hn2 he2 hih hu1 hf2 hte
   obtain ⟨⟨t0,t1,t2⟩,⟨t3,t4,t5⟩,lkt,vlt,est⟩:=te
   cases dh
   case false =>
     go_wp2_with (first | (go_at_call 124; refine Calls.mono HX.out ?_; rintro e w1 ⟨rfl,hb1⟩; have kR:=HVR.out.step hb1; have kC:=HVC.out.step hb1; have kO:=HVO.out.step hb1; have HR1 : Hid (VarA w1 (w.heap.size + 1) 51 _):=kR; have HC1 : Hid (VarA w1 C 48 _):=kC; have HO1 : Hid (VarA w1 w.heap.size 53 _):=kO; have HB1 : Hid (Below w.heap.size w w1):=HBX.out.trans (hb1.mono HBX.out.size); have sx1:=hb1.size; have r1:=kO.c 1 rfl; have r2:=kO.c 2 rfl; have r3:=kO.c 3 rfl; have r4:=kO.c 4 rfl; dsimp at r1 r2 r3 r4; clear kR kC kO hb1) | (go_at_call 122; refine Calls.mono (HTK.out w1 (HNM.out.step HB1.out) (HRD.out w1 _ (Turned.ofBelow (S:=fun _ => False) HB1.out) (fun c e _ => e))) ?_; rintro e w9 ⟨rfl,N9,t9⟩; have s9:=t9.size; have kC:=HC1.out.turn t9 (by show ¬ C = b; omega); have kR:=HR1.out.turn t9 (by show ¬ w.heap.size + 1 = b; omega); have kO:=HO1.out.turn t9 (by show ¬ w.heap.size = b; omega); obtain ⟨x0,x1,x2⟩:=kC.l3; have y5:=kO.c 5 rfl; have y6:=kO.c 6 rfl; have y7:=kO.c 7 rfl; have y8:=kO.c 8 rfl; dsimp at y5 y6 y7 y8; have HR9 : Hid (VarA w9 (w.heap.size + 1) 51 _):=kR; have HC9 : Hid (VarA w9 C 48 _):=kC; have HO9 : Hid (VarA w9 w.heap.size 53 _):=kO; have HN9 : Hid (NM w9 b s f1 (GP P w1 w9)):=N9; have HT9 : Hid (Turned (fun c => c = b) w1 w9):=t9; clear kR kC kO N9 t9) | (go_at_call 121; refine Calls.mono (HE2.out (GP P w1 w9) w9 HN9.out (HRA.out w9 _ ((Turned.ofBelow HB1.out).trans HT9.out) (fun c e hc => by subst e; exact HS2.out _ hc HN.out.bP))) ?_; rintro e w10 ⟨rfl,N10,t10⟩; have s10:=t10.size; have kC:=HC9.out.turn t10 (fun h => by rcases h with h | h; (have:=HPS.out _ h; omega); omega); have kR:=HR9.out.turn t10 (fun h => by rcases h with h | h; (have:=HPS.out _ h; omega); omega); have kO:=HO9.out.turn t10 (fun h => by rcases h with h | h; (have:=HPS.out _ h; omega); omega); obtain ⟨v0,v1,v2⟩:=kC.l3; have V0:=fun o => (kC.alloc o).c 0 rfl; have V1:=fun o => (kC.alloc o).c 1 rfl; have V2:=fun o => (kC.alloc o).c 2 rfl; have z5:=fun o => (kO.alloc o).c 5 rfl; have z6:=fun o => (kO.alloc o).c 6 rfl; have z7:=fun o => (kO.alloc o).c 7 rfl; dsimp at z5 z6 z7 V0 V1 V2; have HR10 : Hid (VarA w10 (w.heap.size + 1) 51 _):=kR; have HT10 : Hid (Turned (GP P w1 w9) w9 w10):=t10; obtain ⟨X2,Q2,NX2⟩:=N10; obtain ⟨ta,tc,hx2,_⟩:=RdV.sliced (OwV.rd (NX2.own _ _ HF2.out)); have hnh2:=NX2.key _ _ HF2.out; have HNH2 : Hid (_ = _):=hnh2; have HX2 : Hid (X2 (ph,qh,false) = .slice ta est.length tc):=hx2; have HA2 : Hid (atX f2 X2 (ph,qh,false) = ndV ⟨(t0,t1,t2),(t3,t4,t5),lkt,vlt,est⟩ (.slice ta est.length tc)):=(by show _ = _; unfold atX; rw [HF2.out]; show ndV _ (X2 _) = _; rw [hnh2,hx2]); have HN2 : Hid (NX w10 b s f2 X2 Q2 (GP (GP P w1 w9) w9 w10)):=NX2; clear kR kC kO t10 NX2 hx2 hnh2) | (at_lookup; refine wpList_lookOkX _ rfl (.tmp 45) (.tmp 46) rfl b s f2 X2 rfl HN2.out.m (ph,qh,_) HIH2.out rfl ?_; rw [HA2.out,HF2.out,Option.isSome_some]) | ((with_reducible refine gS 51 ?_); refine sF (HR10.out.alloc _) rfl rfl (by kernel_rfl) rfl rfl ?_; intro w8 v8 t8))
     refine bpR Tryz.results107 v8 Tryz.underlying51 rfl rfl (by kernel_rfl) rfl ?_
     have N12 : ∀ o : Obj,NM (w10.alloc o) b s f2 (GP P w1 (w10.alloc o)):=fun o => NM.mono (NM.step ⟨_,_,HN2.out⟩ (Below.newH (w:=w10) _)) (fun c hc => by rcases hc with (hc | hc) | hc; exact .inl hc; exact .inr ⟨by omega,by simp; omega⟩; exact .inr ⟨by omega,by simp; omega⟩) (fun c hc => by rcases hc with hc | hc; (have:=HPS.out c hc; simp; omega); exact hc.2)
     refine ⟨.n0,rfl,own_nil _ _ _ rfl,rfl,NM.ret (w0:=w1) (N12 _) (by omega) t8 (fun h => by have:=HPS.out _ h; omega) (by omega) (by simp; omega) HPS.out rfl,?_⟩
     refine Turned.past (S:=P) ?_ t8 (by omega)
     have tA : Turned P w w9:=(Turned.ofBelow HB1.out).trans (HT9.out.wide (fun c e => by rw [e]; exact HN.out.bP))
     exact (tA.past3 HT10.out (by omega)).alloc _
   case true =>
     go_wp2_with (first | (go_at_call 124; refine Calls.mono HX.out ?_; rintro e w1 ⟨rfl,hb1⟩; have kR:=HVR.out.step hb1; have kC:=HVC.out.step hb1; have kO:=HVO.out.step hb1; have HR1 : Hid (VarA w1 (w.heap.size + 1) 51 _):=kR; have HC1 : Hid (VarA w1 C 48 _):=kC; have HO1 : Hid (VarA w1 w.heap.size 53 _):=kO; have HB1 : Hid (Below w.heap.size w w1):=HBX.out.trans (hb1.mono HBX.out.size); have sx1:=hb1.size; have r1:=kO.c 1 rfl; have r2:=kO.c 2 rfl; have r3:=kO.c 3 rfl; have r4:=kO.c 4 rfl; dsimp at r1 r2 r3 r4; clear kR kC kO hb1) | (go_at_call 122; refine Calls.mono (HTK.out w1 (HNM.out.step HB1.out) (HRD.out w1 _ (Turned.ofBelow (S:=fun _ => False) HB1.out) (fun c e _ => e))) ?_; rintro e w9 ⟨rfl,N9,t9⟩; have s9:=t9.size; have kC:=HC1.out.turn t9 (by show ¬ C = b; omega); have kR:=HR1.out.turn t9 (by show ¬ w.heap.size + 1 = b; omega); have kO:=HO1.out.turn t9 (by show ¬ w.heap.size = b; omega); obtain ⟨x0,x1,x2⟩:=kC.l3; have y5:=kO.c 5 rfl; have y6:=kO.c 6 rfl; have y7:=kO.c 7 rfl; have y8:=kO.c 8 rfl; dsimp at y5 y6 y7 y8; have HR9 : Hid (VarA w9 (w.heap.size + 1) 51 _):=kR; have HC9 : Hid (VarA w9 C 48 _):=kC; have HO9 : Hid (VarA w9 w.heap.size 53 _):=kO; have HN9 : Hid (NM w9 b s f1 (GP P w1 w9)):=N9; have HT9 : Hid (Turned (fun c => c = b) w1 w9):=t9; clear kR kC kO N9 t9) | (go_at_call 121; refine Calls.mono (HE2.out (GP P w1 w9) w9 HN9.out (HRA.out w9 _ ((Turned.ofBelow HB1.out).trans HT9.out) (fun c e hc => by subst e; exact HS2.out _ hc HN.out.bP))) ?_; rintro e w10 ⟨rfl,N10,t10⟩; have s10:=t10.size; have kC:=HC9.out.turn t10 (fun h => by rcases h with h | h; (have:=HPS.out _ h; omega); omega); have kR:=HR9.out.turn t10 (fun h => by rcases h with h | h; (have:=HPS.out _ h; omega); omega); have kO:=HO9.out.turn t10 (fun h => by rcases h with h | h; (have:=HPS.out _ h; omega); omega); obtain ⟨v0,v1,v2⟩:=kC.l3; have V0:=fun o => (kC.alloc o).c 0 rfl; have V1:=fun o => (kC.alloc o).c 1 rfl; have V2:=fun o => (kC.alloc o).c 2 rfl; have z5:=fun o => (kO.alloc o).c 5 rfl; have z6:=fun o => (kO.alloc o).c 6 rfl; have z7:=fun o => (kO.alloc o).c 7 rfl; dsimp at z5 z6 z7 V0 V1 V2; have HR10 : Hid (VarA w10 (w.heap.size + 1) 51 _):=kR; have HT10 : Hid (Turned (GP P w1 w9) w9 w10):=t10; obtain ⟨X2,Q2,NX2⟩:=N10; obtain ⟨ta,tc,hx2,_⟩:=RdV.sliced (OwV.rd (NX2.own _ _ HF2.out)); have hnh2:=NX2.key _ _ HF2.out; have HNH2 : Hid (_ = _):=hnh2; have HX2 : Hid (X2 (ph,qh,true) = .slice ta est.length tc):=hx2; have HA2 : Hid (atX f2 X2 (ph,qh,true) = ndV ⟨(t0,t1,t2),(t3,t4,t5),lkt,vlt,est⟩ (.slice ta est.length tc)):=(by show _ = _; unfold atX; rw [HF2.out]; show ndV _ (X2 _) = _; rw [hnh2,hx2]); have HN2 : Hid (NX w10 b s f2 X2 Q2 (GP (GP P w1 w9) w9 w10)):=NX2; clear kR kC kO t10 NX2 hx2 hnh2) | (at_lookup; refine wpList_lookOkX _ rfl (.tmp 45) (.tmp 46) rfl b s f2 X2 rfl HN2.out.m (ph,qh,_) HIH2.out rfl ?_; rw [HA2.out,HF2.out,Option.isSome_some]) | (at_mapUpdate; refine wpList_putX _ rfl (.tmp 58) (.tmp 59) (.tmp 60) rfl b s f2 X2 rfl (HN2.out.m.alloc _) HN2.out.key hsm (ph,qh,true) HIH2.out rfl (Nd.mk (t0,t1,t2) (p2,q2,d2) lkt vlt est) (.slice ta est.length tc) HNH2.out rfl ?_; intro w11 M11 g11; simp only [HF2.out,Option.isSome_some,if_true] at M11; have t11:=(Turned.ofBelow (S:=fun c => c = b) (Below.newH (w:=w10) _)).trans (Turned.ofGrown (S:=fun c => c = b) g11 (fun k hk => by simpa using hk.symm)); have s11:=t11.size; have kR:=HR10.out.turn t11 (by show ¬ w.heap.size + 1 = b; omega); have HR11 : Hid (VarA w11 (w.heap.size + 1) 51 _):=kR; have HT11 : Hid (Turned (fun c => c = b) w10 w11):=t11; clear kR g11 t11) | ((with_reducible refine gS 51 ?_); refine sF HR11.out rfl rfl (by kernel_rfl) rfl rfl ?_; intro w8 v8 t8))
     refine bpR Tryz.results107 v8 Tryz.underlying51 rfl rfl (by kernel_rfl) rfl ?_
     have hsm2:=HN2.out.small
     have N11 : NM w11 b s _ (GP P w1 w11):=⟨_,_,NX.put HN2.out (g:=(ph,qh,true)) (P':=GP P w1 w11) (R:=Q2 (ph,qh,true)) HNH2.out M11 (fun c hP hc => HT11.out.block c (hsm2 c hP) hc) (by omega) (fun c hc => by rcases hc with (hc | hc) | hc; exact .inl hc; exact .inr ⟨by omega,by omega⟩; exact .inr ⟨by omega,by omega⟩) (fun c hc => by rcases hc with hc | hc; (have:=HPS.out c hc; omega); exact hc.2) (by rw [← HX2.out]; exact OwV.keep (HT11.out.keeps (fun c hc e => (HN2.out.inP _ _ c HF2.out hc).2 e)) (show OwV w10 _ _ (ensDt est) from HN2.out.own _ _ HF2.out)) (fun c hc => ⟨by rcases (HN2.out.inP _ _ c HF2.out hc).1 with (hc | hc) | hc; exact .inl hc; exact .inr ⟨by omega,by omega⟩; exact .inr ⟨by omega,by omega⟩,(HN2.out.inP _ _ c HF2.out hc).2⟩) (fun g' n' c hg hf' hc hq' => hg (HN2.out.apart g' _ n' _ c hf' HF2.out hq' hc))⟩
     refine ⟨.n0,rfl,own_nil _ _ _ rfl,rfl,NM.ret (w0:=w1) N11 (by omega) t8 (fun h => by have:=HPS.out _ h; omega) (by omega) (by omega) HPS.out rfl,?_⟩
     refine Turned.past (S:=P) ?_ t8 (by omega)
     have tA : Turned P w w9:=(Turned.ofBelow HB1.out).trans (HT9.out.wide (fun c e => by rw [e]; exact HN.out.bP))
     exact (tA.past3 HT10.out (by omega)).trans (HT11.out.wide (fun c e => by rw [e]; exact HN.out.bP))
end Go.Proofs.YtblahkhniabhiaaGreatDoor
