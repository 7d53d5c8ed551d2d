/- The specification's way up to the root. Condition: at most 2^21 nodes. -/
import Derived.Test.YtblahkhniabhiaaGreatDoorFSpecT1
import Derived.Test.YtblahkhniabhiaaGreatDoorFA01
namespace Go.Proofs.YtblahkhniabhiaaGreatDoor
open Go.RowKit
set_option linter.unusedVariables false
set_option linter.unusedSimpArgs false

def up (n : Nd) : Bool:=n.h.dir && !decide (n.h = rootH)
def rch (l : List Nd) : Nat → Nd → Bool
 | 0,n => !up n
 | f + 1,n => if up n then (if fi l n.par < l.length then rch l f (l[fi l n.par]?.getD nd0) else false) else true
theorem rch_end (l : List Nd) (f : Nat) (n : Nd) (h : up n = false) : rch l f n = true:=by cases f <;> simp [rch,h]
theorem findH_cases (l : List Nd) (h : Hd) : (fi l h < l.length ∧ findH l h = (fi l h : Int)) ∨ (¬ fi l h < l.length ∧ findH l h = -1):=by
 unfold findH
 by_cases hh : fi l h < l.length
 ·exact .inl ⟨hh,by rw [if_pos hh]⟩
 ·exact .inr ⟨hh,by rw [if_neg hh]⟩

set_option maxRecDepth 100000 in
set_option maxHeartbeats 2000000 in
theorem specReach_any (x : Value) (ya : Option Addr) (yn yc : Nat) (l : List Nd) (n0 : Nd) (S : Nat → Prop) (w : World) (r : RdV w S x (ndsDt l)) (hl : l.length ≤ 2097152) :
  Calls Tryz.prog 52 #[.agg #[x],ndV n0 (.slice ya yn yc)] w fun e w' => e = .returned (.bool (rch l (l.length + 1) n0)) ∧ Below w.heap.size w w':=by
 obtain ⟨a,cap,rfl,_⟩:=RdV.sliced r
 have HR : Hid (∀ W,Below w.heap.size w W → RdV W S (.slice a l.length cap) (.rows 77 9 l.length (fun i j => ndCell (l[i]?.getD nd0) j))):=RdV.old r
 have HFI : Hid (∀ h W,Below w.heap.size w W → _):=fun h W hW => specFind_any _ l h S W (RdV.step r hW) hl
 have HRT : Hid (∀ W,_):=fun W => specRootH_any W
 obtain ⟨res,hres⟩ : ∃ res,rch l (l.length + 1) n0 = res:=⟨_,rfl⟩
 rw [hres]
 have HRES : Hid _:=hres
 obtain ⟨n,hn⟩ : ∃ n,l.length = n:=⟨_,rfl⟩
 have HN : Hid _:=hn
 rw [hn] at hl HR HFI ⊢
 clear r hres hn
 go_enter Tryz.func52,Tryz.ntmps52
 go_wp2
 go_loopw [5] (fun i wr => ∃ k : Nat,k ≤ n + 1 ∧ i = .i k ∧ Below w.heap.size w wr ∧ VarA wr w.heap.size 26 #[.slice a n cap] ∧ ∃ (e : Nd) (za : Option Addr) (zn zc : Nat),VarA wr (w.heap.size + 1) 77 #[.i e.h.sh,.i e.h.ino,.bool e.h.dir,.i e.par.sh,.i e.par.ino,.bool e.par.dir,.i e.links,.i e.val,.slice za zn zc] ∧ Hid (rch l (n + 1 - k) e = res)) (fun i _ => n + 1 - (intOf i).toNat)
 case atStart => exact ⟨0,Nat.zero_le _,rfl,Below.newH2 _ _,(VarA.new w _ _).alloc _,n0,ya,yn,yc,by have:=VarA.new (w.alloc (.cells #[.slice a n cap] 26)) 77 #[.i n0.h.sh,.i n0.h.ino,.bool n0.h.dir,.i n0.par.sh,.i n0.par.ino,.bool n0.par.dir,.i n0.links,.i n0.val,.slice ya yn yc]; simpa using this,by show _ = _; rw [← HRES.out,HN.out]; rfl⟩
 case round =>
  clear HRES
  obtain ⟨k,hk,rfl,hbel,v0,e,za,zn,zc,v1,HE⟩:=hrel
  obtain ⟨⟨p,q,d⟩,⟨p2,q2,d2⟩,lk,vl,es⟩:=e
  replace v1 : VarA wr (w.heap.size + 1) 77 #[.i p,.i q,.bool d,.i p2,.i q2,.bool d2,.i lk,.i vl,.slice za zn zc]:=v1
  have c0:=v0.l1
  obtain ⟨b0,b1,b2,b3,b4,b5,b6,b7,b8⟩:=v1.l9
  have hl0:=v0.lt
  have hl1:=v1.lt
  haveI : Nonempty (Cls wr):=Cls.ne wr
  have k0:=Cls.cell hl1 b0
  have k1:=Cls.cell hl1 b1
  have k2:=Cls.cell hl1 b2
  cases d with
  | false =>
   have HF : Hid (true = res):=by rw [← HE.out]; show _ = _; rw [rch_end _ _ _ (by simp [up])]
   go_wp2
   refine wp_region_cls (by kernel_rfl) (by kernel_rfl) ?_
   repeat (go_big_quiet_step (fail))
   refine wpQuiet_nil ?_
   rintro w' ⟨⟨w',hb'⟩,rfl⟩
   go_wp2
   go_ret
   exact ⟨by rw [← HF.out]; rfl,hbel.trans (hb'.mono hbel.size)⟩
  | true =>
   by_cases hp : p = 0
   case neg =>
    have hp2 : (p == 0) = false:=by simpa using hp
    go_wp2
    refine wp_region_cls (by kernel_rfl) (by kernel_rfl) ?_
    repeat (go_big_quiet_step (first | (go_at_call 28; exact Calls.cls_new (HRT.out _))))
    refine wpQuiet_nil ?_
    rintro w' ⟨⟨w',hb'⟩,rfl⟩
    have hup : up ⟨(p,q,true),(p2,q2,d2),lk,vl,es⟩ = true:=by simp [up,rootH,hp]
    have HX : Hid (∀ W,Below w.heap.size w W → _):=fun W hW => HFI.out (p2,q2,d2) W hW
    have v0':=v0.step hb'
    have v1':=v1.step hb'
    have hb3:=hbel.trans (hb'.mono hbel.size)
    clear v0 v1 c0 b0 b1 b2 b3 b4 b5 b6 b7 b8 hl0 hl1 hb' hbel k0 k1 k2
    have c0:=v0'.l1
    obtain ⟨b0,b1,b2,b3,b4,b5,b6,b7,b8⟩:=v1'.l9
    go_wp2_with fail
    refine Calls.mono (HX.out _ hb3) ?_
    rintro e w3 ⟨rfl,b_⟩
    have v0:=v0'.step b_
    have v1:=v1'.step b_
    have hb4:=hb3.trans (b_.mono hb3.size)
    clear v0' v1' c0 b0 b1 b2 b3 b4 b5 b6 b7 b8 b_ hb3 HX
    have c0:=v0.l1
    obtain ⟨b0,b1,b2,b3,b4,b5,b6,b7,b8⟩:=v1.l9
    have fz:=v1.fz
    rcases findH_cases l (p2,q2,d2) with ⟨hf1,hf2⟩ | ⟨hf1,hf2⟩
    case inr =>
     have HF : Hid (false = res):=by
      rw [← HE.out]; show _ = _
      cases hq : n + 1 - k with
      | zero => simp [rch,hup]
      | succ f => simp only [rch,hup,if_true]; rw [if_neg hf1]
     rw [hf2]
     clear HE hup hf1 hf2
     go_wp2
     go_ret
     exact ⟨by rw [← HF.out]; rfl,hb4⟩
    by_cases hkn : k ≤ n
    case neg =>
     have HF : Hid (false = res):=by
      rw [← HE.out]; show _ = _
      rw [show n + 1 - k = 0 by omega]
      simp [rch,hup]
     rw [hf2]
     clear HE hup hf1 hf2
     generalize fi l (p2,q2,d2) = f0
     go_wp2
     go_ret
     exact ⟨by rw [← HF.out]; rfl,hb4⟩
    have HF : Hid (rch l (n + 1 - (k + 1)) (l[fi l (p2,q2,d2)]?.getD nd0) = res):=by
     rw [← HE.out]; show _ = _
     rw [show n + 1 - k = (n + 1 - (k + 1)) + 1 by omega]
     simp only [rch,hup,if_true]; rw [if_pos hf1]
    rw [hf2]
    rw [HN.out] at hf1
    clear HE hup hf2
    generalize fi l (p2,q2,d2) = f0 at *
    obtain ⟨b,off,rfl,hbl,_,hx⟩:=RdV.at (HR.out w3 hb4) hf1
    generalize l[f0]?.getD nd0 = en at hx HF
    obtain ⟨x0,g0,s0⟩:=hx 0 (by omega)
    obtain ⟨x1,g1,s1⟩:=hx 1 (by omega)
    obtain ⟨x2,g2,s2⟩:=hx 2 (by omega)
    obtain ⟨x3,g3,s3⟩:=hx 3 (by omega)
    obtain ⟨x4,g4,s4⟩:=hx 4 (by omega)
    obtain ⟨x5,g5,s5⟩:=hx 5 (by omega)
    obtain ⟨x6,g6,s6⟩:=hx 6 (by omega)
    obtain ⟨x7,g7,s7⟩:=hx 7 (by omega)
    obtain ⟨x8,g8,s8⟩:=hx 8 (by omega)
    clear hx
    obtain ⟨⟨p',q',d'⟩,⟨p2',q2',d2'⟩,lk',vl',es'⟩:=en
    obtain rfl : x0 = .i p':=s0
    obtain rfl : x1 = .i q':=s1
    obtain rfl : x2 = .bool d':=s2
    obtain rfl : x3 = .i p2':=s3
    obtain rfl : x4 = .i q2':=s4
    obtain rfl : x5 = .bool d2':=s5
    obtain rfl : x6 = .i lk':=s6
    obtain rfl : x7 = .i vl':=s7
    simp only [Nat.add_zero] at g0
    have S8 : RdV w3 S x8 (ensDt es'):=s8
    obtain ⟨xa,xc,rfl,_⟩:=RdV.sliced S8
    clear S8 s8
    generalize es'.length = xn at g8
    have V1 : Hid (VarA w3 _ _ _):=v1
    have V0 : Hid (VarA w3 _ _ _):=v0
    have hne : w.heap.size ≠ w.heap.size + 1:=by omega
    have hle : w.heap.size ≤ w.heap.size + 1:=by omega
    clear v0 v1
    go_wp2
    exact ⟨⟨k + 1,by omega,by go_num,Below.set9 hb4 hle,VarA.aside9 V0.out hne,⟨(p',q',d'),(p2',q2',d2'),lk',vl',es'⟩,xa,xn,xc,VarA.set9 V1.out,HF.out⟩,by simp [intOf]; omega⟩
   subst hp
   by_cases hq : q = 1
   case neg =>
    have hq2 : (q == 1) = false:=by simpa using hq
    go_wp2
    refine wp_region_cls (by kernel_rfl) (by kernel_rfl) ?_
    repeat (go_big_quiet_step (first | (go_at_call 28; exact Calls.cls_new (HRT.out _))))
    refine wpQuiet_nil ?_
    rintro w' ⟨⟨w',hb'⟩,rfl⟩
    have hup : up ⟨(0,q,true),(p2,q2,d2),lk,vl,es⟩ = true:=by simp [up,rootH,hq]
    have HX : Hid (∀ W,Below w.heap.size w W → _):=fun W hW => HFI.out (p2,q2,d2) W hW
    have v0':=v0.step hb'
    have v1':=v1.step hb'
    have hb3:=hbel.trans (hb'.mono hbel.size)
    clear v0 v1 c0 b0 b1 b2 b3 b4 b5 b6 b7 b8 hl0 hl1 hb' hbel k0 k1 k2
    have c0:=v0'.l1
    obtain ⟨b0,b1,b2,b3,b4,b5,b6,b7,b8⟩:=v1'.l9
    go_wp2_with fail
    refine Calls.mono (HX.out _ hb3) ?_
    rintro e w3 ⟨rfl,b_⟩
    have v0:=v0'.step b_
    have v1:=v1'.step b_
    have hb4:=hb3.trans (b_.mono hb3.size)
    clear v0' v1' c0 b0 b1 b2 b3 b4 b5 b6 b7 b8 b_ hb3 HX
    have c0:=v0.l1
    obtain ⟨b0,b1,b2,b3,b4,b5,b6,b7,b8⟩:=v1.l9
    have fz:=v1.fz
    rcases findH_cases l (p2,q2,d2) with ⟨hf1,hf2⟩ | ⟨hf1,hf2⟩
    case inr =>
     have HF : Hid (false = res):=by
      rw [← HE.out]; show _ = _
      cases hq : n + 1 - k with
      | zero => simp [rch,hup]
      | succ f => simp only [rch,hup,if_true]; rw [if_neg hf1]
     rw [hf2]
     clear HE hup hf1 hf2
     go_wp2
     go_ret
     exact ⟨by rw [← HF.out]; rfl,hb4⟩
    by_cases hkn : k ≤ n
    case neg =>
     have HF : Hid (false = res):=by
      rw [← HE.out]; show _ = _
      rw [show n + 1 - k = 0 by omega]
      simp [rch,hup]
     rw [hf2]
     clear HE hup hf1 hf2
     generalize fi l (p2,q2,d2) = f0
     go_wp2
     go_ret
     exact ⟨by rw [← HF.out]; rfl,hb4⟩
    have HF : Hid (rch l (n + 1 - (k + 1)) (l[fi l (p2,q2,d2)]?.getD nd0) = res):=by
     rw [← HE.out]; show _ = _
     rw [show n + 1 - k = (n + 1 - (k + 1)) + 1 by omega]
     simp only [rch,hup,if_true]; rw [if_pos hf1]
    rw [hf2]
    rw [HN.out] at hf1
    clear HE hup hf2
    generalize fi l (p2,q2,d2) = f0 at *
    obtain ⟨b,off,rfl,hbl,_,hx⟩:=RdV.at (HR.out w3 hb4) hf1
    generalize l[f0]?.getD nd0 = en at hx HF
    obtain ⟨x0,g0,s0⟩:=hx 0 (by omega)
    obtain ⟨x1,g1,s1⟩:=hx 1 (by omega)
    obtain ⟨x2,g2,s2⟩:=hx 2 (by omega)
    obtain ⟨x3,g3,s3⟩:=hx 3 (by omega)
    obtain ⟨x4,g4,s4⟩:=hx 4 (by omega)
    obtain ⟨x5,g5,s5⟩:=hx 5 (by omega)
    obtain ⟨x6,g6,s6⟩:=hx 6 (by omega)
    obtain ⟨x7,g7,s7⟩:=hx 7 (by omega)
    obtain ⟨x8,g8,s8⟩:=hx 8 (by omega)
    clear hx
    obtain ⟨⟨p',q',d'⟩,⟨p2',q2',d2'⟩,lk',vl',es'⟩:=en
    obtain rfl : x0 = .i p':=s0
    obtain rfl : x1 = .i q':=s1
    obtain rfl : x2 = .bool d':=s2
    obtain rfl : x3 = .i p2':=s3
    obtain rfl : x4 = .i q2':=s4
    obtain rfl : x5 = .bool d2':=s5
    obtain rfl : x6 = .i lk':=s6
    obtain rfl : x7 = .i vl':=s7
    simp only [Nat.add_zero] at g0
    have S8 : RdV w3 S x8 (ensDt es'):=s8
    obtain ⟨xa,xc,rfl,_⟩:=RdV.sliced S8
    clear S8 s8
    generalize es'.length = xn at g8
    have V1 : Hid (VarA w3 _ _ _):=v1
    have V0 : Hid (VarA w3 _ _ _):=v0
    have hne : w.heap.size ≠ w.heap.size + 1:=by omega
    have hle : w.heap.size ≤ w.heap.size + 1:=by omega
    clear v0 v1
    go_wp2
    exact ⟨⟨k + 1,by omega,by go_num,Below.set9 hb4 hle,VarA.aside9 V0.out hne,⟨(p',q',d'),(p2',q2',d2'),lk',vl',es'⟩,xa,xn,xc,VarA.set9 V1.out,HF.out⟩,by simp [intOf]; omega⟩
   subst hq
   have HF : Hid (true = res):=by rw [← HE.out]; show _ = _; rw [rch_end _ _ _ (by simp [up,rootH])]
   go_wp2
   refine wp_region_cls (by kernel_rfl) (by kernel_rfl) ?_
   repeat (go_big_quiet_step (first | (go_at_call 28; exact Calls.cls_new (HRT.out _))))
   refine wpQuiet_nil ?_
   rintro w' ⟨⟨w',hb'⟩,rfl⟩
   go_wp2
   go_ret
   exact ⟨by rw [← HF.out]; rfl,hbel.trans (hb'.mono hbel.size)⟩
end Go.Proofs.YtblahkhniabhiaaGreatDoor
