/- The specification's look at a directory's entries. Condition: at most 2^21 of all. -/
import Derived.Test.YtblahkhniabhiaaGreatDoorFA02
import Derived.Test.YtblahkhniabhiaaGreatDoorFA01
import Derived.Laws.Cover1
namespace Go.Proofs.YtblahkhniabhiaaGreatDoor
open Go.RowKit
set_option linter.unusedVariables false
set_option linter.unusedSimpArgs false

def geS (xs ys : List Int) : Bool:=!Op.bytesLess (strOfNums xs).toList (strOfNums ys).toList
def entOk (es : List En) (i : Nat) : Bool:=isNm (es[i]?.getD en0).nm && (HOk (es[i]?.getD en0).h && (decide (findE es (es[i]?.getD en0).nm = (i : Int)) && (decide (i = 0) || !geS (es[i - 1]?.getD en0).nm (es[i]?.getD en0).nm)))
def entsOk (es : List En) : Bool:=(List.range es.length).all (entOk es)
def baseOk (n : Nd) : Bool:=HOk n.h && (decide (1 ≤ n.links) && (decide (n.links ≤ 2147483647) && (decide (0 ≤ n.val) && (decide (n.val ≤ 2147483647) && decide (n.es.length ≤ 12)))))
def fileOk (n : Nd) : Bool:=decide (n.es.length = 0) && decide (n.par = hd0)
def dirOk (n : Nd) : Bool:=decide (n.val = 0) && (decide (n.links = 1) && (HOk n.par && n.par.dir))
def ndOk (n : Nd) : Bool:=baseOk n && (if n.h.dir then dirOk n && entsOk n.es else fileOk n)
theorem range_all_next (f : Nat → Bool) (k : Nat) (h : (List.range k).all f = true) (hk : f k = true) : (List.range (k + 1)).all f = true:=by rw [List.range_succ,List.all_append,h]; simp [hk]
theorem range_all_false (f : Nat → Bool) (n k : Nat) (hk : k < n) (h : f k = false) : (List.range n).all f = false:=by
 rw [List.all_eq_false]
 exact ⟨k,by simpa using hk,by simp [h]⟩


set_option maxRecDepth 100000 in
set_option maxHeartbeats 8000000 in
theorem specNodeDir (p q p2 q2 : Int) (es : List En) (a : Option Addr) (cap m : Nat) (S : Nat → Prop) (w : World) (HR : Hid (∀ W,Below w.heap.size w W → RdV W S (.slice a m cap) (ensDt es))) (HN : Hid (es.length = m)) (HL : Hid (szEns es ≤ 2097152))
  (HH : Hid (∀ W,Calls Tryz.prog 32 #[Hd.v (p,q,true)] W fun e w' => e = .returned (.bool true) ∧ w' = W.alloc (.cells #[.i (Hd.sh (p,q,true)),.i (Hd.ino (p,q,true)),.bool (Hd.dir (p,q,true))] 48)))
  (HH2 : Hid (∀ W,Calls Tryz.prog 32 #[Hd.v (p2,q2,true)] W fun e w' => e = .returned (.bool true) ∧ w' = W.alloc (.cells #[.i (Hd.sh (p2,q2,true)),.i (Hd.ino (p2,q2,true)),.bool (Hd.dir (p2,q2,true))] 48))) (hm12 : m ≤ 12) :
  Calls Tryz.prog 49 #[.agg #[.i p,.i q,.bool true,.i p2,.i q2,.bool true,.i 1,.i 0,.slice a m cap]] w fun e w' => e = .returned (.bool (entsOk es)) ∧ Below w.heap.size w w':=by
 go_enter Tryz.func49,Tryz.ntmps49
 go_wp2_with fail
 refine Calls.mono (HH.out _) ?_
 rintro e w2 ⟨rfl,rfl⟩
 go_wp2_with fail
 refine Calls.mono (HH2.out _) ?_
 rintro e w3 ⟨rfl,rfl⟩
 have vB : VarA (((w.alloc (.cells #[.i p,.i q,.bool true,.i p2,.i q2,.bool true,.i 1,.i 0,.slice a m cap] 77)).alloc (.cells #[.i p,.i q,.bool true] 48)).alloc (.cells #[.i p2,.i q2,.bool true] 48)) w.heap.size 77 #[.i p,.i q,.bool true,.i p2,.i q2,.bool true,.i 1,.i 0,.slice a m cap]:=((VarA.new w _ _).alloc _).alloc _
 have HB : Hid (Below w.heap.size w (((w.alloc (.cells #[.i p,.i q,.bool true,.i p2,.i q2,.bool true,.i 1,.i 0,.slice a m cap] 77)).alloc (.cells #[.i p,.i q,.bool true] 48)).alloc (.cells #[.i p2,.i q2,.bool true] 48))):=(Below.newH2 (w:=w) _ _).alloc (by simp; omega) _
 have HR2 : Hid (∀ W,Below w.heap.size w W → RdV W S (.slice a m cap) (.rows 86 4 m (fun i j => enCell (es[i]?.getD en0) j))):=by
  have h1 : ensDt es = .rows 86 4 m (fun i j => enCell (es[i]?.getD en0) j):=by rw [← HN.out]; rfl
  rw [h1] at HR; exact HR
 clear HH HH2
 go_wp2
 go_loopw [3] (fun i wr => ∃ k : Nat,k ≤ m ∧ i = .i k ∧ Below w.heap.size w wr ∧ VarA wr w.heap.size 77 #[.i p,.i q,.bool true,.i p2,.i q2,.bool true,.i 1,.i 0,.slice a m cap] ∧ Hid ((List.range k).all (entOk es) = true)) (fun i _ => m - (intOf i).toNat)
 case atStart => exact ⟨0,Nat.zero_le _,rfl,HB.out,vB,by show _ = _; simp⟩
 case round =>
  clear vB HB
  obtain ⟨k,hk,rfl,hbel,v0,HA⟩:=hrel
  obtain ⟨b0,b1,b2,b3,b4,b5,b6,b7,b8⟩:=v0.l9
  have hlw:=v0.lt
  by_cases hlt : k < m
  ·obtain ⟨b,off,rfl,hbl,_,hx⟩:=RdV.at (HR2.out wr hbel) hlt
   obtain ⟨e,he⟩ : ∃ e,es[k]?.getD en0 = e:=⟨_,rfl⟩
   obtain ⟨x0,c0,r0⟩:=hx 0 (by omega)
   obtain ⟨x1,c1,r1⟩:=hx 1 (by omega)
   obtain ⟨x2,c2,r2⟩:=hx 2 (by omega)
   obtain ⟨x3,c3,r3⟩:=hx 3 (by omega)
   rw [he] at r0 r1 r2 r3
   have HE : Hid _:=he
   have HZ : Hid (e.nm.length ≤ 2097152):=by have h1:=szEns_at es k; rw [he] at h1; have h2:=HL.out; show _ ≤ _; omega
   clear hx he
   obtain ⟨nm,⟨s,ino,d⟩⟩:=e
   obtain rfl : x1 = .i s:=r1
   obtain rfl : x2 = .i ino:=r2
   obtain rfl : x3 = .bool d:=r3
   simp only [Nat.add_zero] at c0
   have RB : Hid (RdV wr S x0 (.bytes nm)):=r0
   clear r0
   have hbn:=RB.out.b.1
   have HNM : Hid (∀ W,Below wr.heap.size wr W → _):=fun W hW => specName_any x0 nm S W (RdV.step RB.out hW) HZ.out
   have HHO : Hid (∀ W,_):=fun W => specHandleOk_w (s,ino,d) W
   have HEN : Hid (∀ W,Below wr.heap.size wr W → _):=fun W hW => specEntry_any _ x0 ⟨(p,q,true),(p2,q2,true),1,0,es⟩ nm S S W (HR.out W (hbel.trans (hW.mono hbel.size))) (RdV.step RB.out hW) (by show es.length ≤ _; rw [HN.out]; omega)
   dsimp only at HEN
   have HOK : Hid (entOk es k = (isNm nm && (HOk (s,ino,d) && (decide (findE es nm = (k : Int)) && (decide (k = 0) || !geS (es[k - 1]?.getD en0).nm nm))))):=by show _ = _; unfold entOk; rw [HE.out]
   have hc0 : ∀ W,Below wr.heap.size wr W → W.cell? ⟨b,off + k * 4,none⟩ = some x0:=fun W hW => (hW.cell (p:=⟨b,off + k * 4,none⟩) hbl).trans c0
   obtain ⟨xa,xc,rfl⟩:=RdV.sliceB RB.out
   generalize nm.length = xn at *
   generalize isNm nm = bn at HNM HOK
   generalize HOk (s,ino,d) = bh at HHO HOK
   haveI : Nonempty (Cls wr):=Cls.ne wr
   have k8:=Cls.cell hlw b8
   have kc0:=Cls.cell hbl c0
   cases bn with
   | false =>
    have HF : Hid (entsOk es = false):=by show _ = _; unfold entsOk; rw [HN.out]; exact range_all_false _ _ k hlt (by rw [HOK.out]; rfl)
    clear HHO HEN HOK HR HR2 HA hc0 c0 c1 c2 c3 b0 b1 b2 b3 b4 b5 b6 b7
    go_wp2
    refine wp_region_cls (by kernel_rfl) (by kernel_rfl) ?_
    repeat (go_big_quiet_step (first | (go_at_call 54; exact Calls.cls_same (HNM.out _ (Cls.h _)))))
    refine wpQuiet_nil ?_
    rintro w' ⟨⟨w',hb'⟩,rfl⟩
    go_wp2
    go_ret
    exact ⟨by rw [HF.out]; rfl,hbel.trans (hb'.mono hbel.size)⟩
   | true =>
   have kc1:=Cls.cell hbl c1
   have kc2:=Cls.cell hbl c2
   have kc3:=Cls.cell hbl c3
   cases bh with
   | false =>
    have HF : Hid (entsOk es = false):=by show _ = _; unfold entsOk; rw [HN.out]; exact range_all_false _ _ k hlt (by rw [HOK.out]; rfl)
    clear HEN HOK HR HR2 HA hc0 c0 c1 c2 c3 b0 b1 b2 b3 b4 b5 b6 b7
    go_wp2
    refine wp_region_cls (by kernel_rfl) (by kernel_rfl) ?_
    repeat (go_big_quiet_step (first | (go_at_call 54; exact Calls.cls_same (HNM.out _ (Cls.h _))) | (go_at_call 32; exact Calls.cls_new (HHO.out _))))
    refine wpQuiet_nil ?_
    rintro w' ⟨⟨w',hb'⟩,rfl⟩
    go_wp2
    go_ret
    exact ⟨by rw [HF.out]; rfl,hbel.trans (hb'.mono hbel.size)⟩
   | true =>
   have k0:=Cls.cell hlw b0
   have k1:=Cls.cell hlw b1
   have k2:=Cls.cell hlw b2
   have k3:=Cls.cell hlw b3
   have k4:=Cls.cell hlw b4
   have k5:=Cls.cell hlw b5
   have k6:=Cls.cell hlw b6
   have k7:=Cls.cell hlw b7
   by_cases hfe : findE es nm = (k : Int)
   case neg =>
    have HF : Hid (entsOk es = false):=by show _ = _; unfold entsOk; rw [HN.out]; exact range_all_false _ _ k hlt (by rw [HOK.out]; simp [hfe])
    have hfd : ((findE es nm : Int) != (k : Int)) = true:=by simpa using hfe
    generalize findE es nm = fz at *
    clear HOK HR HR2 HA hc0 c0 c1 c2 c3 b0 b1 b2 b3 b4 b5 b6 b7
    go_wp2
    refine wp_region_cls (by kernel_rfl) (by kernel_rfl) ?_
    repeat (go_big_quiet_step (first | (go_at_call 54; exact Calls.cls_same (HNM.out _ (Cls.h _))) | (go_at_call 32; exact Calls.cls_new (HHO.out _)) | (go_at_call 57; exact Calls.cls (HEN.out _ (Cls.h _)))))
    refine wpQuiet_nil ?_
    rintro w' ⟨⟨w',hb'⟩,rfl⟩
    go_wp2
    go_ret
    exact ⟨by rw [HF.out]; rfl,hbel.trans (hb'.mono hbel.size)⟩
   rw [hfe] at HEN
   by_cases hk0 : k = 0
   ·subst hk0
    have HF : Hid ((List.range (0 + 1)).all (entOk es) = true):=range_all_next _ _ HA.out (by rw [HOK.out]; simp [hfe])
    clear HOK HR HA hc0 c0 c1 c2 c3 b0 b1 b2 b3 b4 b5 b6 b7 hfe
    simp only [Nat.zero_mul,Nat.add_zero] at kc0 kc1 kc2 kc3
    go_wp2
    refine wp_region_cls (by kernel_rfl) (by kernel_rfl) ?_
    repeat (go_big_quiet_step (first | (go_at_call 54; exact Calls.cls_same (HNM.out _ (Cls.h _))) | (go_at_call 32; exact Calls.cls_new (HHO.out _)) | (go_at_call 57; exact Calls.cls (HEN.out _ (Cls.h _)))))
    refine wpQuiet_nil ?_
    rintro w' ⟨⟨w',hb'⟩,rfl⟩
    have v0':=v0.step hb'
    have hb3:=hbel.trans (hb'.mono hbel.size)
    go_wp2
    go_roundw
    case rel => exact ⟨0 + 1,by omega,by go_num,hb3,v0',HF.out⟩
    case measure => simp [intOf]; omega
   obtain ⟨j,rfl⟩ : ∃ j,k = j + 1:=⟨k - 1,by omega⟩
   obtain ⟨b',off',hbb,_,_,hz⟩:=RdV.at (HR2.out wr hbel) (show j < m by omega)
   simp only [Option.some.injEq,Addr.mk.injEq,and_true] at hbb
   obtain ⟨rfl,rfl⟩:=hbb
   obtain ⟨y0,d0,s0⟩:=hz 0 (by omega)
   simp only [Nat.add_zero] at d0
   obtain ⟨e1,he1⟩ : ∃ e,es[j]?.getD en0 = e:=⟨_,rfl⟩
   rw [he1] at s0
   have HOK2 : Hid (entOk es (j + 1) = !geS e1.nm nm):=by show _ = _; rw [HOK.out,← he1]; simp [hfe]
   obtain ⟨nm1,hd1⟩:=e1
   have RY : RdV wr S y0 (.bytes nm1):=s0
   clear hz he1 s0 HOK
   have kd0:=Cls.cell hbl d0
   have hcv : ∀ i : Cls wr,(convert 39 9 (.slice xa xn xc)).run Tryz.prog i.W = .ok (.string (strOfNums nm)) i.W:=fun i => conv_d _ nm S _ (RdV.step RB.out i.h)
   have hcy : ∀ i : Cls wr,(convert 39 9 y0).run Tryz.prog i.W = .ok (.string (strOfNums nm1)) i.W:=fun i => conv_d _ nm1 S _ (RdV.step RY i.h)
   obtain ⟨ya,yc,rfl⟩:=RdV.sliceB RY
   clear RY RB
   generalize nm1.length = yn at *
   unfold geS at HOK2
   dsimp only at HOK2
   generalize strOfNums nm1 = s1 at *
   generalize strOfNums nm = s2 at *
   clear HR HR2 hc0 c0 c1 c2 c3 b0 b1 b2 b3 b4 b5 b6 b7 hfe d0
   by_cases hge : Op.bytesLess s1.toList s2.toList = true
   ·have HF : Hid ((List.range (j + 1 + 1)).all (entOk es) = true):=range_all_next _ _ HA.out (by rw [HOK2.out]; simp [hge])
    go_wp2
    refine wp_region_cls (by kernel_rfl) (by kernel_rfl) ?_
    repeat (go_big_quiet_step (first | (go_at_call 54; exact Calls.cls_same (HNM.out _ (Cls.h _))) | (go_at_call 32; exact Calls.cls_new (HHO.out _)) | (go_at_call 57; exact Calls.cls (HEN.out _ (Cls.h _)))))
    refine wpQuiet_nil ?_
    rintro w' ⟨⟨w',hb'⟩,rfl⟩
    have v0':=v0.step hb'
    have hb3:=hbel.trans (hb'.mono hbel.size)
    go_wp2
    go_roundw
    case rel => exact ⟨j + 1 + 1,by omega,by go_num,hb3,v0',HF.out⟩
    case measure => simp [intOf]; omega
   ·have HF : Hid (entsOk es = false):=by show _ = _; unfold entsOk; rw [HN.out]; exact range_all_false _ _ (j + 1) hlt (by rw [HOK2.out]; simp [hge])
    have hg2 : Op.bytesLess s1.toList s2.toList = false:=by simpa using hge
    go_wp2
    refine wp_region_cls (by kernel_rfl) (by kernel_rfl) ?_
    repeat (go_big_quiet_step (first | (go_at_call 54; exact Calls.cls_same (HNM.out _ (Cls.h _))) | (go_at_call 32; exact Calls.cls_new (HHO.out _)) | (go_at_call 57; exact Calls.cls (HEN.out _ (Cls.h _)))))
    refine wpQuiet_nil ?_
    rintro w' ⟨⟨w',hb'⟩,rfl⟩
    go_wp2
    go_ret
    exact ⟨by rw [HF.out]; rfl,hbel.trans (hb'.mono hbel.size)⟩
  ·have he : k = m:=by omega
   subst he
   have HF : Hid (entsOk es = true):=by show _ = _; unfold entsOk; rw [HN.out]; exact HA.out
   go_wp2
   go_ret
   exact ⟨by rw [HF.out]; rfl,hbel⟩
end Go.Proofs.YtblahkhniabhiaaGreatDoor
