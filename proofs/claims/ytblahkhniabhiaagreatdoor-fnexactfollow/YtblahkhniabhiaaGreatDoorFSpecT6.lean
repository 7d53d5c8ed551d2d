/- The specification's look at a tree. Condition: at most 2^21 of all. -/
import Derived.Test.YtblahkhniabhiaaGreatDoorFA01
import Derived.Test.YtblahkhniabhiaaGreatDoorFSpecT2
import Derived.Test.YtblahkhniabhiaaGreatDoorFSpecT4
import Derived.Test.YtblahkhniabhiaaGreatDoorFSpecT5
namespace Go.Proofs.YtblahkhniabhiaaGreatDoor
open Go.RowKit
set_option linter.unusedVariables false
set_option linter.unusedSimpArgs false

def entLead (l : List Nd) (n : Nd) (e : En) : Bool:=decide (fi l e.h < l.length) && (!e.h.dir || decide ((l[fi l e.h]?.getD nd0).par = n.h))
def tailT (l : List Nd) (n : Nd) : Bool:=if n.h = rootH then decide (cntH l n.h = 0) else decide ((cntH l n.h : Int) = n.links) && rch l (l.length + 1) n
def nodeT (l : List Nd) (i : Nat) : Bool:=ndOk (l[i]?.getD nd0) && ((decide (i = 0) || lessH (l[i - 1]?.getD nd0).h (l[i]?.getD nd0).h) && ((l[i]?.getD nd0).es.all (entLead l (l[i]?.getD nd0)) && tailT l (l[i]?.getD nd0)))
def headT (l : List Nd) : Bool:=(decide (1 ≤ l.length) && decide (l.length ≤ 240)) && (decide ((l[0]?.getD nd0).h = rootH) && decide ((l[0]?.getD nd0).par = rootH))
def treeOk (l : List Nd) : Bool:=headT l && (List.range l.length).all (nodeT l)
theorem all_take_nextE (f : En → Bool) (es : List En) (k : Nat) (hk : k < es.length) (h : (es.take k).all f = true) (hf : f (es[k]?.getD en0) = true) : (es.take (k + 1)).all f = true:=by
 rw [List.take_succ_eq_append_getElem hk,List.all_append,h]
 simp [hk] at hf
 simp [hf]
theorem all_falseE (f : En → Bool) (es : List En) (k : Nat) (hk : k < es.length) (hf : f (es[k]?.getD en0) = false) : es.all f = false:=by
 simp [hk] at hf
 rw [List.all_eq_false]
 exact ⟨es[k],List.getElem_mem hk,by simp [hf]⟩

theorem decH_false {p q s i : Int} {d e : Bool} (h : ¬ ((p,q,d) : Hd) = (s,i,e)) : decide (p = s ∧ q = i ∧ d = e) = false:=by
 rw [decide_eq_false_iff_not]
 rintro ⟨rfl,rfl,rfl⟩
 exact h rfl
theorem decH_true {p q s i : Int} {d e : Bool} (h : ((p,q,d) : Hd) = (s,i,e)) : decide (p = s ∧ q = i ∧ d = e) = true:=by
 rw [decide_eq_true_iff]
 simp only [Prod.mk.injEq] at h
 exact h

set_option maxRecDepth 100000 in
set_option maxHeartbeats 2000000 in
theorem specTree_any (x : Value) (l : List Nd) (S : Nat → Prop) (w : World) (r : RdV w S x (ndsDt l)) (hl : szNds l ≤ 2097152) :
  Calls Tryz.prog 29 #[.agg #[x]] w fun e w' => e = .returned (.bool (treeOk l)) ∧ Below w.heap.size w w':=by
 obtain ⟨a,cap,rfl,_⟩:=RdV.sliced r
 have hll : l.length ≤ 2097152:=by unfold szNds at hl; omega
 have HR : Hid (∀ W,Below w.heap.size w W → RdV W S (.slice a l.length cap) (.rows 77 9 l.length (fun i j => ndCell (l[i]?.getD nd0) j))):=RdV.old r
 have HRT : Hid (∀ W,_):=fun W => specRootH_any W
 have HFI : Hid (∀ h W,Below w.heap.size w W → _):=fun h W hW => specFind_any _ l h S W (RdV.step r hW) hll
 have HCN : Hid (∀ h W,Below w.heap.size w W → _):=fun h W hW => specCount_any _ l h S W (RdV.step r hW) hl
 have HRC : Hid (∀ n0 ya yn yc W,Below w.heap.size w W → _):=fun n0 ya yn yc W hW => specReach_any _ ya yn yc l n0 S W (RdV.step r hW) hll
 have HNO : Hid (∀ i z W,RdV W S z (ensDt (l[i]?.getD nd0).es) → _):=fun i z W rz => specNode_any z (l[i]?.getD nd0) S W rz (by have:=szNds_at l i; omega)
 have HLE : Hid (∀ i : Nat,(l[i]?.getD nd0).es.length ≤ 2097152):=fun j => Nat.le_trans (Nat.le_trans (show (l[j]?.getD nd0).es.length ≤ szEns (l[j]?.getD nd0).es by unfold szEns; omega) (szNds_at l j)) hl
 have HCL : Hid (∀ h,(cntH l h) ≤ 2097152):=fun h => Nat.le_trans (psum_len _ (fun n : Nd => szEns n.es) (fun n => by unfold cntE szEns; exact Nat.le_trans List.countP_le_length (by omega)) l _) (by unfold szNds at hl; omega)
 obtain ⟨n,hn⟩ : ∃ n,l.length = n:=⟨_,rfl⟩
 have HN : Hid _:=hn
 rw [hn] at hll HR HFI HCN HRC ⊢
 clear r hl hn
 have v0:=VarA.new w 26 #[.slice a n cap]
 have hc0:=v0.l1
 haveI : Nonempty (Cls (w.alloc (.cells #[.slice a n cap] 26))):=Cls.ne _
 have kc0:=Cls.cell v0.lt hc0
 have HTO : Hid (treeOk l = (((decide (1 ≤ n) && decide (n ≤ 240)) && (decide ((l[0]?.getD nd0).h = rootH) && decide ((l[0]?.getD nd0).par = rootH))) && (List.range n).all (nodeT l))):=by show _ = _; unfold treeOk headT; rw [HN.out]
 by_cases h1 : 1 ≤ n
 case neg =>
  have HF : Hid (treeOk l = false):=by rw [HTO.out]; show _ = _; simp [h1]
  rw [HF.out]
  obtain rfl : n = 0:=by omega
  clear HTO HF HR HFI HCN HRC HNO HLE HCL
  go_enter Tryz.func29,Tryz.ntmps29
  go_wp2
  refine wp_region_cls (by kernel_rfl) (by kernel_rfl) ?_
  repeat (go_big_quiet_step (first | (go_at_call 28; exact Calls.cls_new (HRT.out _))))
  refine wpQuiet_nil ?_
  rintro w' ⟨⟨w',hb'⟩,rfl⟩
  go_wp2
  go_ret
  exact ⟨rfl,(Below.newH (w:=w) _).trans (hb'.mono (by simp))⟩
 have i1 : (1 : Int) ≤ (n : Int):=by omega
 have d1 : decide ((n : Int) < 1) = false:=by simp; omega
 by_cases h2 : n ≤ 240
 case neg =>
  have HF : Hid (treeOk l = false):=by rw [HTO.out]; show _ = _; simp [h2]
  have i2 : (240 : Int) < (n : Int):=by omega
  have d2 : decide ((240 : Int) < (n : Int)) = true:=by simp; omega
  rw [HF.out]
  clear HTO HF HR HFI HCN HRC HNO HLE HCL
  go_enter Tryz.func29,Tryz.ntmps29
  go_wp2
  refine wp_region_cls (by kernel_rfl) (by kernel_rfl) ?_
  repeat (go_big_quiet_step (first | (go_at_call 28; exact Calls.cls_new (HRT.out _))))
  refine wpQuiet_nil ?_
  rintro w' ⟨⟨w',hb'⟩,rfl⟩
  go_wp2
  go_ret
  exact ⟨rfl,(Below.newH (w:=w) _).trans (hb'.mono (by simp))⟩
 have i2 : (n : Int) ≤ 240:=by omega
 have dd2 : decide ((240 : Int) < (n : Int)) = false:=by simp; omega
 obtain ⟨b,off,rfl,hbl,_,hx⟩:=RdV.at (HR.out _ (Below.newH (w:=w) (.cells #[.slice a n cap] 26))) (show 0 < n by omega)
 obtain ⟨e0,he0⟩ : ∃ e,l[0]?.getD nd0 = e:=⟨_,rfl⟩
 obtain ⟨x0,g0,s0⟩:=hx 0 (by omega)
 obtain ⟨x1,g1,s1⟩:=hx 1 (by omega)
 obtain ⟨x2,g2,s2⟩:=hx 2 (by omega)
 obtain ⟨x3,g3,s3⟩:=hx 3 (by omega)
 obtain ⟨x4,g4,s4⟩:=hx 4 (by omega)
 obtain ⟨x5,g5,s5⟩:=hx 5 (by omega)
 rw [he0] at s0 s1 s2 s3 s4 s5 HTO
 obtain ⟨⟨p,q,d⟩,⟨p2,q2,d2⟩,lk,vl,es⟩:=e0
 clear hx
 obtain rfl : x0 = .i p:=s0
 obtain rfl : x1 = .i q:=s1
 obtain rfl : x2 = .bool d:=s2
 obtain rfl : x3 = .i p2:=s3
 obtain rfl : x4 = .i q2:=s4
 obtain rfl : x5 = .bool d2:=s5
 simp only [Nat.zero_mul,Nat.add_zero] at g0 g1 g2 g3 g4 g5
 have kg0:=Cls.cell hbl g0
 have kg1:=Cls.cell hbl g1
 have kg2:=Cls.cell hbl g2
 have kg3:=Cls.cell hbl g3
 have kg4:=Cls.cell hbl g4
 have kg5:=Cls.cell hbl g5
 clear g0 g1 g2 g3 g4 g5
 by_cases h3 : (p,q,d) = rootH
 case neg =>
  have HF : Hid (treeOk l = false):=by rw [HTO.out]; show _ = _; simp [h3]
  have hne : ∀ W : World,(binOp .neq 48 (.agg #[.i p,.i q,.bool d]) (.agg #[.i 0,.i 1,.bool true])).run Tryz.prog W = .ok (.bool true) W:=fun W => by rw [neH_run,decH_false (fun e => h3 e)]; rfl
  rw [HF.out]
  clear HTO HF HR HFI HCN HRC HNO HLE HCL h3 he0
  go_enter Tryz.func29,Tryz.ntmps29
  go_wp2
  refine wp_region_cls (by kernel_rfl) (by kernel_rfl) ?_
  repeat (go_big_quiet_step (first | (go_at_call 28; exact Calls.cls_new (HRT.out _))))
  refine wpQuiet_nil ?_
  rintro w' ⟨⟨w',hb'⟩,rfl⟩
  go_wp2
  go_ret
  exact ⟨rfl,(Below.newH (w:=w) _).trans (hb'.mono (by simp))⟩
 have hne : ∀ W : World,(binOp .neq 48 (.agg #[.i p,.i q,.bool d]) (.agg #[.i 0,.i 1,.bool true])).run Tryz.prog W = .ok (.bool false) W:=fun W => by rw [neH_run]; simp [rootH] at h3; simp; exact h3
 by_cases h4 : (p2,q2,d2) = rootH
 case neg =>
  have HF : Hid (treeOk l = false):=by rw [HTO.out]; show _ = _; simp [h4]
  have hne2 : ∀ W : World,(binOp .neq 48 (.agg #[.i p2,.i q2,.bool d2]) (.agg #[.i 0,.i 1,.bool true])).run Tryz.prog W = .ok (.bool true) W:=fun W => by rw [neH_run,decH_false (fun e => h4 e)]; rfl
  rw [HF.out]
  clear HTO HF HR HFI HCN HRC HNO HLE HCL h3 h4 he0
  go_enter Tryz.func29,Tryz.ntmps29
  go_wp2
  refine wp_region_cls (by kernel_rfl) (by kernel_rfl) ?_
  repeat (go_big_quiet_step (first | (go_at_call 28; exact Calls.cls_new (HRT.out _))))
  refine wpQuiet_nil ?_
  rintro w' ⟨⟨w',hb'⟩,rfl⟩
  go_wp2
  go_ret
  exact ⟨rfl,(Below.newH (w:=w) _).trans (hb'.mono (by simp))⟩
 have hne2 : ∀ W : World,(binOp .neq 48 (.agg #[.i p2,.i q2,.bool d2]) (.agg #[.i 0,.i 1,.bool true])).run Tryz.prog W = .ok (.bool false) W:=fun W => by rw [neH_run]; simp [rootH] at h4; simp; exact h4
 have HTO2 : Hid (treeOk l = (List.range n).all (nodeT l)):=by rw [HTO.out]; show _ = _; simp [h1,h2,h3,h4]
 rw [HTO2.out]
 clear HTO HTO2 he0 h3 h4
 go_enter Tryz.func29,Tryz.ntmps29
 go_wp2
 refine wp_region_cls (by kernel_rfl) (by kernel_rfl) ?_
 repeat (go_big_quiet_step (first | (go_at_call 28; exact Calls.cls_new (HRT.out _))))
 refine wpQuiet_nil ?_
 rintro w' ⟨⟨w',hb'⟩,rfl⟩
 have v0':=v0.step hb'
 have hb2:=(Below.newH (w:=w) _).trans (hb'.mono (by simp))
 clear v0 hc0 kc0 kg0 kg1 kg2 kg3 kg4 kg5 hne hne2 hbl hb'
 go_wp2
 go_loopw [3] (fun i wr => ∃ k : Nat,k ≤ n ∧ i = .i k ∧ Below w.heap.size w wr ∧ VarA wr w.heap.size 26 #[.slice (some ⟨b,off,none⟩) n cap] ∧ Hid ((List.range k).all (nodeT l) = true)) (fun i _ => n - (intOf i).toNat)
 case atStart => exact ⟨0,Nat.zero_le _,rfl,hb2,v0',by show _ = _; simp⟩
 case round =>
  clear v0' hb2
  obtain ⟨k,hk,rfl,hbel,v0,HA⟩:=hrel
  by_cases hlt : k < n
  case neg =>
   have hkn : k = n:=by omega
   subst hkn
   have c0:=v0.l1
   go_wp2
   go_ret
   exact ⟨by rw [HA.out]; rfl,hbel⟩
  have c0:=v0.l1
  obtain ⟨b',off',hbb,hbl,_,hx⟩:=RdV.at (HR.out wr hbel) hlt
  simp only [Option.some.injEq,Addr.mk.injEq,and_true] at hbb
  obtain ⟨rfl,rfl⟩:=hbb
  obtain ⟨e,he⟩ : ∃ e,l[k]?.getD nd0 = e:=⟨_,rfl⟩
  have HNT : Hid (nodeT l k = (ndOk e && ((decide (k = 0) || lessH (l[k - 1]?.getD nd0).h e.h) && (e.es.all (entLead l e) && tailT l e)))):=by show _ = _; unfold nodeT; rw [he]
  have HNK0 : Hid (∀ z W,RdV W S z (ensDt e.es) → _):=fun z W rz => HNO.out k z W (by rw [he]; exact rz)
  rw [he] at HNK0
  have hle:=HLE.out k
  rw [he] at hle
  obtain ⟨x0,g0,s0⟩:=hx 0 (by omega)
  obtain ⟨x1,g1,s1⟩:=hx 1 (by omega)
  obtain ⟨x2,g2,s2⟩:=hx 2 (by omega)
  obtain ⟨x3,g3,s3⟩:=hx 3 (by omega)
  obtain ⟨x4,g4,s4⟩:=hx 4 (by omega)
  obtain ⟨x5,g5,s5⟩:=hx 5 (by omega)
  obtain ⟨x6,g6,s6⟩:=hx 6 (by omega)
  obtain ⟨x7,g7,s7⟩:=hx 7 (by omega)
  obtain ⟨x8,g8,s8⟩:=hx 8 (by omega)
  rw [he] at s0 s1 s2 s3 s4 s5 s6 s7 s8
  have HE : Hid _:=he
  clear hx he
  obtain ⟨⟨p,q,d⟩,⟨p2,q2,d2⟩,lk,vl,es⟩:=e
  obtain rfl : x0 = .i p:=s0
  obtain rfl : x1 = .i q:=s1
  obtain rfl : x2 = .bool d:=s2
  obtain rfl : x3 = .i p2:=s3
  obtain rfl : x4 = .i q2:=s4
  obtain rfl : x5 = .bool d2:=s5
  obtain rfl : x6 = .i lk:=s6
  obtain rfl : x7 = .i vl:=s7
  simp only [Nat.add_zero] at g0
  have RE : RdV wr S x8 (ensDt es):=s8
  obtain ⟨xa,xc,rfl,_⟩:=RdV.sliced RE
  have HRE0 : Hid (∀ W,Below wr.heap.size wr W → RdV W S (.slice xa es.length xc) (ensDt es)):=RdV.old RE
  clear s8 RE
  dsimp only at HNT HNK0 hle
  obtain ⟨xn,hxn⟩ : ∃ m,es.length = m:=⟨_,rfl⟩
  have HXN : Hid _:=hxn
  have HRE : Hid (∀ W,Below wr.heap.size wr W → RdV W S (.slice xa xn xc) (.rows 86 4 xn (fun i j => enCell (es[i]?.getD en0) j))):=by
   have h1 : ensDt es = .rows 86 4 xn (fun i j => enCell (es[i]?.getD en0) j):=by rw [← hxn]; rfl
   rw [h1,hxn] at HRE0; exact HRE0
  rw [hxn] at HRE0 g8 hle
  clear hxn
  have vN:=VarA.new wr 77 #[.i p,.i q,.bool d,.i p2,.i q2,.bool d2,.i lk,.i vl,.slice xa xn xc]
  haveI : Nonempty (Cls (wr.alloc (.cells #[.i p,.i q,.bool d,.i p2,.i q2,.bool d2,.i lk,.i vl,.slice xa xn xc] 77))):=Cls.ne _
  obtain ⟨n0,n1,n2,n3,n4,n5,n6,n7,n8⟩:=vN.l9
  have kN0:=Cls.cell vN.lt n0
  have kN1:=Cls.cell vN.lt n1
  have kN2:=Cls.cell vN.lt n2
  have kN3:=Cls.cell vN.lt n3
  have kN4:=Cls.cell vN.lt n4
  have kN5:=Cls.cell vN.lt n5
  have kN6:=Cls.cell vN.lt n6
  have kN7:=Cls.cell vN.lt n7
  have kN8:=Cls.cell vN.lt n8
  have kT:=Cls.cell (v0.alloc (.cells #[.i p,.i q,.bool d,.i p2,.i q2,.bool d2,.i lk,.i vl,.slice xa xn xc] 77)).lt (v0.alloc (.cells #[.i p,.i q,.bool d,.i p2,.i q2,.bool d2,.i lk,.i vl,.slice xa xn xc] 77)).l1
  clear n0 n1 n2 n3 n4 n5 n6 n7 n8
  have HNK : Hid (∀ W,Below (wr.alloc (.cells #[.i p,.i q,.bool d,.i p2,.i q2,.bool d2,.i lk,.i vl,.slice xa xn xc] 77)).heap.size (wr.alloc (.cells #[.i p,.i q,.bool d,.i p2,.i q2,.bool d2,.i lk,.i vl,.slice xa xn xc] 77)) W → _):=fun W hW => HNK0.out (.slice xa xn xc) W (HRE0.out W ((Below.newH (w:=wr) _).trans (hW.mono (by simp))))
  clear HNK0 HRE0
  obtain ⟨bo,hbo⟩ : ∃ bo,ndOk ⟨(p,q,d),(p2,q2,d2),lk,vl,es⟩ = bo:=⟨_,rfl⟩
  rw [hbo] at HNK HNT
  clear hbo
  cases bo with
  | false =>
   have HF : Hid ((List.range n).all (nodeT l) = false):=range_all_false _ _ k hlt (by rw [HNT.out]; rfl)
   clear HNT HA HR HFI HCN HRC HNO HLE HCL HE HRE
   go_wp2
   refine wp_region_cls (by kernel_rfl) (by kernel_rfl) ?_
   repeat (go_big_quiet_step (first | (go_at_call 49; exact Calls.cls (HNK.out _ (Cls.h _)))))
   refine wpQuiet_nil ?_
   rintro w' ⟨⟨w',hb'⟩,rfl⟩
   go_wp2
   go_ret
   exact ⟨by rw [HF.out]; rfl,hbel.trans (((Below.newH (w:=wr) _).trans (hb'.mono (by simp))).mono hbel.size)⟩
  | true =>
   by_cases hk0 : k = 0
   case pos =>
    subst hk0
    have HLS : Hid True:=trivial
    have HNT2 : Hid (nodeT l 0 = (es.all (entLead l ⟨(p,q,d),(p2,q2,d2),lk,vl,es⟩) && tailT l ⟨(p,q,d),(p2,q2,d2),lk,vl,es⟩)):=by rw [HNT.out]; show _ = _; simp
    clear HNT
    simp only [Nat.zero_mul,Nat.add_zero] at g0 g1 g2 g3 g4 g5 g6 g7 g8
    go_wp2
    refine wp_region_cls (by kernel_rfl) (by kernel_rfl) ?_
    repeat (go_big_quiet_step (first | (go_at_call 49; exact Calls.cls (HNK.out _ (Cls.h _)))))
    refine wpQuiet_nil ?_
    rintro w' ⟨⟨w',hb'⟩,rfl⟩
    have v0c:=(v0.alloc (.cells #[.i p,.i q,.bool d,.i p2,.i q2,.bool d2,.i lk,.i vl,.slice xa xn xc] 77)).step hb'
    have vNc : VarA w' wr.heap.size 77 #[.i p,.i q,.bool d,.i p2,.i q2,.bool d2,.i lk,.i vl,.slice xa xn xc]:=vN.step hb'
    have hbo : Below wr.heap.size wr w':=(Below.newH (w:=wr) _).trans (hb'.mono (by simp))
    have hbw:=hbel.trans (hbo.mono hbel.size)
    have HV : Hid (VarA w' _ _ _):=v0c
    have HVN : Hid (VarA w' _ _ _):=vNc
    have hc8:=vNc.c 8 rfl
    dsimp at hc8
    clear v0 vN kN0 kN1 kN2 kN3 kN4 kN5 kN6 kN7 kN8 kT c0 HNK HLS hb' v0c vNc
    go_wp2
    go_loopw [5] (fun i wq => ∃ m : Nat,m ≤ xn ∧ i = .i m ∧ Below wr.heap.size wr wq ∧ Below w.heap.size w wq ∧ VarA wq w.heap.size 26 #[.slice (some ⟨b,off,none⟩) n cap] ∧ VarA wq wr.heap.size 77 #[.i p,.i q,.bool d,.i p2,.i q2,.bool d2,.i lk,.i vl,.slice xa xn xc] ∧ Hid ((es.take m).all (entLead l ⟨(p,q,d),(p2,q2,d2),lk,vl,es⟩) = true)) (fun i _ => xn - (intOf i).toNat)
    case atStart => exact ⟨0,Nat.zero_le _,rfl,hbo,hbw,HV.out,HVN.out,by show _ = _; simp⟩
    case round =>
     clear hbo hbw HV HVN hc8
     obtain ⟨m,hm,rfl,hbo,hbq,v0,vN,HM⟩:=hrel
     have c0:=v0.l1
     obtain ⟨n0,n1,n2,n3,n4,n5,n6,n7,n8⟩:=vN.l9
     have hlT:=v0.lt
     have hlN:=vN.lt
     haveI : Nonempty (Cls wr):=Cls.ne wr
     have kT:=Cls.cell hlT c0
     have kN0:=Cls.cell hlN n0
     have kN1:=Cls.cell hlN n1
     have kN2:=Cls.cell hlN n2
     have kN8:=Cls.cell hlN n8
     by_cases hlm : m < xn
     ·obtain ⟨b2,off2,rfl,hbl2,_,hy⟩:=RdV.at (HRE.out _ hbo) hlm
      obtain ⟨en,hen⟩ : ∃ e,es[m]?.getD en0 = e:=⟨_,rfl⟩
      obtain ⟨y1,f1,t1⟩:=hy 1 (by omega)
      obtain ⟨y2,f2,t2⟩:=hy 2 (by omega)
      obtain ⟨y3,f3,t3⟩:=hy 3 (by omega)
      rw [hen] at t1 t2 t3
      obtain ⟨nm,⟨s,ino,dd⟩⟩:=en
      obtain rfl : y1 = .i s:=t1
      obtain rfl : y2 = .i ino:=t2
      obtain rfl : y3 = .bool dd:=t3
      have HEN : Hid _:=hen
      clear hy hen
      have kf1:=Cls.cell hbl2 f1
      have kf2:=Cls.cell hbl2 f2
      have kf3:=Cls.cell hbl2 f3
      have HFD : Hid (∀ W,Below wr.heap.size wr W → _):=fun W hW => HFI.out (s,ino,dd) W (hbq.trans (hW.mono hbq.size))
      have HNX : Hid (entLead l ⟨(p,q,d),(p2,q2,d2),lk,vl,es⟩ (es[m]?.getD en0) = (decide (fi l (s,ino,dd) < n) && (!dd || decide ((l[fi l (s,ino,dd)]?.getD nd0).par = (p,q,d))))):=by show _ = _; unfold entLead; rw [HEN.out,HN.out]
      go_wp2
      refine wp_region_cls (by kernel_rfl) (by kernel_rfl) ?_
      repeat (go_big_quiet_step (first | (go_at_call 33; exact Calls.cls (HFD.out _ (Cls.h _)))))
      refine wpQuiet_nil ?_
      rintro w' ⟨⟨w',hb'⟩,rfl⟩
      have v0':=v0.step hb'
      have vN':=vN.step hb'
      have hbo2:=hbo.trans (hb'.mono hbo.size)
      have hbq2:=hbq.trans (hb'.mono hbq.size)
      have f1' : w'.cell? ⟨b2,off2 + m * 4 + 1,none⟩ = some (.i s):=kf1 ⟨w',hb'⟩
      have f2' : w'.cell? ⟨b2,off2 + m * 4 + 2,none⟩ = some (.i ino):=kf2 ⟨w',hb'⟩
      have f3' : w'.cell? ⟨b2,off2 + m * 4 + 3,none⟩ = some (.bool dd):=kf3 ⟨w',hb'⟩
      have hbl2' : b2 < w'.heap.size:=Nat.lt_of_lt_of_le hbl2 hb'.size
      clear v0 vN c0 n0 n1 n2 n3 n4 n5 n6 n7 n8 hlT hlN kT kN0 kN1 kN2 kN8 kf1 kf2 kf3 f1 f2 f3 hbl2 hbo hbq hb' HFD this
      have c0:=v0'.l1
      obtain ⟨n0,n1,n2,n3,n4,n5,n6,n7,n8⟩:=vN'.l9
      haveI : Nonempty (Cls w'):=Cls.ne w'
      have kT:=Cls.cell v0'.lt c0
      have kN0:=Cls.cell vN'.lt n0
      have kN1:=Cls.cell vN'.lt n1
      have kN2:=Cls.cell vN'.lt n2
      have kN8:=Cls.cell vN'.lt n8
      have kf1:=Cls.cell hbl2' f1'
      have kf2:=Cls.cell hbl2' f2'
      have kf3:=Cls.cell hbl2' f3'
      have HFS : Hid (entLead l ⟨(p,q,d),(p2,q2,d2),lk,vl,es⟩ (es[m]?.getD en0) = false → (List.range n).all (nodeT l) = false):=fun h => range_all_false _ _ (0) hlt (by rw [HNT2.out,all_falseE _ es m (by rw [HXN.out]; exact hlm) h]; rfl)
      have HTR : Hid (entLead l ⟨(p,q,d),(p2,q2,d2),lk,vl,es⟩ (es[m]?.getD en0) = true → (es.take (m + 1)).all (entLead l ⟨(p,q,d),(p2,q2,d2),lk,vl,es⟩) = true):=fun h => all_take_nextE _ es m (by rw [HXN.out]; exact hlm) HM.out h
      rw [HNX.out] at HFS HTR
      clear HM HNX
      rcases findH_cases l (s,ino,dd) with ⟨hf1,hf2⟩ | ⟨hf1,hf2⟩
      case inr =>
       rw [HN.out] at hf1
       have HF : Hid _:=HFS.out (by simp [hf1])
       rw [hf2]
       clear HFS HTR hf1 hf2
       go_wp2
       refine wp_region_cls (by kernel_rfl) (by kernel_rfl) ?_
       repeat (go_big_quiet_step (fail))
       refine wpQuiet_nil ?_
       rintro w' ⟨⟨w',hb'⟩,rfl⟩
       go_wp2
       go_ret
       exact ⟨by rw [HF.out]; rfl,hbq2.trans (hb'.mono hbq2.size)⟩
      rw [HN.out] at hf1
      rw [hf2]
      clear hf2
      generalize fi l (s,ino,dd) = f0 at *
      have df0 : decide ((f0 : Int) < 0) = false:=by simp
      cases dd with
      | false =>
       have HF : Hid _:=HTR.out (by simp [hf1])
       clear HFS HTR
       go_wp2
       refine wp_region_cls (by kernel_rfl) (by kernel_rfl) ?_
       repeat (go_big_quiet_step (fail))
       refine wpQuiet_nil ?_
       rintro w' ⟨⟨w',hb'⟩,rfl⟩
       have v0f:=v0'.step hb'
       have vNf:=vN'.step hb'
       have hbof:=hbo2.trans (hb'.mono hbo2.size)
       have hbqf:=hbq2.trans (hb'.mono hbq2.size)
       clear v0' vN' c0 n0 n1 n2 n3 n4 n5 n6 n7 n8 kT kN0 kN1 kN2 kN8 kf1 kf2 kf3
       go_wp2
       go_roundw
       case rel => exact ⟨m + 1,by omega,by go_num,hbof,hbqf,v0f,vNf,HF.out⟩
       case measure => simp [intOf]; omega
      | true =>
       obtain ⟨b9,off9,hbb,hbl9,_,hz⟩:=RdV.at (HR.out w' hbq2) hf1
       simp only [Option.some.injEq,Addr.mk.injEq,and_true] at hbb
       obtain ⟨rfl,rfl⟩:=hbb
       obtain ⟨z3,u3,r3⟩:=hz 3 (by omega)
       obtain ⟨z4,u4,r4⟩:=hz 4 (by omega)
       obtain ⟨z5,u5,r5⟩:=hz 5 (by omega)
       generalize l[f0]?.getD nd0 = ef at r3 r4 r5 HFS HTR
       obtain ⟨hhf,⟨pp,qq,dp⟩,lkf,vlf,esf⟩:=ef
       obtain rfl : z3 = .i pp:=r3
       obtain rfl : z4 = .i qq:=r4
       obtain rfl : z5 = .bool dp:=r5
       clear hz
       have ku3:=Cls.cell hbl9 u3
       have ku4:=Cls.cell hbl9 u4
       have ku5:=Cls.cell hbl9 u5
       dsimp only at HFS HTR
       by_cases heq : ((pp,qq,dp) : Hd) = (p,q,d)
       case neg =>
        have HF : Hid _:=HFS.out (by simp [heq])
        have hne : ∀ W : World,(binOp .neq 48 (.agg #[.i pp,.i qq,.bool dp]) (.agg #[.i p,.i q,.bool d])).run Tryz.prog W = .ok (.bool true) W:=fun W => by rw [neH_run,decH_false heq]; rfl
        clear HFS HTR heq
        go_wp2
        refine wp_region_cls (by kernel_rfl) (by kernel_rfl) ?_
        repeat (go_big_quiet_step (fail))
        refine wpQuiet_nil ?_
        rintro w' ⟨⟨w',hb'⟩,rfl⟩
        go_wp2
        go_ret
        exact ⟨by rw [HF.out]; rfl,hbq2.trans (hb'.mono hbq2.size)⟩
       have HF : Hid _:=HTR.out (by simp [hf1,heq])
       have hne : ∀ W : World,(binOp .neq 48 (.agg #[.i pp,.i qq,.bool dp]) (.agg #[.i p,.i q,.bool d])).run Tryz.prog W = .ok (.bool false) W:=fun W => by rw [neH_run,decH_true heq]; rfl
       clear HFS HTR heq
       go_wp2
       refine wp_region_cls (by kernel_rfl) (by kernel_rfl) ?_
       repeat (go_big_quiet_step (fail))
       refine wpQuiet_nil ?_
       rintro w' ⟨⟨w',hb'⟩,rfl⟩
       have v0f:=v0'.step hb'
       have vNf:=vN'.step hb'
       have hbof:=hbo2.trans (hb'.mono hbo2.size)
       have hbqf:=hbq2.trans (hb'.mono hbq2.size)
       clear v0' vN' c0 n0 n1 n2 n3 n4 n5 n6 n7 n8 kT kN0 kN1 kN2 kN8 kf1 kf2 kf3 ku3 ku4 ku5 u3 u4 u5 hne
       go_wp2
       go_roundw
       case rel => exact ⟨m + 1,by omega,by go_num,hbof,hbqf,v0f,vNf,HF.out⟩
       case measure => simp [intOf]; omega
     ·obtain rfl : m = xn:=by omega
      have HAL : Hid (es.all (entLead l ⟨(p,q,d),(p2,q2,d2),lk,vl,es⟩) = true):=by
       have:=HM.out
       rwa [List.take_of_length_le (by rw [HXN.out]; exact Nat.le_refl _)] at this
      have HN3 : Hid (nodeT l (0) = tailT l ⟨(p,q,d),(p2,q2,d2),lk,vl,es⟩):=by rw [HNT2.out,HAL.out]; rfl
      clear HM HAL kT kN0 kN1 kN2 kN8
      have hcl:=HCL.out (p,q,d)
      have HCC : Hid (∀ W,Below w.heap.size w W → _):=fun W hW => HCN.out (p,q,d) W hW
      unfold tailT at HN3
      dsimp only at HN3
      generalize cntH l (p,q,d) = ct at hcl HCC HN3
      go_wp2_with fail
      refine Calls.mono (HCC.out _ hbq) ?_
      rintro e w5 ⟨rfl,b_⟩
      have v05:=v0.step b_
      have vN5:=vN.step b_
      have hbq5:=hbq.trans (b_.mono hbq.size)
      clear v0 vN c0 n0 n1 n2 n3 n4 n5 n6 n7 n8 hlT hlN hbq b_ this HCC hbo
      have c0:=v05.l1
      obtain ⟨n0,n1,n2,n3,n4,n5,n6,n7,n8⟩:=vN5.l9
      haveI : Nonempty (Cls w5):=Cls.ne w5
      have kN0:=Cls.cell vN5.lt n0
      have kN1:=Cls.cell vN5.lt n1
      have kN2:=Cls.cell vN5.lt n2
      by_cases hr : ((p,q,d) : Hd) = rootH
      ·have hne : ∀ W : World,(binOp .eql 48 (.agg #[.i p,.i q,.bool d]) (.agg #[.i 0,.i 1,.bool true])).run Tryz.prog W = .ok (.bool true) W:=fun W => by rw [eqH_run,decH_true hr]
       rw [if_pos hr] at HN3
       by_cases hz : ct = 0
       ·have HF : Hid ((List.range (0 + 1)).all (nodeT l) = true):=range_all_next _ _ HA.out (by rw [HN3.out]; simp [hz])
        subst hz
        go_wp2
        refine wp_region_cls (by kernel_rfl) (by kernel_rfl) ?_
        repeat (go_big_quiet_step (first | (go_at_call 28; exact Calls.cls_new (HRT.out _))))
        refine wpQuiet_nil ?_
        rintro w' ⟨⟨w',hb'⟩,rfl⟩
        have v0f:=v05.step hb'
        have vNf:=vN5.step hb'
        have hbqf:=hbq5.trans (hb'.mono hbq5.size)
        clear v05 vN5 kN0 kN1 kN2 c0 n0 n1 n2 n3 n4 n5 n6 n7 n8 hne
        go_wp2
        go_roundw
        case rel => exact ⟨0 + 1,by omega,by go_num,hbqf,v0f,HF.out⟩
        case measure => simp [intOf]; omega
       ·have HF : Hid ((List.range n).all (nodeT l) = false):=range_all_false _ _ (0) hlt (by rw [HN3.out]; simp [hz])
        have hzd : ((ct : Int) != 0) = true:=by simp; omega
        go_wp2
        refine wp_region_cls (by kernel_rfl) (by kernel_rfl) ?_
        repeat (go_big_quiet_step (first | (go_at_call 28; exact Calls.cls_new (HRT.out _))))
        refine wpQuiet_nil ?_
        rintro w' ⟨⟨w',hb'⟩,rfl⟩
        have v0f:=v05.step hb'
        have vNf:=vN5.step hb'
        have hbqf:=hbq5.trans (hb'.mono hbq5.size)
        clear v05 vN5 kN0 kN1 kN2 c0 n0 n1 n2 n3 n4 n5 n6 n7 n8 hne
        go_wp2
        go_ret
        exact ⟨by rw [HF.out]; rfl,hbqf⟩
      ·have hne : ∀ W : World,(binOp .eql 48 (.agg #[.i p,.i q,.bool d]) (.agg #[.i 0,.i 1,.bool true])).run Tryz.prog W = .ok (.bool false) W:=fun W => by rw [eqH_run,decH_false (fun e => hr e)]
       rw [if_neg hr] at HN3
       by_cases hz : (ct : Int) = lk
       case neg =>
        have HF : Hid ((List.range n).all (nodeT l) = false):=range_all_false _ _ (0) hlt (by rw [HN3.out]; simp [hz])
        have hzd : ((ct : Int) != lk) = true:=by simpa using hz
        go_wp2
        refine wp_region_cls (by kernel_rfl) (by kernel_rfl) ?_
        repeat (go_big_quiet_step (first | (go_at_call 28; exact Calls.cls_new (HRT.out _))))
        refine wpQuiet_nil ?_
        rintro w' ⟨⟨w',hb'⟩,rfl⟩
        have v0f:=v05.step hb'
        have vNf:=vN5.step hb'
        have hbqf:=hbq5.trans (hb'.mono hbq5.size)
        clear v05 vN5 kN0 kN1 kN2 c0 n0 n1 n2 n3 n4 n5 n6 n7 n8 hne
        have c0:=v0f.l1
        obtain ⟨n0,n1,n2,n3,n4,n5,n6,n7,n8⟩:=vNf.l9
        go_wp2
        go_ret
        exact ⟨by rw [HF.out]; rfl,hbqf⟩
       have hzd : ((ct : Int) != lk) = false:=by simpa using hz
       rw [decide_eq_true hz,Bool.true_and,HN.out] at HN3
       have HRR : Hid (∀ W,Below w.heap.size w W → _):=fun W hW => HRC.out ⟨(p,q,d),(p2,q2,d2),lk,vl,es⟩ xa m xc W hW
       generalize rch l (n + 1) ⟨(p,q,d),(p2,q2,d2),lk,vl,es⟩ = rb at HRR HN3
       clear hz
       cases rb with
       | false =>
        have HF : Hid ((List.range n).all (nodeT l) = false):=range_all_false _ _ (0) hlt HN3.out
        go_wp2
        refine wp_region_cls (by kernel_rfl) (by kernel_rfl) ?_
        repeat (go_big_quiet_step (first | (go_at_call 28; exact Calls.cls_new (HRT.out _))))
        refine wpQuiet_nil ?_
        rintro w' ⟨⟨w',hb'⟩,rfl⟩
        have v0f:=v05.step hb'
        have vNf:=vN5.step hb'
        have hbqf:=hbq5.trans (hb'.mono hbq5.size)
        clear v05 vN5 kN0 kN1 kN2 c0 n0 n1 n2 n3 n4 n5 n6 n7 n8 hne
        have c0:=v0f.l1
        obtain ⟨n0,n1,n2,n3,n4,n5,n6,n7,n8⟩:=vNf.l9
        go_wp2_with fail
        refine Calls.mono (HRR.out _ hbqf) ?_
        rintro e w7 ⟨rfl,b_⟩
        go_wp2
        go_ret
        exact ⟨by rw [HF.out]; rfl,hbqf.trans (b_.mono hbqf.size)⟩
       | true =>
        have HF : Hid ((List.range (0 + 1)).all (nodeT l) = true):=range_all_next _ _ HA.out HN3.out
        go_wp2
        refine wp_region_cls (by kernel_rfl) (by kernel_rfl) ?_
        repeat (go_big_quiet_step (first | (go_at_call 28; exact Calls.cls_new (HRT.out _))))
        refine wpQuiet_nil ?_
        rintro w' ⟨⟨w',hb'⟩,rfl⟩
        have v0f:=v05.step hb'
        have vNf:=vN5.step hb'
        have hbqf:=hbq5.trans (hb'.mono hbq5.size)
        clear v05 vN5 kN0 kN1 kN2 c0 n0 n1 n2 n3 n4 n5 n6 n7 n8 hne
        have c0:=v0f.l1
        obtain ⟨n0,n1,n2,n3,n4,n5,n6,n7,n8⟩:=vNf.l9
        go_wp2_with fail
        refine Calls.mono (HRR.out _ hbqf) ?_
        rintro e w7 ⟨rfl,b_⟩
        have v0g:=v0f.step b_
        have hbqg:=hbqf.trans (b_.mono hbqf.size)
        clear v0f vNf c0 n0 n1 n2 n3 n4 n5 n6 n7 n8
        go_wp2
        go_roundw
        case rel => exact ⟨0 + 1,by omega,by go_num,hbqg,v0g,HF.out⟩
        case measure => simp [intOf]; omega
   obtain ⟨j,rfl⟩ : ∃ j,k = j + 1:=⟨k - 1,by omega⟩
   obtain ⟨b9,off9,hbb,hbl9,_,hz⟩:=RdV.at (HR.out wr hbel) (show j < n by omega)
   simp only [Option.some.injEq,Addr.mk.injEq,and_true] at hbb
   obtain ⟨rfl,rfl⟩:=hbb
   obtain ⟨z0,u0,r0⟩:=hz 0 (by omega)
   obtain ⟨z1,u1,r1⟩:=hz 1 (by omega)
   obtain ⟨z2,u2,r2⟩:=hz 2 (by omega)
   have HNT1 : Hid (nodeT l (j + 1) = (lessH (l[j]?.getD nd0).h (p,q,d) && (es.all (entLead l ⟨(p,q,d),(p2,q2,d2),lk,vl,es⟩) && tailT l ⟨(p,q,d),(p2,q2,d2),lk,vl,es⟩))):=by rw [HNT.out]; show _ = _; simp
   clear HNT hz
   generalize l[j]?.getD nd0 = ef at r0 r1 r2 HNT1
   obtain ⟨⟨pp,qq,dp⟩,parf,lkf,vlf,esf⟩:=ef
   obtain rfl : z0 = .i pp:=r0
   obtain rfl : z1 = .i qq:=r1
   obtain rfl : z2 = .bool dp:=r2
   simp only [Nat.add_zero] at u0
   dsimp only at HNT1
   have HLS : Hid (∀ W,_):=fun W => specLess_any (pp,qq,dp) (p,q,d) W
   generalize lessH (pp,qq,dp) (p,q,d) = bl at HLS HNT1
   have hbl3 : b < (wr.alloc (.cells #[.i p,.i q,.bool d,.i p2,.i q2,.bool d2,.i lk,.i vl,.slice xa xn xc] 77)).heap.size:=by simp; omega
   have ku0:=Cls.cell hbl3 (((Below.newH (w:=wr) (.cells #[.i p,.i q,.bool d,.i p2,.i q2,.bool d2,.i lk,.i vl,.slice xa xn xc] 77)).cell (p:=⟨b,off + j * 9,none⟩) hbl9).trans u0)
   have ku1:=Cls.cell hbl3 (((Below.newH (w:=wr) (.cells #[.i p,.i q,.bool d,.i p2,.i q2,.bool d2,.i lk,.i vl,.slice xa xn xc] 77)).cell (p:=⟨b,off + j * 9 + 1,none⟩) hbl9).trans u1)
   have ku2:=Cls.cell hbl3 (((Below.newH (w:=wr) (.cells #[.i p,.i q,.bool d,.i p2,.i q2,.bool d2,.i lk,.i vl,.slice xa xn xc] 77)).cell (p:=⟨b,off + j * 9 + 2,none⟩) hbl9).trans u2)
   cases bl with
   | false =>
    have HF : Hid ((List.range n).all (nodeT l) = false):=range_all_false _ _ (j + 1) hlt (by rw [HNT1.out]; rfl)
    clear HNT1 HA HR HFI HCN HRC HNO HLE HCL HE HRE
    go_wp2
    refine wp_region_cls (by kernel_rfl) (by kernel_rfl) ?_
    repeat (go_big_quiet_step (first | (go_at_call 49; exact Calls.cls (HNK.out _ (Cls.h _))) | (go_at_call 50; exact Calls.cls (HLS.out _))))
    refine wpQuiet_nil ?_
    rintro w' ⟨⟨w',hb'⟩,rfl⟩
    go_wp2
    go_ret
    exact ⟨by rw [HF.out]; rfl,hbel.trans (((Below.newH (w:=wr) _).trans (hb'.mono (by simp))).mono hbel.size)⟩
   | true =>
    have HNT2 : Hid (nodeT l (j + 1) = (es.all (entLead l ⟨(p,q,d),(p2,q2,d2),lk,vl,es⟩) && tailT l ⟨(p,q,d),(p2,q2,d2),lk,vl,es⟩)):=by rw [HNT1.out]; rfl
    clear HNT1
    go_wp2
    refine wp_region_cls (by kernel_rfl) (by kernel_rfl) ?_
    repeat (go_big_quiet_step (first | (go_at_call 49; exact Calls.cls (HNK.out _ (Cls.h _))) | (go_at_call 50; exact Calls.cls (HLS.out _))))
    refine wpQuiet_nil ?_
    rintro w' ⟨⟨w',hb'⟩,rfl⟩
    clear ku0 ku1 ku2 u0 u1 u2
    have v0c:=(v0.alloc (.cells #[.i p,.i q,.bool d,.i p2,.i q2,.bool d2,.i lk,.i vl,.slice xa xn xc] 77)).step hb'
    have vNc : VarA w' wr.heap.size 77 #[.i p,.i q,.bool d,.i p2,.i q2,.bool d2,.i lk,.i vl,.slice xa xn xc]:=vN.step hb'
    have hbo : Below wr.heap.size wr w':=(Below.newH (w:=wr) _).trans (hb'.mono (by simp))
    have hbw:=hbel.trans (hbo.mono hbel.size)
    have HV : Hid (VarA w' _ _ _):=v0c
    have HVN : Hid (VarA w' _ _ _):=vNc
    have hc8:=vNc.c 8 rfl
    dsimp at hc8
    clear v0 vN kN0 kN1 kN2 kN3 kN4 kN5 kN6 kN7 kN8 kT c0 HNK HLS hb' v0c vNc
    go_wp2
    go_loopw [5] (fun i wq => ∃ m : Nat,m ≤ xn ∧ i = .i m ∧ Below wr.heap.size wr wq ∧ Below w.heap.size w wq ∧ VarA wq w.heap.size 26 #[.slice (some ⟨b,off,none⟩) n cap] ∧ VarA wq wr.heap.size 77 #[.i p,.i q,.bool d,.i p2,.i q2,.bool d2,.i lk,.i vl,.slice xa xn xc] ∧ Hid ((es.take m).all (entLead l ⟨(p,q,d),(p2,q2,d2),lk,vl,es⟩) = true)) (fun i _ => xn - (intOf i).toNat)
    case atStart => exact ⟨0,Nat.zero_le _,rfl,hbo,hbw,HV.out,HVN.out,by show _ = _; simp⟩
    case round =>
     clear hbo hbw HV HVN hc8
     obtain ⟨m,hm,rfl,hbo,hbq,v0,vN,HM⟩:=hrel
     have c0:=v0.l1
     obtain ⟨n0,n1,n2,n3,n4,n5,n6,n7,n8⟩:=vN.l9
     have hlT:=v0.lt
     have hlN:=vN.lt
     haveI : Nonempty (Cls wr):=Cls.ne wr
     have kT:=Cls.cell hlT c0
     have kN0:=Cls.cell hlN n0
     have kN1:=Cls.cell hlN n1
     have kN2:=Cls.cell hlN n2
     have kN8:=Cls.cell hlN n8
     by_cases hlm : m < xn
     ·obtain ⟨b2,off2,rfl,hbl2,_,hy⟩:=RdV.at (HRE.out _ hbo) hlm
      obtain ⟨en,hen⟩ : ∃ e,es[m]?.getD en0 = e:=⟨_,rfl⟩
      obtain ⟨y1,f1,t1⟩:=hy 1 (by omega)
      obtain ⟨y2,f2,t2⟩:=hy 2 (by omega)
      obtain ⟨y3,f3,t3⟩:=hy 3 (by omega)
      rw [hen] at t1 t2 t3
      obtain ⟨nm,⟨s,ino,dd⟩⟩:=en
      obtain rfl : y1 = .i s:=t1
      obtain rfl : y2 = .i ino:=t2
      obtain rfl : y3 = .bool dd:=t3
      have HEN : Hid _:=hen
      clear hy hen
      have kf1:=Cls.cell hbl2 f1
      have kf2:=Cls.cell hbl2 f2
      have kf3:=Cls.cell hbl2 f3
      have HFD : Hid (∀ W,Below wr.heap.size wr W → _):=fun W hW => HFI.out (s,ino,dd) W (hbq.trans (hW.mono hbq.size))
      have HNX : Hid (entLead l ⟨(p,q,d),(p2,q2,d2),lk,vl,es⟩ (es[m]?.getD en0) = (decide (fi l (s,ino,dd) < n) && (!dd || decide ((l[fi l (s,ino,dd)]?.getD nd0).par = (p,q,d))))):=by show _ = _; unfold entLead; rw [HEN.out,HN.out]
      go_wp2
      refine wp_region_cls (by kernel_rfl) (by kernel_rfl) ?_
      repeat (go_big_quiet_step (first | (go_at_call 33; exact Calls.cls (HFD.out _ (Cls.h _)))))
      refine wpQuiet_nil ?_
      rintro w' ⟨⟨w',hb'⟩,rfl⟩
      have v0':=v0.step hb'
      have vN':=vN.step hb'
      have hbo2:=hbo.trans (hb'.mono hbo.size)
      have hbq2:=hbq.trans (hb'.mono hbq.size)
      have f1' : w'.cell? ⟨b2,off2 + m * 4 + 1,none⟩ = some (.i s):=kf1 ⟨w',hb'⟩
      have f2' : w'.cell? ⟨b2,off2 + m * 4 + 2,none⟩ = some (.i ino):=kf2 ⟨w',hb'⟩
      have f3' : w'.cell? ⟨b2,off2 + m * 4 + 3,none⟩ = some (.bool dd):=kf3 ⟨w',hb'⟩
      have hbl2' : b2 < w'.heap.size:=Nat.lt_of_lt_of_le hbl2 hb'.size
      clear v0 vN c0 n0 n1 n2 n3 n4 n5 n6 n7 n8 hlT hlN kT kN0 kN1 kN2 kN8 kf1 kf2 kf3 f1 f2 f3 hbl2 hbo hbq hb' HFD this
      have c0:=v0'.l1
      obtain ⟨n0,n1,n2,n3,n4,n5,n6,n7,n8⟩:=vN'.l9
      haveI : Nonempty (Cls w'):=Cls.ne w'
      have kT:=Cls.cell v0'.lt c0
      have kN0:=Cls.cell vN'.lt n0
      have kN1:=Cls.cell vN'.lt n1
      have kN2:=Cls.cell vN'.lt n2
      have kN8:=Cls.cell vN'.lt n8
      have kf1:=Cls.cell hbl2' f1'
      have kf2:=Cls.cell hbl2' f2'
      have kf3:=Cls.cell hbl2' f3'
      have HFS : Hid (entLead l ⟨(p,q,d),(p2,q2,d2),lk,vl,es⟩ (es[m]?.getD en0) = false → (List.range n).all (nodeT l) = false):=fun h => range_all_false _ _ (j + 1) hlt (by rw [HNT2.out,all_falseE _ es m (by rw [HXN.out]; exact hlm) h]; rfl)
      have HTR : Hid (entLead l ⟨(p,q,d),(p2,q2,d2),lk,vl,es⟩ (es[m]?.getD en0) = true → (es.take (m + 1)).all (entLead l ⟨(p,q,d),(p2,q2,d2),lk,vl,es⟩) = true):=fun h => all_take_nextE _ es m (by rw [HXN.out]; exact hlm) HM.out h
      rw [HNX.out] at HFS HTR
      clear HM HNX
      rcases findH_cases l (s,ino,dd) with ⟨hf1,hf2⟩ | ⟨hf1,hf2⟩
      case inr =>
       rw [HN.out] at hf1
       have HF : Hid _:=HFS.out (by simp [hf1])
       rw [hf2]
       clear HFS HTR hf1 hf2
       go_wp2
       refine wp_region_cls (by kernel_rfl) (by kernel_rfl) ?_
       repeat (go_big_quiet_step (fail))
       refine wpQuiet_nil ?_
       rintro w' ⟨⟨w',hb'⟩,rfl⟩
       go_wp2
       go_ret
       exact ⟨by rw [HF.out]; rfl,hbq2.trans (hb'.mono hbq2.size)⟩
      rw [HN.out] at hf1
      rw [hf2]
      clear hf2
      generalize fi l (s,ino,dd) = f0 at *
      have df0 : decide ((f0 : Int) < 0) = false:=by simp
      cases dd with
      | false =>
       have HF : Hid _:=HTR.out (by simp [hf1])
       clear HFS HTR
       go_wp2
       refine wp_region_cls (by kernel_rfl) (by kernel_rfl) ?_
       repeat (go_big_quiet_step (fail))
       refine wpQuiet_nil ?_
       rintro w' ⟨⟨w',hb'⟩,rfl⟩
       have v0f:=v0'.step hb'
       have vNf:=vN'.step hb'
       have hbof:=hbo2.trans (hb'.mono hbo2.size)
       have hbqf:=hbq2.trans (hb'.mono hbq2.size)
       clear v0' vN' c0 n0 n1 n2 n3 n4 n5 n6 n7 n8 kT kN0 kN1 kN2 kN8 kf1 kf2 kf3
       go_wp2
       go_roundw
       case rel => exact ⟨m + 1,by omega,by go_num,hbof,hbqf,v0f,vNf,HF.out⟩
       case measure => simp [intOf]; omega
      | true =>
       obtain ⟨b9,off9,hbb,hbl9,_,hz⟩:=RdV.at (HR.out w' hbq2) hf1
       simp only [Option.some.injEq,Addr.mk.injEq,and_true] at hbb
       obtain ⟨rfl,rfl⟩:=hbb
       obtain ⟨z3,u3,r3⟩:=hz 3 (by omega)
       obtain ⟨z4,u4,r4⟩:=hz 4 (by omega)
       obtain ⟨z5,u5,r5⟩:=hz 5 (by omega)
       generalize l[f0]?.getD nd0 = ef at r3 r4 r5 HFS HTR
       obtain ⟨hhf,⟨pp,qq,dp⟩,lkf,vlf,esf⟩:=ef
       obtain rfl : z3 = .i pp:=r3
       obtain rfl : z4 = .i qq:=r4
       obtain rfl : z5 = .bool dp:=r5
       clear hz
       have ku3:=Cls.cell hbl9 u3
       have ku4:=Cls.cell hbl9 u4
       have ku5:=Cls.cell hbl9 u5
       dsimp only at HFS HTR
       by_cases heq : ((pp,qq,dp) : Hd) = (p,q,d)
       case neg =>
        have HF : Hid _:=HFS.out (by simp [heq])
        have hne : ∀ W : World,(binOp .neq 48 (.agg #[.i pp,.i qq,.bool dp]) (.agg #[.i p,.i q,.bool d])).run Tryz.prog W = .ok (.bool true) W:=fun W => by rw [neH_run,decH_false heq]; rfl
        clear HFS HTR heq
        go_wp2
        refine wp_region_cls (by kernel_rfl) (by kernel_rfl) ?_
        repeat (go_big_quiet_step (fail))
        refine wpQuiet_nil ?_
        rintro w' ⟨⟨w',hb'⟩,rfl⟩
        go_wp2
        go_ret
        exact ⟨by rw [HF.out]; rfl,hbq2.trans (hb'.mono hbq2.size)⟩
       have HF : Hid _:=HTR.out (by simp [hf1,heq])
       have hne : ∀ W : World,(binOp .neq 48 (.agg #[.i pp,.i qq,.bool dp]) (.agg #[.i p,.i q,.bool d])).run Tryz.prog W = .ok (.bool false) W:=fun W => by rw [neH_run,decH_true heq]; rfl
       clear HFS HTR heq
       go_wp2
       refine wp_region_cls (by kernel_rfl) (by kernel_rfl) ?_
       repeat (go_big_quiet_step (fail))
       refine wpQuiet_nil ?_
       rintro w' ⟨⟨w',hb'⟩,rfl⟩
       have v0f:=v0'.step hb'
       have vNf:=vN'.step hb'
       have hbof:=hbo2.trans (hb'.mono hbo2.size)
       have hbqf:=hbq2.trans (hb'.mono hbq2.size)
       clear v0' vN' c0 n0 n1 n2 n3 n4 n5 n6 n7 n8 kT kN0 kN1 kN2 kN8 kf1 kf2 kf3 ku3 ku4 ku5 u3 u4 u5 hne
       go_wp2
       go_roundw
       case rel => exact ⟨m + 1,by omega,by go_num,hbof,hbqf,v0f,vNf,HF.out⟩
       case measure => simp [intOf]; omega
     ·obtain rfl : m = xn:=by omega
      have HAL : Hid (es.all (entLead l ⟨(p,q,d),(p2,q2,d2),lk,vl,es⟩) = true):=by
       have:=HM.out
       rwa [List.take_of_length_le (by rw [HXN.out]; exact Nat.le_refl _)] at this
      have HN3 : Hid (nodeT l (j + 1) = tailT l ⟨(p,q,d),(p2,q2,d2),lk,vl,es⟩):=by rw [HNT2.out,HAL.out]; rfl
      clear HM HAL kT kN0 kN1 kN2 kN8
      have hcl:=HCL.out (p,q,d)
      have HCC : Hid (∀ W,Below w.heap.size w W → _):=fun W hW => HCN.out (p,q,d) W hW
      unfold tailT at HN3
      dsimp only at HN3
      generalize cntH l (p,q,d) = ct at hcl HCC HN3
      go_wp2_with fail
      refine Calls.mono (HCC.out _ hbq) ?_
      rintro e w5 ⟨rfl,b_⟩
      have v05:=v0.step b_
      have vN5:=vN.step b_
      have hbq5:=hbq.trans (b_.mono hbq.size)
      clear v0 vN c0 n0 n1 n2 n3 n4 n5 n6 n7 n8 hlT hlN hbq b_ this HCC hbo
      have c0:=v05.l1
      obtain ⟨n0,n1,n2,n3,n4,n5,n6,n7,n8⟩:=vN5.l9
      haveI : Nonempty (Cls w5):=Cls.ne w5
      have kN0:=Cls.cell vN5.lt n0
      have kN1:=Cls.cell vN5.lt n1
      have kN2:=Cls.cell vN5.lt n2
      by_cases hr : ((p,q,d) : Hd) = rootH
      ·have hne : ∀ W : World,(binOp .eql 48 (.agg #[.i p,.i q,.bool d]) (.agg #[.i 0,.i 1,.bool true])).run Tryz.prog W = .ok (.bool true) W:=fun W => by rw [eqH_run,decH_true hr]
       rw [if_pos hr] at HN3
       by_cases hz : ct = 0
       ·have HF : Hid ((List.range (j + 1 + 1)).all (nodeT l) = true):=range_all_next _ _ HA.out (by rw [HN3.out]; simp [hz])
        subst hz
        go_wp2
        refine wp_region_cls (by kernel_rfl) (by kernel_rfl) ?_
        repeat (go_big_quiet_step (first | (go_at_call 28; exact Calls.cls_new (HRT.out _))))
        refine wpQuiet_nil ?_
        rintro w' ⟨⟨w',hb'⟩,rfl⟩
        have v0f:=v05.step hb'
        have vNf:=vN5.step hb'
        have hbqf:=hbq5.trans (hb'.mono hbq5.size)
        clear v05 vN5 kN0 kN1 kN2 c0 n0 n1 n2 n3 n4 n5 n6 n7 n8 hne
        go_wp2
        go_roundw
        case rel => exact ⟨j + 1 + 1,by omega,by go_num,hbqf,v0f,HF.out⟩
        case measure => simp [intOf]; omega
       ·have HF : Hid ((List.range n).all (nodeT l) = false):=range_all_false _ _ (j + 1) hlt (by rw [HN3.out]; simp [hz])
        have hzd : ((ct : Int) != 0) = true:=by simp; omega
        go_wp2
        refine wp_region_cls (by kernel_rfl) (by kernel_rfl) ?_
        repeat (go_big_quiet_step (first | (go_at_call 28; exact Calls.cls_new (HRT.out _))))
        refine wpQuiet_nil ?_
        rintro w' ⟨⟨w',hb'⟩,rfl⟩
        have v0f:=v05.step hb'
        have vNf:=vN5.step hb'
        have hbqf:=hbq5.trans (hb'.mono hbq5.size)
        clear v05 vN5 kN0 kN1 kN2 c0 n0 n1 n2 n3 n4 n5 n6 n7 n8 hne
        go_wp2
        go_ret
        exact ⟨by rw [HF.out]; rfl,hbqf⟩
      ·have hne : ∀ W : World,(binOp .eql 48 (.agg #[.i p,.i q,.bool d]) (.agg #[.i 0,.i 1,.bool true])).run Tryz.prog W = .ok (.bool false) W:=fun W => by rw [eqH_run,decH_false (fun e => hr e)]
       rw [if_neg hr] at HN3
       by_cases hz : (ct : Int) = lk
       case neg =>
        have HF : Hid ((List.range n).all (nodeT l) = false):=range_all_false _ _ (j + 1) hlt (by rw [HN3.out]; simp [hz])
        have hzd : ((ct : Int) != lk) = true:=by simpa using hz
        go_wp2
        refine wp_region_cls (by kernel_rfl) (by kernel_rfl) ?_
        repeat (go_big_quiet_step (first | (go_at_call 28; exact Calls.cls_new (HRT.out _))))
        refine wpQuiet_nil ?_
        rintro w' ⟨⟨w',hb'⟩,rfl⟩
        have v0f:=v05.step hb'
        have vNf:=vN5.step hb'
        have hbqf:=hbq5.trans (hb'.mono hbq5.size)
        clear v05 vN5 kN0 kN1 kN2 c0 n0 n1 n2 n3 n4 n5 n6 n7 n8 hne
        have c0:=v0f.l1
        obtain ⟨n0,n1,n2,n3,n4,n5,n6,n7,n8⟩:=vNf.l9
        go_wp2
        go_ret
        exact ⟨by rw [HF.out]; rfl,hbqf⟩
       have hzd : ((ct : Int) != lk) = false:=by simpa using hz
       rw [decide_eq_true hz,Bool.true_and,HN.out] at HN3
       have HRR : Hid (∀ W,Below w.heap.size w W → _):=fun W hW => HRC.out ⟨(p,q,d),(p2,q2,d2),lk,vl,es⟩ xa m xc W hW
       generalize rch l (n + 1) ⟨(p,q,d),(p2,q2,d2),lk,vl,es⟩ = rb at HRR HN3
       clear hz
       cases rb with
       | false =>
        have HF : Hid ((List.range n).all (nodeT l) = false):=range_all_false _ _ (j + 1) hlt HN3.out
        go_wp2
        refine wp_region_cls (by kernel_rfl) (by kernel_rfl) ?_
        repeat (go_big_quiet_step (first | (go_at_call 28; exact Calls.cls_new (HRT.out _))))
        refine wpQuiet_nil ?_
        rintro w' ⟨⟨w',hb'⟩,rfl⟩
        have v0f:=v05.step hb'
        have vNf:=vN5.step hb'
        have hbqf:=hbq5.trans (hb'.mono hbq5.size)
        clear v05 vN5 kN0 kN1 kN2 c0 n0 n1 n2 n3 n4 n5 n6 n7 n8 hne
        have c0:=v0f.l1
        obtain ⟨n0,n1,n2,n3,n4,n5,n6,n7,n8⟩:=vNf.l9
        go_wp2_with fail
        refine Calls.mono (HRR.out _ hbqf) ?_
        rintro e w7 ⟨rfl,b_⟩
        go_wp2
        go_ret
        exact ⟨by rw [HF.out]; rfl,hbqf.trans (b_.mono hbqf.size)⟩
       | true =>
        have HF : Hid ((List.range (j + 1 + 1)).all (nodeT l) = true):=range_all_next _ _ HA.out HN3.out
        go_wp2
        refine wp_region_cls (by kernel_rfl) (by kernel_rfl) ?_
        repeat (go_big_quiet_step (first | (go_at_call 28; exact Calls.cls_new (HRT.out _))))
        refine wpQuiet_nil ?_
        rintro w' ⟨⟨w',hb'⟩,rfl⟩
        have v0f:=v05.step hb'
        have vNf:=vN5.step hb'
        have hbqf:=hbq5.trans (hb'.mono hbq5.size)
        clear v05 vN5 kN0 kN1 kN2 c0 n0 n1 n2 n3 n4 n5 n6 n7 n8 hne
        have c0:=v0f.l1
        obtain ⟨n0,n1,n2,n3,n4,n5,n6,n7,n8⟩:=vNf.l9
        go_wp2_with fail
        refine Calls.mono (HRR.out _ hbqf) ?_
        rintro e w7 ⟨rfl,b_⟩
        have v0g:=v0f.step b_
        have hbqg:=hbqf.trans (b_.mono hbqf.size)
        clear v0f vNf c0 n0 n1 n2 n3 n4 n5 n6 n7 n8
        go_wp2
        go_roundw
        case rel => exact ⟨j + 1 + 1,by omega,by go_num,hbqg,v0g,HF.out⟩
        case measure => simp [intOf]; omega
end Go.Proofs.YtblahkhniabhiaaGreatDoor
