/- The program's TreeOk. Condition: at most 2^21 of all. -/
import Derived.Test.YtblahkhniabhiaaGreatDoorFA06
namespace Go.Proofs.YtblahkhniabhiaaGreatDoor
open Go.RowKit
set_option linter.unusedVariables false
set_option maxRecDepth 100000
set_option linter.unusedSimpArgs false

set_option maxRecDepth 100000 in
set_option maxHeartbeats 1000000 in
theorem implTree_any (x : Value) (l : List Nd) (S : Nat → Prop) (w : World) (r : RdV w S x (ndsDt l)) (hl : szNds l ≤ 2097152) :
    Calls Tryz.prog 81 #[.agg #[x]] w fun e w' => e = .returned (.bool (treeI l)) ∧ Below w.heap.size w w':=by
  obtain ⟨a,cap,rfl,_⟩:=RdV.sliced r
  have hl1 : l.length ≤ 2097152:=by unfold szNds at hl; omega
  have HR0 : Hid (RdV w S (.slice a l.length cap) (ndsDt l)):=r
  have HR : Hid (∀ W,Below w.heap.size w W → RdV W S (.slice a l.length cap) (ndsDt l)):=RdV.old r
  have HAS : Hid (∀ W,Below w.heap.size w W → _):=fun W hW => ascending_any _ l S W (HR.out W hW) hl1
  have HSZ : Hid (∀ i,i < l.length → szEns (l[i]?.getD nd0).es ≤ 2097152):=fun i hi => by have:=szNds_at l i; omega
  have HRT : Hid (∀ W,_):=fun W => implRootH_any W
  obtain ⟨n,hn⟩ : ∃ n,l.length = n:=⟨_,rfl⟩
  have HN : Hid (l.length = n):=hn
  have HV : Hid (treeI l = ((decide (1 ≤ n) && (decide (n ≤ 240) && ascL l)) && ((decide ((l[0]?.getD nd0).h = rootH) && decide ((l[0]?.getD nd0).par = rootH)) && ((List.range n).all (ndIAt l) && (leadR (atH l n) l && (List.range n).all (climbAt (atH l n) n l)))))):=by show _ = _; unfold treeI; rw [hn]
  rw [hn] at HR HAS hl1 HSZ ⊢
  clear r hl HR0
  by_cases hn1 : 1 ≤ n ∧ n ≤ 240
  case neg =>
    have HF : Hid (treeI l = false):=by
      rw [HV.out]; show _ = _
      rw [Bool.eq_false_iff]; intro h
      simp only [Bool.and_eq_true,decide_eq_true_eq] at h
      exact hn1 ⟨h.1.1,h.1.2.1⟩
    rw [HF.out]
    clear HV HF HAS HR HSZ HN hn
    go_enter Tryz.func81,Tryz.ntmps81
    go_wp2_with fail
    all_goals first | (go_ret; exact ⟨rfl,Below.newH _⟩) | (exfalso; omega)
  obtain ⟨h1,h240⟩:=hn1
  obtain ⟨asc,has⟩ : ∃ asc,ascL l = asc:=⟨_,rfl⟩
  have HAE : Hid (ascL l = asc):=has
  rw [has] at HAS
  have v0 : VarA (w.alloc (.cells #[.slice a n cap] 26)) w.heap.size 26 #[.slice a n cap]:=VarA.new w _ _
  have c0:=v0.l1
  have HB0 : Hid (Below w.heap.size w (w.alloc (.cells #[.slice a n cap] 26))):=Below.newH _
  clear hn has
  cases asc with
  | false =>
    have HF : Hid (treeI l = false):=by rw [HV.out,HAE.out]; show _ = _; simp
    rw [HF.out]
    clear HV HF HSZ HR
    go_enter Tryz.func81,Tryz.ntmps81
    go_wp2_with fail
    refine Calls.mono (HAS.out _ HB0.out) ?_
    rintro e w2 ⟨rfl,b_⟩
    have hb2:=HB0.out.trans (b_.mono HB0.out.size)
    clear v0 c0 b_
    go_wp2
    go_ret
    exact ⟨rfl,hb2⟩
  | true =>
  have HV2 : Hid (treeI l = ((decide ((l[0]?.getD nd0).h = rootH) && decide ((l[0]?.getD nd0).par = rootH)) && ((List.range n).all (ndIAt l) && (leadR (atH l n) l && (List.range n).all (climbAt (atH l n) n l))))):=by rw [HV.out,HAE.out]; show _ = _; simp [h1,h240]
  rw [HV2.out]
  have HONE : Hid (OneH l):=ascL_one HAE.out
  have HRR : Hid (∀ W,Below w.heap.size w W → RdV W S (.slice a n cap) (.rows 77 9 n (fun i j => ndCell (l[i]?.getD nd0) j))):=fun W hW => by
    have h9:=HR.out W hW; unfold ndsDt at h9; rw [HN.out] at h9; exact h9
  clear HV HV2 HAE
  go_enter Tryz.func81,Tryz.ntmps81
  go_wp2_with fail
  refine Calls.mono (HAS.out _ HB0.out) ?_
  rintro e w2 ⟨rfl,b_⟩
  have hb2:=HB0.out.trans (b_.mono HB0.out.size)
  have v2:=v0.step b_
  clear v0 c0 b_ HAS HB0
  have c0:=v2.l1
  obtain ⟨b,off,rfl,hbl,_,hx⟩:=RdV.at (HRR.out w2 hb2) (show 0 < n by omega)
  obtain ⟨x0,g0,s0⟩:=hx 0 (by omega)
  obtain ⟨x1,g1,s1⟩:=hx 1 (by omega)
  obtain ⟨x2,g2,s2⟩:=hx 2 (by omega)
  obtain ⟨x3,g3,s3⟩:=hx 3 (by omega)
  obtain ⟨x4,g4,s4⟩:=hx 4 (by omega)
  obtain ⟨x5,g5,s5⟩:=hx 5 (by omega)
  obtain ⟨x6,g6,s6⟩:=hx 6 (by omega)
  obtain ⟨x7,g7,s7⟩:=hx 7 (by omega)
  obtain ⟨x8,g8,s8⟩:=hx 8 (by omega)
  clear hx
  obtain ⟨e,he⟩ : ∃ e,l[0]?.getD nd0 = e:=⟨_,rfl⟩
  have HE0 : Hid (l[0]?.getD nd0 = e):=he
  rw [he] at s0 s1 s2 s3 s4 s5 s6 s7 s8
  clear he
  obtain ⟨⟨p,q,d⟩,⟨p2,q2,d2⟩,lk,vl,es⟩:=e
  obtain rfl : x0 = .i p:=s0
  obtain rfl : x1 = .i q:=s1
  obtain rfl : x2 = .bool d:=s2
  obtain rfl : x3 = .i p2:=s3
  obtain rfl : x4 = .i q2:=s4
  obtain rfl : x5 = .bool d2:=s5
  obtain rfl : x6 = .i lk:=s6
  obtain rfl : x7 = .i vl:=s7
  have S8 : RdV w2 S x8 (ensDt es):=s8
  obtain ⟨xa,xc,rfl,_⟩:=RdV.sliced S8
  generalize es.length = xn at g8
  clear S8 s8
  simp only [Nat.zero_mul,Nat.add_zero] at g0 g1 g2 g3 g4 g5 g6 g7 g8
  have VN:=VarA.new w2 77 #[.i p,.i q,.bool d,.i p2,.i q2,.bool d2,.i lk,.i vl,.slice xa xn xc]
  obtain ⟨n0,n1,n2,n3,n4,n5,n6,n7,n8⟩:=VN.l9
  haveI : Nonempty (Cls (w2.alloc (.cells #[.i p,.i q,.bool d,.i p2,.i q2,.bool d2,.i lk,.i vl,.slice xa xn xc] 77))):=Cls.ne _
  have k0:=Cls.cell VN.lt n0
  have k1:=Cls.cell VN.lt n1
  have k2:=Cls.cell VN.lt n2
  have k3:=Cls.cell VN.lt n3
  have k4:=Cls.cell VN.lt n4
  have k5:=Cls.cell VN.lt n5
  clear n0 n1 n2 n3 n4 n5 n6 n7 n8
  have v3:=v2.alloc (.cells #[.i p,.i q,.bool d,.i p2,.i q2,.bool d2,.i lk,.i vl,.slice xa xn xc] 77)
  have HB3 : Hid (Below w.heap.size w (w2.alloc (.cells #[.i p,.i q,.bool d,.i p2,.i q2,.bool d2,.i lk,.i vl,.slice xa xn xc] 77))):=hb2.alloc hb2.size _
  by_cases h3 : ((p,q,d) : Hd) = rootH
  case neg =>
    have hne : ∀ W : World,(binOp .neq 48 (.agg #[.i p,.i q,.bool d]) (.agg #[.i 0,.i 1,.bool true])).run Tryz.prog W = .ok (.bool true) W:=fun W => by rw [neH_run,decH_false h3]; rfl
    have HF : Hid (((decide ((l[0]?.getD nd0).h = rootH) && decide ((l[0]?.getD nd0).par = rootH)) && ((List.range n).all (ndIAt l) && (leadR (atH l n) l && (List.range n).all (climbAt (atH l n) n l)))) = false):=by rw [HE0.out]; show _ = _; simp [h3]
    clear h3 k3 k4 k5
    go_wp2
    refine wp_region_cls (by kernel_rfl) (by kernel_rfl) ?_
    repeat (go_big_quiet_step (first | (go_at_call 65; exact Calls.cls_new (HRT.out _))))
    refine wpQuiet_nil ?_
    rintro w' ⟨⟨w',hb'⟩,rfl⟩
    go_wp2
    go_ret
    exact ⟨by rw [HF.out]; rfl,HB3.out.trans (hb'.mono HB3.out.size)⟩
  have hne : ∀ W : World,(binOp .neq 48 (.agg #[.i p,.i q,.bool d]) (.agg #[.i 0,.i 1,.bool true])).run Tryz.prog W = .ok (.bool false) W:=fun W => by rw [neH_run,decH_true h3]; rfl
  by_cases h4 : ((p2,q2,d2) : Hd) = rootH
  case neg =>
    have hne2 : ∀ W : World,(binOp .neq 48 (.agg #[.i p2,.i q2,.bool d2]) (.agg #[.i 0,.i 1,.bool true])).run Tryz.prog W = .ok (.bool true) W:=fun W => by rw [neH_run,decH_false h4]; rfl
    have HF : Hid (((decide ((l[0]?.getD nd0).h = rootH) && decide ((l[0]?.getD nd0).par = rootH)) && ((List.range n).all (ndIAt l) && (leadR (atH l n) l && (List.range n).all (climbAt (atH l n) n l)))) = false):=by rw [HE0.out]; show _ = _; simp [h4]
    clear h3 h4
    go_wp2
    refine wp_region_cls (by kernel_rfl) (by kernel_rfl) ?_
    repeat (go_big_quiet_step (first | (go_at_call 65; exact Calls.cls_new (HRT.out _))))
    refine wpQuiet_nil ?_
    rintro w' ⟨⟨w',hb'⟩,rfl⟩
    go_wp2
    go_ret
    exact ⟨by rw [HF.out]; rfl,HB3.out.trans (hb'.mono HB3.out.size)⟩
  have hne2 : ∀ W : World,(binOp .neq 48 (.agg #[.i p2,.i q2,.bool d2]) (.agg #[.i 0,.i 1,.bool true])).run Tryz.prog W = .ok (.bool false) W:=fun W => by rw [neH_run,decH_true h4]; rfl
  have HRS : Hid (((decide ((l[0]?.getD nd0).h = rootH) && decide ((l[0]?.getD nd0).par = rootH)) && ((List.range n).all (ndIAt l) && (leadR (atH l n) l && (List.range n).all (climbAt (atH l n) n l)))) = ((List.range n).all (ndIAt l) && (leadR (atH l n) l && (List.range n).all (climbAt (atH l n) n l)))):=by rw [HE0.out]; show _ = _; simp [h3,h4]
  clear h3 h4
  go_wp2
  refine wp_region_cls (by kernel_rfl) (by kernel_rfl) ?_
  repeat (go_big_quiet_step (first | (go_at_call 65; exact Calls.cls_new (HRT.out _))))
  refine wpQuiet_nil ?_
  rintro w' ⟨⟨w',hb'⟩,rfl⟩
  have v4:=v3.step hb'
  have hb4:=HB3.out.trans (hb'.mono HB3.out.size)
  clear v2 v3 c0 k0 k1 k2 k3 k4 k5 HB3 hb' hb2 VN hne hne2 g0 g1 g2 g3 g4 g5 g6 g7 g8 HE0
  have c0:=v4.l1
  have HV4 : Hid (VarA w' w.heap.size 26 #[(.slice (some ⟨b,off,none⟩) n cap)]):=v4
  have HB4 : Hid (Below w.heap.size w w'):=hb4
  clear v4 hb4
  go_wp2
  clear c0
  go_loopw [40] (fun i wr => ∃ k : Nat,k ≤ n ∧ i = .i k ∧ Below w.heap.size w wr ∧ VarA wr w.heap.size 26 #[(.slice (some ⟨b,off,none⟩) n cap)] ∧ Hid ((List.range k).all (ndIAt l) = true)) (fun i _ => n - (intOf i).toNat)
  case atStart => exact ⟨0,Nat.zero_le _,rfl,HB4.out,HV4.out,by show _ = _; simp⟩
  case round =>
    clear HB4 HV4
    obtain ⟨k,hk,rfl,hbel,v0,HA⟩:=hrel
    by_cases hlt : k < n
    case neg =>
      have he : k = n:=by omega
      subst he
      have HNI : Hid (∀ i,i < l.length → ndI (l[i]?.getD nd0) = true):=fun i hi => by
        have h9:=HA.out; rw [List.all_eq_true] at h9; exact h9 i (by rw [HN.out] at hi; simpa using hi)
      have HRS2 : Hid (((List.range k).all (ndIAt l) && (leadR (atH l k) l && (List.range k).all (climbAt (atH l k) k l))) = (leadR (atH l k) l && (List.range k).all (climbAt (atH l k) k l))):=by rw [HA.out]; show _ = _; simp
      have c0:=v0.l1
      have HNB : Hid (Calls Tryz.prog 83 #[(.slice (some ⟨b,off,none⟩) k cap)] wr fun e w' => e = .returned (.map (some wr.heap.size)) ∧ Below wr.heap.size wr w' ∧ MapH ndP w' wr.heap.size k (atH l k)):=by
        have h9:=nodesByHandle_any _ l S wr (HR.out wr hbel) (by rw [HN.out]; exact hl1) HONE.out (fun i hi => ndI_h (HNI.out i hi))
        rw [HN.out] at h9; exact h9
      go_wp2_with fail
      refine Calls.mono HNB.out ?_
      rintro e w5 ⟨rfl,b_,M5⟩
      have hb5:=hbel.trans (b_.mono hbel.size)
      have v5:=v0.step b_
      clear v0 c0 b_ HNB
      have c0:=v5.l1
      have HLR : Hid (Calls Tryz.prog 92 #[.map (some wr.heap.size),(.slice (some ⟨b,off,none⟩) k cap)] w5 _):=leadRightly_any _ l S _ k _ w5 (HR.out w5 hb5) (by rw [HN.out]; exact h240) M5 (fun i hi => ndI_h (HNI.out i hi)) (fun i hi => ndI_es (HNI.out i hi))
      have hM5:=M5.lt
      have HAC : Hid (∀ W,Below w5.heap.size w5 W → Calls Tryz.prog 93 #[.map (some wr.heap.size),(.slice (some ⟨b,off,none⟩) k cap)] W fun e w' => e = .returned (.bool ((List.range k).all (climbAt (atH l k) k l))) ∧ Below W.heap.size W w'):=fun W hW => by
        have h9:=allCome_any _ l S wr.heap.size k (atH l k) W (HR.out W (hb5.trans (hW.mono hb5.size))) (by rw [HN.out]; exact hl1) (M5.blk (hW.block _ hM5)) hl1 (fun i hi => ndI_h (HNI.out i hi)) (by have h8:=atH_par (l:=l) (by rw [List.all_eq_true]; intro i hi; exact HNI.out i (by simpa using hi)); rw [HN.out] at h8; exact h8)
        rw [HN.out] at h9; exact h9
      obtain ⟨lr,hlr⟩ : ∃ lr,leadR (atH l k) l = lr:=⟨_,rfl⟩
      have HLE : Hid (leadR (atH l k) l = lr):=hlr
      rw [hlr] at HLR
      clear hlr M5
      go_wp2_with fail
      refine Calls.mono HLR.out ?_
      rintro e w6 ⟨rfl,b_⟩
      have hb6:=hb5.trans (b_.mono hb5.size)
      have v6:=v5.step b_
      clear v5 c0 HLR
      have c0:=v6.l1
      cases lr with
      | false =>
        have HF : Hid ((leadR (atH l k) l && (List.range k).all (climbAt (atH l k) k l)) = false):=by rw [HLE.out]; rfl
        clear HLE HAC
        go_wp2
        go_ret
        exact ⟨by rw [HRS.out,HRS2.out,HF.out]; rfl,hb6⟩
      | true =>
        have HF : Hid ((leadR (atH l k) l && (List.range k).all (climbAt (atH l k) k l)) = (List.range k).all (climbAt (atH l k) k l)):=by rw [HLE.out]; rfl
        have HAX:=HAC.out w6 b_
        obtain ⟨ac,hac⟩ : ∃ ac,(List.range k).all (climbAt (atH l k) k l) = ac:=⟨_,rfl⟩
        have HCE : Hid _:=hac
        rw [hac] at HAX
        have HAY : Hid _:=HAX
        clear HLE HAC HAX hac
        go_wp2_with fail
        refine Calls.mono HAY.out ?_
        rintro e w7 ⟨rfl,b7⟩
        have hb7:=hb6.trans (b7.mono hb6.size)
        clear v6 c0 b7 HAY
        go_wp2
        go_ret
        exact ⟨by rw [HRS.out,HRS2.out,HF.out,HCE.out]; rfl,hb7⟩
    obtain ⟨b9,off9,hbb,hbl9,_,hx⟩:=RdV.at (HRR.out wr hbel) hlt
    simp only [Option.some.injEq,Addr.mk.injEq,and_true] at hbb
    obtain ⟨rfl,rfl⟩:=hbb
    obtain ⟨x0,g0,s0⟩:=hx 0 (by omega)
    obtain ⟨x1,g1,s1⟩:=hx 1 (by omega)
    obtain ⟨x2,g2,s2⟩:=hx 2 (by omega)
    obtain ⟨x3,g3,s3⟩:=hx 3 (by omega)
    obtain ⟨x4,g4,s4⟩:=hx 4 (by omega)
    obtain ⟨x5,g5,s5⟩:=hx 5 (by omega)
    obtain ⟨x6,g6,s6⟩:=hx 6 (by omega)
    obtain ⟨x7,g7,s7⟩:=hx 7 (by omega)
    obtain ⟨x8,g8,s8⟩:=hx 8 (by omega)
    clear hx
    have HZ0:=HSZ.out k hlt
    have HAT : Hid (ndIAt l k = ndI (l[k]?.getD nd0)):=by show _ = _; rfl
    generalize l[k]?.getD nd0 = e at *
    obtain ⟨⟨p,q,d⟩,⟨p2,q2,d2⟩,lk,vl,es⟩:=e
    obtain rfl : x0 = .i p:=s0
    obtain rfl : x1 = .i q:=s1
    obtain rfl : x2 = .bool d:=s2
    obtain rfl : x3 = .i p2:=s3
    obtain rfl : x4 = .i q2:=s4
    obtain rfl : x5 = .bool d2:=s5
    obtain rfl : x6 = .i lk:=s6
    obtain rfl : x7 = .i vl:=s7
    have S8 : RdV wr S x8 (ensDt es):=s8
    obtain ⟨xa,xc,rfl,_⟩:=RdV.sliced S8
    have HNO : Hid (∀ W,Below wr.heap.size wr W → Calls Tryz.prog 91 #[.agg #[.i p,.i q,.bool d,.i p2,.i q2,.bool d2,.i lk,.i vl,.slice xa es.length xc]] W fun e w' => e = .returned (.bool (ndI ⟨(p,q,d),(p2,q2,d2),lk,vl,es⟩)) ∧ Below W.heap.size W w'):=fun W hW => implNode_any _ ⟨(p,q,d),(p2,q2,d2),lk,vl,es⟩ S W (RdV.step S8 hW) HZ0
    generalize es.length = xn at g8 HNO
    simp only [Nat.add_zero] at g0
    generalize ndI ⟨(p,q,d),(p2,q2,d2),lk,vl,es⟩ = bo at HNO HAT
    clear S8 s8 HZ0
    have HX:=HNO.out _ (Below.newH (w:=wr) (.cells #[.i p,.i q,.bool d,.i p2,.i q2,.bool d2,.i lk,.i vl,.slice xa xn xc] 77))
    have HY : Hid _:=HX
    have HB5 : Hid (Below w.heap.size w (wr.alloc (.cells #[.i p,.i q,.bool d,.i p2,.i q2,.bool d2,.i lk,.i vl,.slice xa xn xc] 77))):=hbel.alloc hbel.size _
    have HV5 : Hid (VarA (wr.alloc (.cells #[.i p,.i q,.bool d,.i p2,.i q2,.bool d2,.i lk,.i vl,.slice xa xn xc] 77)) w.heap.size 26 #[(.slice (some ⟨b,off,none⟩) n cap)]):=v0.alloc _
    clear HNO HX v0
    go_wp2_with fail
    refine Calls.mono HY.out ?_
    rintro e w3 ⟨rfl,b_⟩
    have hb6:=HB5.out.trans (b_.mono HB5.out.size)
    have HV6 : Hid (VarA w3 w.heap.size 26 #[(.slice (some ⟨b,off,none⟩) n cap)]):=HV5.out.step b_
    clear HY HB5 HV5 b_ g0 g1 g2 g3 g4 g5 g6 g7 g8
    cases bo with
    | false =>
      have HF : Hid ((List.range n).all (ndIAt l) = false):=range_all_false _ _ k hlt HAT.out
      clear HAT HA
      go_wp2
      go_ret
      exact ⟨by rw [HRS.out,HF.out]; rfl,hb6⟩
    | true =>
      have HF : Hid ((List.range (k + 1)).all (ndIAt l) = true):=range_all_next _ _ HA.out HAT.out
      clear HAT HA
      go_wp2
      first
      | exact ⟨⟨k + 1,by omega,by go_num,hb6,HV6.out,HF.out⟩,by simp [intOf]; omega⟩
      | (go_roundw
         case rel => exact ⟨k + 1,by omega,by go_num,hb6,HV6.out,HF.out⟩
         case measure => simp [intOf]; omega)
end Go.Proofs.YtblahkhniabhiaaGreatDoor
