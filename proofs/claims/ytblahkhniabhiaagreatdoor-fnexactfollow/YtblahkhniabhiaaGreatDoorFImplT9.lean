/- The program and where the entries lead: the walk. Condition: handles' numbers are numbers of their type; at most 240 nodes with at most 12 entries each. -/
import Derived.Test.YtblahkhniabhiaaGreatDoorFA05
namespace Go.Proofs.YtblahkhniabhiaaGreatDoor
open Go.RowKit
open Go.Maps
set_option linter.unusedVariables false
set_option maxRecDepth 100000
set_option linter.unusedSimpArgs false

theorem wpList_lookN_ok (w : World) {ops : Array Oper} {rest : List Oper} {o : Oper} {a : Act} {Q : Exit → Act → World → Prop}
    (hg : o.guard = none) (m x : Operand) (hop : o.op = Op.lookup 148 m x true) (b s : Nat) (f : Hd → Option Nd)
    (hm : a.eval m = .map (some b)) (M : MapH ndP w b s f) (h : Hd) (hh : HIn h) (hx : a.eval x = h.v)
    (hK : ∀ ya yn yc,wpList Tryz.prog ops Q rest (a.put o.dst (.tuple #[ndV ((f h).getD nd0) (.slice ya yn yc),.bool (f h).isSome])) w) :
    wpList Tryz.prog ops Q (o :: rest) a w:=by
  refine wpList_plain hg fun K' hK' => ?_
  obtain ⟨v,hrun,r1,r2⟩:=M.look_ok Tryz.underlying148 (zeroNd w) hh
  obtain ⟨ya,yn,yc,rfl⟩ : ∃ ya yn yc,v = ndV ((f h).getD nd0) (.slice ya yn yc):=by
    cases hf : f h with
    | none => exact ⟨none,0,0,r1 hf⟩
    | some c => exact r2 c hf
  unfold Oper.wp
  simp [execOp,hop,hm,hx,hrun,Result.andThen]
  exact hK' _ _ (hK ya yn yc)

set_option maxRecDepth 100000 in
set_option maxHeartbeats 1000000 in
theorem leadRightly_any (x : Value) (l : List Nd) (S : Nat → Prop) (b0 sm : Nat) (f : Hd → Option Nd) (w : World) (r : RdV w S x (ndsDt l)) (hl : l.length ≤ 240) (M : MapH ndP w b0 sm f)
    (hin : ∀ i,i < l.length → HIn (l[i]?.getD nd0).h) (hes : ∀ i,i < l.length → (l[i]?.getD nd0).es.length ≤ 12 ∧ ∀ j,j < (l[i]?.getD nd0).es.length → HIn ((l[i]?.getD nd0).es[j]?.getD en0).h) :
    Calls Tryz.prog 92 #[.map (some b0),x] w fun e w' => e = .returned (.bool (leadR f l)) ∧ Below w.heap.size w w':=by
  obtain ⟨a,cap,rfl,_⟩:=RdV.sliced r
  have HR : Hid (RdV w S (.slice a l.length cap) (.rows 77 9 l.length (fun i j => ndCell (l[i]?.getD nd0) j))):=r
  have hbs:=M.lt
  have HM : Hid (∀ W,Below w.heap.size w W → MapH ndP W b0 sm f):=fun W hW => M.blk (hW.block b0 hbs)
  obtain ⟨n,hn⟩ : ∃ n,l.length = n:=⟨_,rfl⟩
  have HN : Hid (l.length = n):=hn
  have HIN : Hid (∀ i,i < l.length → HIn (l[i]?.getD nd0).h):=hin
  have HES : Hid (∀ i,i < l.length → (l[i]?.getD nd0).es.length ≤ 12 ∧ ∀ j,j < (l[i]?.getD nd0).es.length → HIn ((l[i]?.getD nd0).es[j]?.getD en0).h):=hes
  have HRES : Hid (leadR f l = ((List.range n).all (leadN f l) && (List.range n).all (ledN l))):=by show _ = _; unfold leadR; rw [hn]
  rw [HRES.out]
  rw [hn] at hl HR HIN HES ⊢
  clear r hn hin hes M hbs HRES
  have hmm:=@run_makeMap Tryz.prog
  go_enter Tryz.func92,Tryz.ntmps92
  go_wp2
  go_loopw [18] (fun i wr => ∃ k : Nat,k ≤ n ∧ i = .i k ∧ Below w.heap.size w wr ∧ (∃ s,s ≤ 12 * k ∧ MapH intP wr w.heap.size s (cmap (seen l k 0))) ∧ Hid ((List.range k).all (leadN f l) = true)) (fun i _ => n - (intOf i).toNat)
  case atStart => exact ⟨0,Nat.zero_le _,rfl,Below.newH _,⟨0,by omega,by rw [cmap_nil]; exact MapH.made _ _⟩,by show _ = _; simp⟩
  case round =>
    clear hmm
    obtain ⟨k,hk,rfl,hbel,⟨s,hs,M⟩,HA⟩:=hrel
    have HM2 : Hid (MapH intP wr w.heap.size s (cmap (seen l k 0))):=M
    have hws:=M.lt
    clear M
    by_cases hlt : k < n
    case neg =>
      have he : k = n:=by omega
      subst he
      have HALL : Hid (cmap (seen l k 0) = cmap (l.flatMap (·.es))):=by show _ = _; rw [← HN.out,seen_all]
      have HM4 : Hid (MapH intP wr w.heap.size s (cmap (l.flatMap (·.es)))):=by rw [← HALL.out]; exact HM2.out
      have HR9 : Hid ((List.range k).all (leadN f l) = true):=HA
      have HBE : Hid (Below w.heap.size w wr):=hbel
      have HRT : Hid (∀ W,_):=fun W => implRootH_any W
      clear HALL HM2 HA hbel HES HM
      go_wp2
      go_loopw [61] (fun i wr => ∃ j : Nat,j ≤ k ∧ i = .i j ∧ Below w.heap.size w wr ∧ MapH intP wr w.heap.size s (cmap (l.flatMap (·.es))) ∧ Hid ((List.range j).all (ledN l) = true)) (fun i _ => k - (intOf i).toNat)
      case atStart => exact ⟨0,Nat.zero_le _,rfl,HBE.out,HM4.out,by show _ = _; simp⟩
      case round =>
        clear HBE HM4
        obtain ⟨j,hj,rfl,hbel,M,HA⟩:=hrel
        have HM4 : Hid (MapH intP wr w.heap.size s (cmap (l.flatMap (·.es)))):=M
        have hws2:=M.lt
        clear M
        by_cases hjt : j < k
        case neg =>
          have he : j = k:=by omega
          subst he
          go_wp2
          go_ret
          exact ⟨by rw [HR9.out,HA.out]; rfl,hbel⟩
        obtain ⟨b,off,rfl,hbl,_,hx⟩:=RdV.at HR.out hjt
        obtain ⟨x0,g0,s0⟩:=hx 0 (by omega)
        obtain ⟨x1,g1,s1⟩:=hx 1 (by omega)
        obtain ⟨x2,g2,s2⟩:=hx 2 (by omega)
        obtain ⟨x3,g3,s3⟩:=hx 3 (by omega)
        obtain ⟨x4,g4,s4⟩:=hx 4 (by omega)
        obtain ⟨x5,g5,s5⟩:=hx 5 (by omega)
        obtain ⟨x6,g6,s6⟩:=hx 6 (by omega)
        obtain ⟨x7,g7,s7⟩:=hx 7 (by omega)
        obtain ⟨x8,g8,s8⟩:=hx 8 (by omega)
        clear hx
        replace g0:=(hbel.cell (p:=⟨b,off + j * 9 + 0,none⟩) hbl).trans g0
        replace g1:=(hbel.cell (p:=⟨b,off + j * 9 + 1,none⟩) hbl).trans g1
        replace g2:=(hbel.cell (p:=⟨b,off + j * 9 + 2,none⟩) hbl).trans g2
        replace g3:=(hbel.cell (p:=⟨b,off + j * 9 + 3,none⟩) hbl).trans g3
        replace g4:=(hbel.cell (p:=⟨b,off + j * 9 + 4,none⟩) hbl).trans g4
        replace g5:=(hbel.cell (p:=⟨b,off + j * 9 + 5,none⟩) hbl).trans g5
        replace g6:=(hbel.cell (p:=⟨b,off + j * 9 + 6,none⟩) hbl).trans g6
        replace g7:=(hbel.cell (p:=⟨b,off + j * 9 + 7,none⟩) hbl).trans g7
        replace g8:=(hbel.cell (p:=⟨b,off + j * 9 + 8,none⟩) hbl).trans g8
        have HIK:=HIN.out j hjt
        have HLD : Hid (ledN l j = decide ((cntE (l.flatMap (·.es)) (l[j]?.getD nd0).h : Int) = wantN (l[j]?.getD nd0))):=by show _ = _; rfl
        generalize l[j]?.getD nd0 = e at *
        obtain ⟨⟨p,q,d⟩,⟨p2,q2,d2⟩,lk,vl,es⟩:=e
        obtain rfl : x0 = .i p:=s0
        obtain rfl : x1 = .i q:=s1
        obtain rfl : x2 = .bool d:=s2
        obtain rfl : x3 = .i p2:=s3
        obtain rfl : x4 = .i q2:=s4
        obtain rfl : x5 = .bool d2:=s5
        obtain rfl : x6 = .i lk:=s6
        obtain rfl : x7 = .i vl:=s7
        have S8 : RdV w S x8 (ensDt es):=s8
        obtain ⟨xa,xc,rfl,_⟩:=RdV.sliced S8
        simp only [Nat.add_zero] at g0
        generalize es.length = xn at g8
        clear S8 s8
        have HI : Hid (HIn (p,q,d)):=HIK
        clear HIK
        obtain ⟨c,hc⟩ : ∃ c,cntE (l.flatMap (·.es)) (p,q,d) = c:=⟨_,rfl⟩
        have HC : Hid (cntE (l.flatMap (·.es)) (p,q,d) = c):=hc
        have HLD2 : Hid (ledN l j = decide ((c : Int) = if ((p,q,d) : Hd) = rootH then 0 else lk)):=by rw [HLD.out]; show _ = _; dsimp only; rw [hc]; rfl
        clear hc HLD
        have VN:=VarA.new wr 77 #[.i p,.i q,.bool d,.i p2,.i q2,.bool d2,.i lk,.i vl,.slice xa xn xc]
        obtain ⟨n0,n1,n2,n3,n4,n5,n6,n7,n8⟩:=VN.l9
        haveI : Nonempty (Cls (wr.alloc (.cells #[.i p,.i q,.bool d,.i p2,.i q2,.bool d2,.i lk,.i vl,.slice xa xn xc] 77))):=Cls.ne _
        have k0:=Cls.cell VN.lt n0
        have k1:=Cls.cell VN.lt n1
        have k2:=Cls.cell VN.lt n2
        clear n0 n1 n2 n3 n4 n5 n6 n7 n8
        have HB1 : Hid (Below w.heap.size w (wr.alloc (.cells #[.i p,.i q,.bool d,.i p2,.i q2,.bool d2,.i lk,.i vl,.slice xa xn xc] 77))):=hbel.alloc hbel.size _
        have HVN : Hid (VarA (wr.alloc (.cells #[.i p,.i q,.bool d,.i p2,.i q2,.bool d2,.i lk,.i vl,.slice xa xn xc] 77)) wr.heap.size 77 #[.i p,.i q,.bool d,.i p2,.i q2,.bool d2,.i lk,.i vl,.slice xa xn xc]):=VN
        have HM5 : Hid (MapH intP (wr.alloc (.cells #[.i p,.i q,.bool d,.i p2,.i q2,.bool d2,.i lk,.i vl,.slice xa xn xc] 77)) w.heap.size s (cmap (l.flatMap (·.es)))):=HM4.out.alloc _
        clear VN
        by_cases hr : ((p,q,d) : Hd) = rootH
        case pos =>
          have heq : ∀ W : World,(binOp .eql 48 (.agg #[.i p,.i q,.bool d]) (.agg #[.i 0,.i 1,.bool true])).run Tryz.prog W = .ok (.bool true) W:=fun W => by rw [eqH_run,decH_true hr]
          have HLD3 : Hid (ledN l j = decide ((c : Int) = 0)):=by rw [HLD2.out,if_pos hr]; rfl
          clear HLD2 hr
          go_wp2
          refine wp_region_cls (by kernel_rfl) (by kernel_rfl) ?_
          repeat (go_big_quiet_step (first | (go_at_call 65; exact Calls.cls_new (HRT.out _))))
          refine wpQuiet_nil ?_
          rintro w' ⟨⟨w',hb'⟩,rfl⟩
          have M6:=HM5.out.blk (hb'.block _ HM5.out.lt)
          have v6:=HVN.out.step hb'
          have hb6:=HB1.out.trans (hb'.mono HB1.out.size)
          have hL:=M6.lookI Tryz.underlying163 HI.out
          rw [HC.out] at hL
          obtain ⟨n0,n1,n2,n3,n4,n5,n6,n7,n8⟩:=v6.l9
          have HM6 : Hid (MapH intP w' w.heap.size s (cmap (l.flatMap (·.es)))):=M6
          clear k0 k1 k2 HB1 HVN HM5 hb' M6 v6 g0 g1 g2 g3 g4 g5 g6 g7 g8 heq
          by_cases hcl : (c : Int) = 0
          · have HF : Hid ((List.range (j + 1)).all (ledN l) = true):=range_all_next _ _ HA.out (by rw [HLD3.out]; exact decide_eq_true hcl)
            have hcl2 : ((c : Int) != 0) = false:=by simpa using hcl
            clear HLD3 HA hcl
            go_wp2
            first
            | exact ⟨⟨j + 1,by omega,by go_num,hb6,HM6.out,HF.out⟩,by simp [intOf]; omega⟩
            | (go_roundw
               case rel => exact ⟨j + 1,by omega,by go_num,hb6,HM6.out,HF.out⟩
               case measure => simp [intOf]; omega)
          · have HF : Hid ((List.range k).all (ledN l) = false):=range_all_false _ _ j hjt (by rw [HLD3.out]; exact decide_eq_false hcl)
            have hcl2 : ((c : Int) != 0) = true:=by simpa using hcl
            clear HLD3 HA hcl
            go_wp2
            go_ret
            exact ⟨by rw [HR9.out,HF.out]; rfl,hb6⟩
        case neg =>
          have heq : ∀ W : World,(binOp .eql 48 (.agg #[.i p,.i q,.bool d]) (.agg #[.i 0,.i 1,.bool true])).run Tryz.prog W = .ok (.bool false) W:=fun W => by rw [eqH_run,decH_false hr]
          have HLD3 : Hid (ledN l j = decide ((c : Int) = lk)):=by rw [HLD2.out,if_neg hr]; rfl
          clear HLD2 hr
          go_wp2
          refine wp_region_cls (by kernel_rfl) (by kernel_rfl) ?_
          repeat (go_big_quiet_step (first | (go_at_call 65; exact Calls.cls_new (HRT.out _))))
          refine wpQuiet_nil ?_
          rintro w' ⟨⟨w',hb'⟩,rfl⟩
          have M6:=HM5.out.blk (hb'.block _ HM5.out.lt)
          have v6:=HVN.out.step hb'
          have hb6:=HB1.out.trans (hb'.mono HB1.out.size)
          have hL:=M6.lookI Tryz.underlying163 HI.out
          rw [HC.out] at hL
          obtain ⟨n0,n1,n2,n3,n4,n5,n6,n7,n8⟩:=v6.l9
          have HM6 : Hid (MapH intP w' w.heap.size s (cmap (l.flatMap (·.es)))):=M6
          clear k0 k1 k2 HB1 HVN HM5 hb' M6 v6 g0 g1 g2 g3 g4 g5 g6 g7 g8 heq
          by_cases hcl : (c : Int) = lk
          · have HF : Hid ((List.range (j + 1)).all (ledN l) = true):=range_all_next _ _ HA.out (by rw [HLD3.out]; exact decide_eq_true hcl)
            have hcl2 : ((c : Int) != lk) = false:=by simpa using hcl
            clear HLD3 HA hcl
            go_wp2
            first
            | exact ⟨⟨j + 1,by omega,by go_num,hb6,HM6.out,HF.out⟩,by simp [intOf]; omega⟩
            | (go_roundw
               case rel => exact ⟨j + 1,by omega,by go_num,hb6,HM6.out,HF.out⟩
               case measure => simp [intOf]; omega)
          · have HF : Hid ((List.range k).all (ledN l) = false):=range_all_false _ _ j hjt (by rw [HLD3.out]; exact decide_eq_false hcl)
            have hcl2 : ((c : Int) != lk) = true:=by simpa using hcl
            clear HLD3 HA hcl
            go_wp2
            go_ret
            exact ⟨by rw [HR9.out,HF.out]; rfl,hb6⟩
    obtain ⟨b,off,rfl,hbl,_,hx⟩:=RdV.at HR.out hlt
    obtain ⟨x0,g0,s0⟩:=hx 0 (by omega)
    obtain ⟨x1,g1,s1⟩:=hx 1 (by omega)
    obtain ⟨x2,g2,s2⟩:=hx 2 (by omega)
    obtain ⟨x3,g3,s3⟩:=hx 3 (by omega)
    obtain ⟨x4,g4,s4⟩:=hx 4 (by omega)
    obtain ⟨x5,g5,s5⟩:=hx 5 (by omega)
    obtain ⟨x6,g6,s6⟩:=hx 6 (by omega)
    obtain ⟨x7,g7,s7⟩:=hx 7 (by omega)
    obtain ⟨x8,g8,s8⟩:=hx 8 (by omega)
    clear hx
    replace g0:=(hbel.cell (p:=⟨b,off + k * 9 + 0,none⟩) hbl).trans g0
    replace g1:=(hbel.cell (p:=⟨b,off + k * 9 + 1,none⟩) hbl).trans g1
    replace g2:=(hbel.cell (p:=⟨b,off + k * 9 + 2,none⟩) hbl).trans g2
    replace g3:=(hbel.cell (p:=⟨b,off + k * 9 + 3,none⟩) hbl).trans g3
    replace g4:=(hbel.cell (p:=⟨b,off + k * 9 + 4,none⟩) hbl).trans g4
    replace g5:=(hbel.cell (p:=⟨b,off + k * 9 + 5,none⟩) hbl).trans g5
    replace g6:=(hbel.cell (p:=⟨b,off + k * 9 + 6,none⟩) hbl).trans g6
    replace g7:=(hbel.cell (p:=⟨b,off + k * 9 + 7,none⟩) hbl).trans g7
    replace g8:=(hbel.cell (p:=⟨b,off + k * 9 + 8,none⟩) hbl).trans g8
    have HEK:=HES.out k hlt
    have HLN : Hid (leadN f l k = (l[k]?.getD nd0).es.all (leadE f (l[k]?.getD nd0))):=by show _ = _; rfl
    have HSN : Hid (∀ m,m < (l[k]?.getD nd0).es.length → seen l k (m + 1) = seen l k m ++ [(l[k]?.getD nd0).es[m]?.getD en0]):=fun m hm => seen_next l k m hm
    have HSR : Hid (seen l k (l[k]?.getD nd0).es.length = seen l (k + 1) 0):=seen_row l k (by rw [HN.out]; exact hlt)
    generalize l[k]?.getD nd0 = e at *
    obtain ⟨⟨p,q,d⟩,⟨p2,q2,d2⟩,lk,vl,es⟩:=e
    obtain rfl : x0 = .i p:=s0
    obtain rfl : x1 = .i q:=s1
    obtain rfl : x2 = .bool d:=s2
    obtain rfl : x3 = .i p2:=s3
    obtain rfl : x4 = .i q2:=s4
    obtain rfl : x5 = .bool d2:=s5
    obtain rfl : x6 = .i lk:=s6
    obtain rfl : x7 = .i vl:=s7
    have S8 : RdV w S x8 (ensDt es):=s8
    obtain ⟨xa,xc,rfl,_⟩:=RdV.sliced S8
    have H8 : Hid (∀ W,Below w.heap.size w W → RdV W S (.slice xa es.length xc) (.rows 86 4 es.length (fun i j => enCell (es[i]?.getD en0) j))):=RdV.old S8
    simp only [Nat.add_zero] at g0
    dsimp only at HEK HLN HSN HSR
    have h12:=HEK.1
    have HEN : Hid (∀ j,j < es.length → HIn (es[j]?.getD en0).h):=HEK.2
    obtain ⟨xn,hxn⟩ : ∃ xn,es.length = xn:=⟨_,rfl⟩
    have HXN : Hid (es.length = xn):=hxn
    rw [hxn] at g8 h12 H8 HEN HSN HSR
    clear hxn S8 s8 HEK
    have VN : Hid (VarA (wr.alloc (.cells #[.i p,.i q,.bool d,.i p2,.i q2,.bool d2,.i lk,.i vl,.slice xa xn xc] 77)) wr.heap.size 77 #[.i p,.i q,.bool d,.i p2,.i q2,.bool d2,.i lk,.i vl,.slice xa xn xc]):=VarA.new wr _ _
    have HB1 : Hid (Below w.heap.size w (wr.alloc (.cells #[.i p,.i q,.bool d,.i p2,.i q2,.bool d2,.i lk,.i vl,.slice xa xn xc] 77))):=hbel.alloc hbel.size _
    have HM3 : Hid (MapH intP (wr.alloc (.cells #[.i p,.i q,.bool d,.i p2,.i q2,.bool d2,.i lk,.i vl,.slice xa xn xc] 77)) w.heap.size s (cmap (seen l k 0))):=HM2.out.alloc _
    go_wp2
    clear g0 g1 g2 g3 g4 g5 g6 g7 g8 HM2
    go_loopw [25] (fun i wq => ∃ m : Nat,m ≤ xn ∧ i = .i m ∧ Below w.heap.size w wq ∧ VarA wq wr.heap.size 77 #[.i p,.i q,.bool d,.i p2,.i q2,.bool d2,.i lk,.i vl,.slice xa xn xc] ∧ (∃ s,s ≤ 12 * k + m ∧ MapH intP wq w.heap.size s (cmap (seen l k m))) ∧ Hid ((es.take m).all (leadE f ⟨(p,q,d),(p2,q2,d2),lk,vl,es⟩) = true)) (fun i _ => xn - (intOf i).toNat)
    case atStart => exact ⟨0,Nat.zero_le _,rfl,HB1.out,VN.out,⟨s,by omega,HM3.out⟩,by show _ = _; simp⟩
    case round =>
      clear VN HB1 HM3 hbel hs
      obtain ⟨m,hm,rfl,hbq,v0,⟨sq,hsq,MQ⟩,HL⟩:=hrel
      have V0 : Hid (VarA wr _ 77 #[.i p,.i q,.bool d,.i p2,.i q2,.bool d2,.i lk,.i vl,.slice xa xn xc]):=v0
      have HMQ : Hid (MapH intP wr w.heap.size sq (cmap (seen l k m))):=MQ
      obtain ⟨c0,c1,c2,c3,c4,c5,c6,c7,c8⟩:=v0.l9
      have hlw:=v0.lt
      clear v0 MQ
      by_cases hmt : m < xn
      case neg =>
        have he : m = xn:=by omega
        subst he
        have HF : Hid ((List.range (k + 1)).all (leadN f l) = true):=range_all_next _ _ HA.out (by rw [HLN.out,← HL.out,← HXN.out,List.take_length])
        clear c0 c1 c2 c3 c4 c5 c6 c7 c8
        go_wp2
        first
        | exact ⟨⟨k + 1,by omega,by go_num,hbq,⟨sq,by omega,by rw [← HSR.out]; exact HMQ.out⟩,HF.out⟩,by simp [intOf]; omega⟩
        | (go_roundw
           case rel => exact ⟨k + 1,by omega,by go_num,hbq,⟨sq,by omega,by rw [← HSR.out]; exact HMQ.out⟩,HF.out⟩
           case measure => simp [intOf]; omega)
      obtain ⟨bb,of2,rfl,hbl2,_,hx2⟩:=RdV.at (H8.out wr hbq) hmt
      obtain ⟨y0,e0,t0⟩:=hx2 0 (by omega)
      obtain ⟨y1,e1,t1⟩:=hx2 1 (by omega)
      obtain ⟨y2,e2,t2⟩:=hx2 2 (by omega)
      obtain ⟨y3,e3,t3⟩:=hx2 3 (by omega)
      clear hx2
      have HIE:=HEN.out m hmt
      have HSM:=HSN.out m hmt
      obtain ⟨e,he⟩ : ∃ e,es[m]?.getD en0 = e:=⟨_,rfl⟩
      rw [he] at t0 t1 t2 t3 HIE HSM
      have HTK : Hid (es.take (m + 1) = es.take m ++ [e]):=by
        have h9 : m < es.length:=by rw [HXN.out]; exact hmt
        show _ = _
        rw [← List.take_append_getElem h9,← he,List.getElem?_eq_getElem h9]; rfl
      clear he
      obtain ⟨nm,⟨ps,pi,pd⟩⟩:=e
      obtain rfl : y1 = .i ps:=t1
      obtain rfl : y2 = .i pi:=t2
      obtain rfl : y3 = .bool pd:=t3
      obtain ⟨ya,yc,rfl⟩:=RdV.sliceB t0
      generalize nm.length = yn at e0
      simp only [Nat.add_zero] at e0
      have HI : Hid (HIn (ps,pi,pd)):=HIE
      have HS1 : Hid (seen l k (m + 1) = seen l k m ++ [⟨nm,(ps,pi,pd)⟩]):=HSM
      clear HIE HSM t0
      obtain ⟨nd,hnd⟩ : ∃ nd,(f (ps,pi,pd)).getD nd0 = nd:=⟨_,rfl⟩
      have HND : Hid _:=hnd
      clear hnd
      obtain ⟨bo,hbo⟩ : ∃ bo,(f (ps,pi,pd)).isSome = bo:=⟨_,rfl⟩
      have HBO : Hid _:=hbo
      clear hbo
      obtain ⟨hh9,⟨r2,u2,o2⟩,lk2,vl2,es2⟩:=nd
      have HBQ : Hid (Below w.heap.size w wr):=hbq
      have HMA : Hid (MapH ndP (wr.alloc (.cells #[.slice ya yn yc,.i ps,.i pi,.bool pd] 86)) b0 sm f):=HM.out _ (hbq.alloc hbq.size _)
      cases bo with
      | false =>
        have HF : Hid ((List.range n).all (leadN f l) = false):=by
          refine range_all_false _ _ k hlt ?_
          rw [HLN.out]
          have h7 : (es.take (m + 1)).all (leadE f ⟨(p,q,d),(p2,q2,d2),lk,vl,es⟩) = false:=by
            rw [HTK.out,List.all_append,HL.out]
            have h8 : f (ps,pi,pd) = none:=by have:=HBO.out; cases hh : f (ps,pi,pd) with | none => rfl | some c => rw [hh] at this; cases this
            simp [leadE,h8]
          rw [List.all_eq_false] at h7 ⊢
          obtain ⟨y,hy,hy2⟩:=h7
          exact ⟨y,List.mem_of_mem_take hy,hy2⟩
        go_wp2_with (at_lookup; refine wpList_lookN_ok _ rfl _ _ rfl b0 sm f rfl HMA.out (ps,pi,pd) HI.out rfl ?_; intro la ln lc; rw [HND.out,HBO.out])
        go_ret
        exact ⟨by rw [HF.out]; rfl,(HBQ.out.alloc HBQ.out.size _).alloc (by have:=HBQ.out.size; simp; omega) _⟩
      | true =>
      have HFS : Hid (f (ps,pi,pd) = some ⟨hh9,(r2,u2,o2),lk2,vl2,es2⟩):=by
        have h1:=HND.out; have h2:=HBO.out
        show _ = _
        cases hh : f (ps,pi,pd) with
        | none => rw [hh] at h2; cases h2
        | some c => rw [hh] at h1; rw [← h1]; rfl
      have HLE : Hid (leadE f ⟨(p,q,d),(p2,q2,d2),lk,vl,es⟩ ⟨nm,(ps,pi,pd)⟩ = (!pd || decide (((r2,u2,o2) : Hd) = (p,q,d)))):=by
        show _ = _; unfold leadE; dsimp only; rw [HFS.out]
      obtain ⟨c,hc⟩ : ∃ c,cntE (seen l k m) (ps,pi,pd) = c:=⟨_,rfl⟩
      have HC : Hid (cntE (seen l k m) (ps,pi,pd) = c):=hc
      clear hc
      have hcle : c ≤ 5000:=by
        have h1:=cnt_seen l (fun i hi => (HES.out i (by rw [← HN.out]; exact hi)).1) k m (by rw [HN.out]; exact hlt) (ps,pi,pd)
        rw [HC.out] at h1; omega
      have HNX : Hid (leadE f ⟨(p,q,d),(p2,q2,d2),lk,vl,es⟩ ⟨nm,(ps,pi,pd)⟩ = true → (es.take (m + 1)).all (leadE f ⟨(p,q,d),(p2,q2,d2),lk,vl,es⟩) = true):=fun h => by
        rw [HTK.out,List.all_append,HL.out]; simp [h]
      have hsz:=HBQ.out.size
      cases pd with
      | false =>
        go_wp2_with (at_lookup; refine wpList_lookN_ok _ rfl _ _ rfl b0 sm f rfl HMA.out (ps,pi,false) HI.out rfl ?_; intro la ln lc; rw [HND.out,HBO.out])
        obtain ⟨W,hW⟩ : ∃ W,(wr.alloc (.cells #[.slice ya yn yc,.i ps,.i pi,.bool false] 86)).alloc (.cells #[.i hh9.sh,.i hh9.ino,.bool hh9.dir,.i r2,.i u2,.bool o2,.i lk2,.i vl2,.slice la ln lc] 77) = W:=⟨_,rfl⟩
        have hMW : MapH intP W w.heap.size sq (cmap (seen l k m)):=by rw [← hW]; exact (HMQ.out.alloc _).alloc _
        have hBW : Below w.heap.size w W:=by rw [← hW]; exact (HBQ.out.alloc hsz _).alloc (by simp; omega) _
        have hVE : VarA W wr.heap.size 86 #[.slice ya yn yc,.i ps,.i pi,.bool false]:=by rw [← hW]; exact (VarA.new wr _ _).alloc _
        have hVN:=(VarA.alloc V0.out (.cells #[.slice ya yn yc,.i ps,.i pi,.bool false] 86)).alloc (.cells #[.i hh9.sh,.i hh9.ino,.bool hh9.dir,.i r2,.i u2,.bool o2,.i lk2,.i vl2,.slice la ln lc] 77)
        rw [hW] at hVN
        rw [hW]
        clear hW c0 c1 c2 c3 c4 c5 c6 c7 c8 e0 e1 e2 e3
        replace hMW : MapH intP W.drew w.heap.size sq (cmap (seen l k m)):=hMW.blk rfl
        replace hVE : VarA W.drew wr.heap.size 86 #[.slice ya yn yc,.i ps,.i pi,.bool false]:=hVE
        have hL:=hMW.lookI Tryz.underlying163 HI.out
        rw [HC.out] at hL
        obtain ⟨v0,st,W1,hE,hG1,hS⟩:=hMW.entry Tryz.underlying163 zeroI (by unfold maxLen; omega) HI.out
        have hL1:=hMW.entryLook Tryz.underlying163 zeroI (by unfold maxLen; omega) HI.out hE hL
        obtain ⟨W2,hS2,hM2,hG2⟩:=hS (c + 1) (.i ((c : Int) + 1)) (by unfold intP; simp)
        have hne : wr.heap.size ≠ w.heap.size:=by omega
        have hVE1 : VarA W1 wr.heap.size 86 #[.slice ya yn yc,.i ps,.i pi,.bool false]:=(hG1.block _ hVE.lt (by simpa using hne)).trans hVE
        obtain ⟨_,i1,i2,i3⟩:=hVE.l4
        obtain ⟨_,j1,j2,j3⟩:=hVE1.l4
        have HM9 : Hid (∃ s,s ≤ 12 * k + (m + 1) ∧ MapH intP W2 w.heap.size s (cmap (seen l k (m + 1)))):=by
          rw [← HC.out,cmap_next (seen l k m) ⟨nm,(ps,pi,false)⟩,← HS1.out] at hM2
          exact ⟨_,by split <;> omega,hM2⟩
        have HB9 : Hid (Below w.heap.size w W2):=Below.grown (show Below w.heap.size w W.drew from hBW.drew) hG2 (show w.heap.size ≤ W.drew.heap.size from hBW.size) (fun j hj => by cases hj; exact Nat.le_refl _)
        have HV9 : Hid (VarA W2 _ _ _):=(hG2.block _ hVN.lt (by simp; omega)).trans hVN
        have HL9:=HNX.out (by rw [HLE.out]; rfl)
        have HL8 : Hid ((es.take (m + 1)).all (leadE f ⟨(p,q,d),(p2,q2,d2),lk,vl,es⟩) = true):=HL9
        clear hS HL9 hM2 hG2 hG1 hVN hBW hMW
        go_region
        clear hL hL1 hE hS2 i1 i2 i3 j1 j2 j3 hVE hVE1
        go_wp2
        first
        | exact ⟨⟨m + 1,by omega,by go_num,HB9.out,HV9.out,HM9.out,HL8.out⟩,by simp [intOf]; omega⟩
        | (go_roundw
           case rel => exact ⟨m + 1,by omega,by go_num,HB9.out,HV9.out,HM9.out,HL8.out⟩
           case measure => simp [intOf]; omega)
      | true =>
        by_cases heq : ((r2,u2,o2) : Hd) = (p,q,d)
        case neg =>
          have HF : Hid ((List.range n).all (leadN f l) = false):=by
            refine range_all_false _ _ k hlt ?_
            rw [HLN.out]
            have h7 : (es.take (m + 1)).all (leadE f ⟨(p,q,d),(p2,q2,d2),lk,vl,es⟩) = false:=by
              rw [HTK.out,List.all_append,HL.out]
              simp [HLE.out,heq]
            rw [List.all_eq_false] at h7 ⊢
            obtain ⟨y,hy,hy2⟩:=h7
            exact ⟨y,List.mem_of_mem_take hy,hy2⟩
          have hnh : ∀ W : World,(binOp .neq 48 (.agg #[.i r2,.i u2,.bool o2]) (.agg #[.i p,.i q,.bool d])).run Tryz.prog W = .ok (.bool true) W:=fun W => by rw [neH_run,decH_false heq]; rfl
          clear HNX heq
          go_wp2_with (at_lookup; refine wpList_lookN_ok _ rfl _ _ rfl b0 sm f rfl HMA.out (ps,pi,true) HI.out rfl ?_; intro la ln lc; rw [HND.out,HBO.out])
          go_ret
          exact ⟨by rw [HF.out]; rfl,(HBQ.out.alloc HBQ.out.size _).alloc (by have:=HBQ.out.size; simp; omega) _⟩
        have hnh : ∀ W : World,(binOp .neq 48 (.agg #[.i r2,.i u2,.bool o2]) (.agg #[.i p,.i q,.bool d])).run Tryz.prog W = .ok (.bool false) W:=fun W => by rw [neH_run,decH_true heq]; rfl
        have HQ : Hid (((r2,u2,o2) : Hd) = (p,q,d)):=heq
        clear heq
        go_wp2_with (at_lookup; refine wpList_lookN_ok _ rfl _ _ rfl b0 sm f rfl HMA.out (ps,pi,true) HI.out rfl ?_; intro la ln lc; rw [HND.out,HBO.out])
        obtain ⟨W,hW⟩ : ∃ W,(wr.alloc (.cells #[.slice ya yn yc,.i ps,.i pi,.bool true] 86)).alloc (.cells #[.i hh9.sh,.i hh9.ino,.bool hh9.dir,.i r2,.i u2,.bool o2,.i lk2,.i vl2,.slice la ln lc] 77) = W:=⟨_,rfl⟩
        have hMW : MapH intP W w.heap.size sq (cmap (seen l k m)):=by rw [← hW]; exact (HMQ.out.alloc _).alloc _
        have hBW : Below w.heap.size w W:=by rw [← hW]; exact (HBQ.out.alloc hsz _).alloc (by simp; omega) _
        have hVE : VarA W wr.heap.size 86 #[.slice ya yn yc,.i ps,.i pi,.bool true]:=by rw [← hW]; exact (VarA.new wr _ _).alloc _
        have hVN:=(VarA.alloc V0.out (.cells #[.slice ya yn yc,.i ps,.i pi,.bool true] 86)).alloc (.cells #[.i hh9.sh,.i hh9.ino,.bool hh9.dir,.i r2,.i u2,.bool o2,.i lk2,.i vl2,.slice la ln lc] 77)
        rw [hW] at hVN
        rw [hW]
        clear hW c0 c1 c2 c3 c4 c5 c6 c7 c8 e0 e1 e2 e3
        replace hMW : MapH intP W.drew w.heap.size sq (cmap (seen l k m)):=hMW.blk rfl
        replace hVE : VarA W.drew wr.heap.size 86 #[.slice ya yn yc,.i ps,.i pi,.bool true]:=hVE
        have hL:=hMW.lookI Tryz.underlying163 HI.out
        rw [HC.out] at hL
        obtain ⟨v0,st,W1,hE,hG1,hS⟩:=hMW.entry Tryz.underlying163 zeroI (by unfold maxLen; omega) HI.out
        have hL1:=hMW.entryLook Tryz.underlying163 zeroI (by unfold maxLen; omega) HI.out hE hL
        obtain ⟨W2,hS2,hM2,hG2⟩:=hS (c + 1) (.i ((c : Int) + 1)) (by unfold intP; simp)
        have hne : wr.heap.size ≠ w.heap.size:=by omega
        have hVE1 : VarA W1 wr.heap.size 86 #[.slice ya yn yc,.i ps,.i pi,.bool true]:=(hG1.block _ hVE.lt (by simpa using hne)).trans hVE
        obtain ⟨_,i1,i2,i3⟩:=hVE.l4
        obtain ⟨_,j1,j2,j3⟩:=hVE1.l4
        have HM9 : Hid (∃ s,s ≤ 12 * k + (m + 1) ∧ MapH intP W2 w.heap.size s (cmap (seen l k (m + 1)))):=by
          rw [← HC.out,cmap_next (seen l k m) ⟨nm,(ps,pi,true)⟩,← HS1.out] at hM2
          exact ⟨_,by split <;> omega,hM2⟩
        have HB9 : Hid (Below w.heap.size w W2):=Below.grown (show Below w.heap.size w W.drew from hBW.drew) hG2 (show w.heap.size ≤ W.drew.heap.size from hBW.size) (fun j hj => by cases hj; exact Nat.le_refl _)
        have HV9 : Hid (VarA W2 _ _ _):=(hG2.block _ hVN.lt (by simp; omega)).trans hVN
        have HL9:=HNX.out (by rw [HLE.out]; simp [HQ.out])
        have HL8 : Hid ((es.take (m + 1)).all (leadE f ⟨(p,q,d),(p2,q2,d2),lk,vl,es⟩) = true):=HL9
        clear hS HL9 hM2 hG2 hG1 hVN hBW hMW
        go_region
        clear hL hL1 hE hS2 i1 i2 i3 j1 j2 j3 hVE hVE1
        go_wp2
        first
        | exact ⟨⟨m + 1,by omega,by go_num,HB9.out,HV9.out,HM9.out,HL8.out⟩,by simp [intOf]; omega⟩
        | (go_roundw
           case rel => exact ⟨m + 1,by omega,by go_num,HB9.out,HV9.out,HM9.out,HL8.out⟩
           case measure => simp [intOf]; omega)
end Go.Proofs.YtblahkhniabhiaaGreatDoor
