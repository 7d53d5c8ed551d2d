/- The program's look at a directory's entries. Condition: at most 2^21 of all. -/
import Derived.Test.YtblahkhniabhiaaGreatDoorFA03
namespace Go.Proofs.YtblahkhniabhiaaGreatDoor
open Go.RowKit
set_option linter.unusedVariables false
set_option linter.unusedSimpArgs false

def enAt (es : List En) (i : Nat) : Bool:=isNm (es[i]?.getD en0).nm && (HOk (es[i]?.getD en0).h && (decide (i = 0) || !geS (es[i - 1]?.getD en0).nm (es[i]?.getD en0).nm))
def entsI (es : List En) : Bool:=decide (es.length ≤ 12) && (List.range es.length).all (enAt es)

set_option maxRecDepth 100000 in
set_option maxHeartbeats 2000000 in
theorem entriesOk_any (x : Value) (es : List En) (S : Nat → Prop) (w : World) (r : RdV w S x (ensDt es)) (hl : szEns es ≤ 2097152) :
  Calls Tryz.prog 114 #[x] w fun e w' => e = .returned (.bool (entsI es)) ∧ Below w.heap.size w w':=by
 obtain ⟨a,cap,rfl,_⟩:=RdV.sliced r
 have HR2 : Hid (∀ W,Below w.heap.size w W → RdV W S (.slice a es.length cap) (.rows 86 4 es.length (fun i j => enCell (es[i]?.getD en0) j))):=RdV.old r
 have hmm : es.length ≤ 2097152:=by unfold szEns at hl; omega
 have HL : Hid _:=hl
 obtain ⟨m,hm⟩ : ∃ m,es.length = m:=⟨_,rfl⟩
 have HN : Hid _:=hm
 have HRS : Hid (entsI es = (decide (m ≤ 12) && (List.range m).all (enAt es))):=by show _ = _; unfold entsI; rw [hm]
 rw [hm] at HR2 hmm ⊢
 clear r hl hm
 by_cases h12 : m ≤ 12
 case neg =>
  have HF : Hid (entsI es = false):=by rw [HRS.out]; show _ = _; simp [h12]
  rw [HF.out]
  clear HRS HF HR2 HL HN
  go_enter Tryz.func114,Tryz.ntmps114
  go_wp2
  go_ret
  exact ⟨rfl,Below.refl _ _⟩
 have HRS2 : Hid (entsI es = (List.range m).all (enAt es)):=by rw [HRS.out]; show _ = _; simp [h12]
 rw [HRS2.out]
 clear HRS HRS2
 go_enter Tryz.func114,Tryz.ntmps114
 go_wp2
 go_loopw [10] (fun i wr => ∃ k : Nat,k ≤ m ∧ i = .i k ∧ Below w.heap.size w wr ∧ Hid ((List.range k).all (enAt es) = true)) (fun i _ => m - (intOf i).toNat)
 case atStart => exact ⟨0,Nat.zero_le _,rfl,Below.refl _ _,by show _ = _; simp⟩
 case round =>
  obtain ⟨k,hk,rfl,hbel,HA⟩:=hrel
  by_cases hlt : k < m
  case neg =>
   have he : k = m:=by omega
   subst he
   go_wp2
   go_ret
   exact ⟨by rw [HA.out]; rfl,hbel⟩
  obtain ⟨b,off,rfl,hbl,_,hx⟩:=RdV.at (HR2.out wr hbel) hlt
  obtain ⟨e,he⟩ : ∃ e,es[k]?.getD en0 = e:=⟨_,rfl⟩
  obtain ⟨x0,c0,r0⟩:=hx 0 (by omega)
  obtain ⟨x1,c1,r1⟩:=hx 1 (by omega)
  obtain ⟨x2,c2,r2⟩:=hx 2 (by omega)
  obtain ⟨x3,c3,r3⟩:=hx 3 (by omega)
  rw [he] at r0 r1 r2 r3
  have HZ : Hid (e.nm.length ≤ 2097152):=by have h1:=szEns_at es k; rw [he] at h1; have h2:=HL.out; show _ ≤ _; omega
  have HAT : Hid (enAt es k = (isNm e.nm && (HOk e.h && (decide (k = 0) || !geS (es[k - 1]?.getD en0).nm e.nm)))):=by show _ = _; unfold enAt; rw [he]
  clear hx he
  obtain ⟨nm,⟨s,ino,d⟩⟩:=e
  obtain rfl : x1 = .i s:=r1
  obtain rfl : x2 = .i ino:=r2
  obtain rfl : x3 = .bool d:=r3
  simp only [Nat.add_zero] at c0
  dsimp only at HAT
  have RB : Hid (RdV wr S x0 (.bytes nm)):=r0
  clear r0
  have HNM : Hid (∀ W,Below wr.heap.size wr W → _):=fun W hW => implName_any x0 nm S W (RdV.step RB.out hW) HZ.out
  have HHO : Hid (∀ W,_):=fun W => implHandleOk_w (s,ino,d) W
  have HRX : Hid (∀ W,Below wr.heap.size wr W → RdV W S x0 (.bytes nm)):=fun W hW => RdV.step RB.out hW
  obtain ⟨xa,xc,rfl⟩:=RdV.sliceB RB.out
  clear RB
  generalize nm.length = xn at *
  generalize isNm nm = bn at HNM HAT
  generalize HOk (s,ino,d) = bh at HHO HAT
  cases bn with
  | false =>
   have HF : Hid ((List.range m).all (enAt es) = false):=range_all_false _ _ k hlt (by rw [HAT.out]; rfl)
   go_wp2_with fail
   refine Calls.mono (HNM.out _ (Below.newH _)) ?_
   rintro e w2 ⟨rfl,rfl⟩
   go_wp2
   go_ret
   exact ⟨by rw [HF.out]; rfl,hbel.trans ((Below.newH (w:=wr) _).mono hbel.size)⟩
  | true =>
  cases bh with
  | false =>
   have HF : Hid ((List.range m).all (enAt es) = false):=range_all_false _ _ k hlt (by rw [HAT.out]; rfl)
   go_wp2_with fail
   refine Calls.mono (HNM.out _ (Below.newH _)) ?_
   rintro e w2 ⟨rfl,rfl⟩
   go_wp2_with fail
   refine Calls.mono (HHO.out _) ?_
   rintro e w2 ⟨rfl,rfl⟩
   go_wp2
   go_ret
   exact ⟨by rw [HF.out]; rfl,hbel.trans ((Below.newH2 (w:=wr) _ _).mono hbel.size)⟩
  | true =>
  by_cases hk0 : k = 0
  ·subst hk0
   have HF : Hid ((List.range (0 + 1)).all (enAt es) = true):=range_all_next _ _ HA.out (by rw [HAT.out]; rfl)
   simp only [Nat.zero_mul,Nat.add_zero] at c0 c1 c2 c3
   go_wp2_with fail
   refine Calls.mono (HNM.out _ (Below.newH _)) ?_
   rintro e w2 ⟨rfl,rfl⟩
   go_wp2_with fail
   refine Calls.mono (HHO.out _) ?_
   rintro e w2 ⟨rfl,rfl⟩
   go_wp2
   haveI : Nonempty (Cls ((wr.alloc (.cells #[.slice xa xn xc,.i s,.i ino,.bool d] 86)).alloc (.cells #[.i s,.i ino,.bool d] 48))):=Cls.ne _
   refine wp_region_cls (by kernel_rfl) (by kernel_rfl) ?_
   repeat (go_big_quiet_step (fail))
   refine wpQuiet_nil ?_
   rintro w' ⟨⟨w',hb'⟩,rfl⟩
   have hb3 : Below w.heap.size w w':=hbel.trans (((Below.newH2 (w:=wr) _ _).trans (hb'.mono (by simp; omega))).mono hbel.size)
   go_wp2
   go_roundw
   case rel => exact ⟨0 + 1,by omega,by go_num,hb3,HF.out⟩
   case measure => simp [intOf]; omega
  obtain ⟨j,rfl⟩ : ∃ j,k = j + 1:=⟨k - 1,by omega⟩
  obtain ⟨b9,off9,hbb,hbl9,_,hz⟩:=RdV.at (HR2.out wr hbel) (show j < m by omega)
  simp only [Option.some.injEq,Addr.mk.injEq,and_true] at hbb
  obtain ⟨rfl,rfl⟩:=hbb
  obtain ⟨y0,d0,s0⟩:=hz 0 (by omega)
  simp only [Nat.add_zero] at d0
  have HAT2 : Hid (enAt es (j + 1) = !geS (es[j]?.getD en0).nm nm):=by rw [HAT.out]; show _ = _; simp
  generalize es[j]?.getD en0 = e1 at s0 HAT2
  obtain ⟨nm1,hd1⟩:=e1
  dsimp only at HAT2
  have RY : Hid (RdV wr S y0 (.bytes nm1)):=s0
  clear hz s0 HAT
  have HCP : Hid (∀ W,Below wr.heap.size wr W → _):=fun W hW => bytesCompare_any y0 (.slice xa xn xc) nm1 nm S S W (RdV.step RY.out hW) (HRX.out W hW)
  rw [← cmpB_ge] at HAT2
  obtain ⟨ya,yc,rfl⟩:=RdV.sliceB RY.out
  clear RY HRX
  generalize nm1.length = yn at *
  generalize cmpB nm1 nm = cb at *
  have i1 : (0 : Int) ≤ (j : Int):=by omega
  have i2 : (j : Int) < (m : Int):=by omega
  by_cases hge : 0 ≤ cb
  ·have HF : Hid ((List.range m).all (enAt es) = false):=range_all_false _ _ (j + 1) hlt (by rw [HAT2.out]; simp [hge])
   have hge2 : decide ((0 : Int) ≤ cb) = true:=by simpa using hge
   go_wp2_with fail
   refine Calls.mono (HNM.out _ (Below.newH _)) ?_
   rintro e w2 ⟨rfl,rfl⟩
   go_wp2_with fail
   refine Calls.mono (HHO.out _) ?_
   rintro e w2 ⟨rfl,rfl⟩
   go_wp2
   haveI : Nonempty (Cls ((wr.alloc (.cells #[.slice xa xn xc,.i s,.i ino,.bool d] 86)).alloc (.cells #[.i s,.i ino,.bool d] 48))):=Cls.ne _
   have hblw : b < ((wr.alloc (.cells #[.slice xa xn xc,.i s,.i ino,.bool d] 86)).alloc (.cells #[.i s,.i ino,.bool d] 48)).heap.size:=by simp; omega
   have kd0:=Cls.cell hblw (((Below.newH2 (w:=wr) (.cells #[.slice xa xn xc,.i s,.i ino,.bool d] 86) (.cells #[.i s,.i ino,.bool d] 48)).cell (p:=⟨b,off + j * 4,none⟩) hbl9).trans d0)
   have ke0:=Cls.cell ((VarA.new wr 86 #[.slice xa xn xc,.i s,.i ino,.bool d]).alloc (.cells #[.i s,.i ino,.bool d] 48)).lt ((VarA.new wr 86 #[.slice xa xn xc,.i s,.i ino,.bool d]).alloc (.cells #[.i s,.i ino,.bool d] 48)).l4.1
   refine wp_region_cls (by kernel_rfl) (by kernel_rfl) ?_
   repeat (go_big_quiet_step (first | (go_at_call 129; exact Calls.cls_same (HCP.out _ ((Below.newH2 (w:=wr) _ _).trans ((Cls.h _).mono (by simp; omega)))))))
   refine wpQuiet_nil ?_
   rintro w' ⟨⟨w',hb'⟩,rfl⟩
   have hb3 : Below w.heap.size w w':=hbel.trans (((Below.newH2 (w:=wr) _ _).trans (hb'.mono (by simp; omega))).mono hbel.size)
   go_wp2
   go_ret
   exact ⟨by rw [HF.out]; rfl,hb3⟩
  ·have HF : Hid ((List.range (j + 1 + 1)).all (enAt es) = true):=range_all_next _ _ HA.out (by rw [HAT2.out]; simp [hge])
   have hge2 : decide ((0 : Int) ≤ cb) = false:=by simpa using hge
   go_wp2_with fail
   refine Calls.mono (HNM.out _ (Below.newH _)) ?_
   rintro e w2 ⟨rfl,rfl⟩
   go_wp2_with fail
   refine Calls.mono (HHO.out _) ?_
   rintro e w2 ⟨rfl,rfl⟩
   go_wp2
   haveI : Nonempty (Cls ((wr.alloc (.cells #[.slice xa xn xc,.i s,.i ino,.bool d] 86)).alloc (.cells #[.i s,.i ino,.bool d] 48))):=Cls.ne _
   have hblw : b < ((wr.alloc (.cells #[.slice xa xn xc,.i s,.i ino,.bool d] 86)).alloc (.cells #[.i s,.i ino,.bool d] 48)).heap.size:=by simp; omega
   have kd0:=Cls.cell hblw (((Below.newH2 (w:=wr) (.cells #[.slice xa xn xc,.i s,.i ino,.bool d] 86) (.cells #[.i s,.i ino,.bool d] 48)).cell (p:=⟨b,off + j * 4,none⟩) hbl9).trans d0)
   have ke0:=Cls.cell ((VarA.new wr 86 #[.slice xa xn xc,.i s,.i ino,.bool d]).alloc (.cells #[.i s,.i ino,.bool d] 48)).lt ((VarA.new wr 86 #[.slice xa xn xc,.i s,.i ino,.bool d]).alloc (.cells #[.i s,.i ino,.bool d] 48)).l4.1
   refine wp_region_cls (by kernel_rfl) (by kernel_rfl) ?_
   repeat (go_big_quiet_step (first | (go_at_call 129; exact Calls.cls_same (HCP.out _ ((Below.newH2 (w:=wr) _ _).trans ((Cls.h _).mono (by simp; omega)))))))
   refine wpQuiet_nil ?_
   rintro w' ⟨⟨w',hb'⟩,rfl⟩
   have hb3 : Below w.heap.size w w':=hbel.trans (((Below.newH2 (w:=wr) _ _).trans (hb'.mono (by simp; omega))).mono hbel.size)
   go_wp2
   go_roundw
   case rel => exact ⟨j + 1 + 1,by omega,by go_num,hb3,HF.out⟩
   case measure => simp [intOf]; omega
end Go.Proofs.YtblahkhniabhiaaGreatDoor
