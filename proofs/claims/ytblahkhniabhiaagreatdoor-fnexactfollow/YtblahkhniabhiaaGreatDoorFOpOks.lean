/- What the specification's and the program's looks at an operation answer. Condition: texts of at most 2^21 bytes. -/
import Derived.Test.YtblahkhniabhiaaGreatDoorFA01
namespace Go.Proofs.YtblahkhniabhiaaGreatDoor
open Go.RowKit
set_option linter.unusedVariables false
set_option linter.unusedSimpArgs false

def nmP (k : Int) : Bool:=k == 0 || k == 5 || k == 4 || k == 6 || k == 7
def toP (k : Int) : Bool:=k == 4 || k == 6 || k == 7
def asP (k : Int) : Bool:=k == 7
theorem parts0 (w : World) : Calls Tryz.prog 53 #[.i 0] w fun e w' => e = .returned (.tuple #[.bool true,.bool false,.bool false]) ∧ w' = w:=by
 go_enter Tryz.func53,Tryz.ntmps53
 go_wp2
 refine bodyPost_ret (v:=.tuple #[.bool true,.bool false,.bool false]) (by simp [results,Tryz.results53,go_sem]) rfl ⟨rfl,rfl⟩
theorem parts1 (w : World) : Calls Tryz.prog 53 #[.i 1] w fun e w' => e = .returned (.tuple #[.bool false,.bool false,.bool false]) ∧ w' = w:=by
 go_enter Tryz.func53,Tryz.ntmps53
 go_wp2
 refine bodyPost_ret (v:=.tuple #[.bool false,.bool false,.bool false]) (by simp [results,Tryz.results53,go_sem]) rfl ⟨rfl,rfl⟩
theorem parts2 (w : World) : Calls Tryz.prog 53 #[.i 2] w fun e w' => e = .returned (.tuple #[.bool false,.bool false,.bool false]) ∧ w' = w:=by
 go_enter Tryz.func53,Tryz.ntmps53
 go_wp2
 refine bodyPost_ret (v:=.tuple #[.bool false,.bool false,.bool false]) (by simp [results,Tryz.results53,go_sem]) rfl ⟨rfl,rfl⟩
theorem parts3 (w : World) : Calls Tryz.prog 53 #[.i 3] w fun e w' => e = .returned (.tuple #[.bool false,.bool false,.bool false]) ∧ w' = w:=by
 go_enter Tryz.func53,Tryz.ntmps53
 go_wp2
 refine bodyPost_ret (v:=.tuple #[.bool false,.bool false,.bool false]) (by simp [results,Tryz.results53,go_sem]) rfl ⟨rfl,rfl⟩
theorem parts4 (w : World) : Calls Tryz.prog 53 #[.i 4] w fun e w' => e = .returned (.tuple #[.bool true,.bool true,.bool false]) ∧ w' = w:=by
 go_enter Tryz.func53,Tryz.ntmps53
 go_wp2
 refine bodyPost_ret (v:=.tuple #[.bool true,.bool true,.bool false]) (by simp [results,Tryz.results53,go_sem]) rfl ⟨rfl,rfl⟩
theorem parts5 (w : World) : Calls Tryz.prog 53 #[.i 5] w fun e w' => e = .returned (.tuple #[.bool true,.bool false,.bool false]) ∧ w' = w:=by
 go_enter Tryz.func53,Tryz.ntmps53
 go_wp2
 refine bodyPost_ret (v:=.tuple #[.bool true,.bool false,.bool false]) (by simp [results,Tryz.results53,go_sem]) rfl ⟨rfl,rfl⟩
theorem parts6 (w : World) : Calls Tryz.prog 53 #[.i 6] w fun e w' => e = .returned (.tuple #[.bool true,.bool true,.bool false]) ∧ w' = w:=by
 go_enter Tryz.func53,Tryz.ntmps53
 go_wp2
 refine bodyPost_ret (v:=.tuple #[.bool true,.bool true,.bool false]) (by simp [results,Tryz.results53,go_sem]) rfl ⟨rfl,rfl⟩
theorem parts7 (w : World) : Calls Tryz.prog 53 #[.i 7] w fun e w' => e = .returned (.tuple #[.bool true,.bool true,.bool true]) ∧ w' = w:=by
 go_enter Tryz.func53,Tryz.ntmps53
 go_wp2
 refine bodyPost_ret (v:=.tuple #[.bool true,.bool true,.bool true]) (by simp [results,Tryz.results53,go_sem]) rfl ⟨rfl,rfl⟩

def nmB (o : OpD) : Bool:=if nmP o.kind then isNm o.nm else decide (o.nm.length = 0)
def toB (o : OpD) : Bool:=if o.kind = 4 then (decide (0 ≤ o.to.sh) && decide (o.to.sh < 4)) && decide (o.to.ino = 0) else if toP o.kind then HOk o.to else decide (o.to = hd0)
def asB (o : OpD) : Bool:=if asP o.kind then isNm o.asn else decide (o.asn.length = 0)
def vlB (o : OpD) : Bool:=if o.kind = 3 then decide (0 ≤ o.val) && decide (o.val ≤ 2147483647) else decide (o.val = 0)
def OOk (o : OpD) : Bool:=((decide (0 ≤ o.kind) && decide (o.kind ≤ 7)) && HOk o.dir) && (nmB o && (toB o && (asB o && vlB o)))
theorem kinds {k : Int} (h0 : 0 ≤ k) (h7 : k ≤ 7) : k = 0 ∨ k = 1 ∨ k = 2 ∨ k = 3 ∨ k = 4 ∨ k = 5 ∨ k = 6 ∨ k = 7:=by omega
set_option maxHeartbeats 2000000 in
theorem specOp0 (x y : Value) (o : OpD) (S : Nat → Prop) (w : World) (r : RdV w S x (.bytes o.nm)) (r2 : RdV w S y (.bytes o.asn)) (hl : o.nm.length ≤ 2097152) (hl2 : o.asn.length ≤ 2097152) (hk : o.kind = 0) :
  Calls Tryz.prog 30 #[opV o x y] w fun e w' => e = .returned (.bool (OOk o)) ∧ Below w.heap.size w w':=by
 obtain ⟨a,cap,rfl⟩:=r.sliceB
 obtain ⟨a2,cap2,rfl⟩:=r2.sliceB
 obtain ⟨kd,⟨p,q,d⟩,nm,⟨p2,q2,d2⟩,asn,vl⟩:=o
 dsimp only at r r2 hl hl2 hk ⊢
 subst hk
 have HX : Hid (∀ W,Below w.heap.size w W → _):=fun W hW => specName_any _ nm S W (r.step hW) hl
 have HH : Hid (∀ W,_):=fun W => specHandleOk_w (p,q,d) W
 have HP : Hid (∀ W,_):=fun W => parts0 W
 obtain ⟨res,hres⟩ : ∃ res,OOk ⟨0,(p,q,d),nm,(p2,q2,d2),asn,vl⟩ = res:=⟨_,rfl⟩
 rw [hres]
 simp [OOk,nmB,toB,asB,vlB,nmP,toP,asP,hd0] at hres
 clear r r2
 generalize isNm nm = bn at HX hres
 generalize HOk (p,q,d) = bd at HH hres
 have hn0 : nm = [] ↔ nm.length = 0:=by cases nm <;> simp
 have hn1 : asn = [] ↔ asn.length = 0:=by cases asn <;> simp
 try simp only [hn0,hn1] at hres
 clear hn0 hn1
 generalize nm.length = n0 at *
 generalize asn.length = n1 at *
 have HRES : Hid _:=hres
 clear hres
 cases bd with
 | false =>
  go_enter Tryz.func30,Tryz.ntmps30
  go_wp2_with fail
  refine Calls.mono (HH.out _) ?_
  rintro e w2 ⟨rfl,rfl⟩
  go_wp2
  go_ret; exact ⟨by rw [← HRES.out]; first | rfl | (simp_all [Hd.sh,Hd.ino,Hd.dir] <;> omega),(Below.newH2 _ _)⟩
 | true =>
  cases bn with
  | false =>
   go_enter Tryz.func30,Tryz.ntmps30
   go_wp2_with fail
   refine Calls.mono (HH.out _) ?_
   rintro e w2 ⟨rfl,rfl⟩
   go_wp2_with fail
   refine Calls.mono (HP.out _) ?_
   rintro e w3 ⟨rfl,rfl⟩
   go_wp2_with fail
   refine Calls.mono (HX.out _ (Below.newH2 _ _)) ?_
   rintro e w4 ⟨rfl,rfl⟩
   go_wp2
   all_goals (go_ret; exact ⟨by rw [← HRES.out]; first | rfl | (simp_all [Hd.sh,Hd.ino,Hd.dir] <;> omega),(Below.newH2 _ _)⟩)
  | true =>
   go_enter Tryz.func30,Tryz.ntmps30
   go_wp2_with fail
   refine Calls.mono (HH.out _) ?_
   rintro e w2 ⟨rfl,rfl⟩
   go_wp2_with fail
   refine Calls.mono (HP.out _) ?_
   rintro e w3 ⟨rfl,rfl⟩
   go_wp2_with fail
   refine Calls.mono (HX.out _ (Below.newH2 _ _)) ?_
   rintro e w4 ⟨rfl,rfl⟩
   go_wp2
   all_goals (go_ret; exact ⟨by rw [← HRES.out]; first | rfl | (simp_all [Hd.sh,Hd.ino,Hd.dir] <;> omega),(Below.newH2 _ _)⟩)
set_option maxHeartbeats 2000000 in
theorem specOp1 (x y : Value) (o : OpD) (S : Nat → Prop) (w : World) (r : RdV w S x (.bytes o.nm)) (r2 : RdV w S y (.bytes o.asn)) (hl : o.nm.length ≤ 2097152) (hl2 : o.asn.length ≤ 2097152) (hk : o.kind = 1) :
  Calls Tryz.prog 30 #[opV o x y] w fun e w' => e = .returned (.bool (OOk o)) ∧ Below w.heap.size w w':=by
 obtain ⟨a,cap,rfl⟩:=r.sliceB
 obtain ⟨a2,cap2,rfl⟩:=r2.sliceB
 obtain ⟨kd,⟨p,q,d⟩,nm,⟨p2,q2,d2⟩,asn,vl⟩:=o
 dsimp only at r r2 hl hl2 hk ⊢
 subst hk
 have HH : Hid (∀ W,_):=fun W => specHandleOk_w (p,q,d) W
 have HP : Hid (∀ W,_):=fun W => parts1 W
 obtain ⟨res,hres⟩ : ∃ res,OOk ⟨1,(p,q,d),nm,(p2,q2,d2),asn,vl⟩ = res:=⟨_,rfl⟩
 rw [hres]
 simp [OOk,nmB,toB,asB,vlB,nmP,toP,asP,hd0] at hres
 clear r r2
 generalize HOk (p,q,d) = bd at HH hres
 have hn0 : nm = [] ↔ nm.length = 0:=by cases nm <;> simp
 have hn1 : asn = [] ↔ asn.length = 0:=by cases asn <;> simp
 try simp only [hn0,hn1] at hres
 clear hn0 hn1
 generalize nm.length = n0 at *
 generalize asn.length = n1 at *
 have HRES : Hid _:=hres
 clear hres
 cases bd with
 | false =>
  go_enter Tryz.func30,Tryz.ntmps30
  go_wp2_with fail
  refine Calls.mono (HH.out _) ?_
  rintro e w2 ⟨rfl,rfl⟩
  go_wp2
  go_ret; exact ⟨by rw [← HRES.out]; first | rfl | (simp_all [Hd.sh,Hd.ino,Hd.dir] <;> omega),(Below.newH2 _ _)⟩
 | true =>
  go_enter Tryz.func30,Tryz.ntmps30
  go_wp2_with fail
  refine Calls.mono (HH.out _) ?_
  rintro e w2 ⟨rfl,rfl⟩
  go_wp2_with fail
  refine Calls.mono (HP.out _) ?_
  rintro e w3 ⟨rfl,rfl⟩
  go_wp2
  all_goals (go_ret; exact ⟨by rw [← HRES.out]; first | rfl | (simp_all [Hd.sh,Hd.ino,Hd.dir] <;> omega),(Below.newH2 _ _)⟩)
set_option maxHeartbeats 2000000 in
theorem specOp2 (x y : Value) (o : OpD) (S : Nat → Prop) (w : World) (r : RdV w S x (.bytes o.nm)) (r2 : RdV w S y (.bytes o.asn)) (hl : o.nm.length ≤ 2097152) (hl2 : o.asn.length ≤ 2097152) (hk : o.kind = 2) :
  Calls Tryz.prog 30 #[opV o x y] w fun e w' => e = .returned (.bool (OOk o)) ∧ Below w.heap.size w w':=by
 obtain ⟨a,cap,rfl⟩:=r.sliceB
 obtain ⟨a2,cap2,rfl⟩:=r2.sliceB
 obtain ⟨kd,⟨p,q,d⟩,nm,⟨p2,q2,d2⟩,asn,vl⟩:=o
 dsimp only at r r2 hl hl2 hk ⊢
 subst hk
 have HH : Hid (∀ W,_):=fun W => specHandleOk_w (p,q,d) W
 have HP : Hid (∀ W,_):=fun W => parts2 W
 obtain ⟨res,hres⟩ : ∃ res,OOk ⟨2,(p,q,d),nm,(p2,q2,d2),asn,vl⟩ = res:=⟨_,rfl⟩
 rw [hres]
 simp [OOk,nmB,toB,asB,vlB,nmP,toP,asP,hd0] at hres
 clear r r2
 generalize HOk (p,q,d) = bd at HH hres
 have hn0 : nm = [] ↔ nm.length = 0:=by cases nm <;> simp
 have hn1 : asn = [] ↔ asn.length = 0:=by cases asn <;> simp
 try simp only [hn0,hn1] at hres
 clear hn0 hn1
 generalize nm.length = n0 at *
 generalize asn.length = n1 at *
 have HRES : Hid _:=hres
 clear hres
 cases bd with
 | false =>
  go_enter Tryz.func30,Tryz.ntmps30
  go_wp2_with fail
  refine Calls.mono (HH.out _) ?_
  rintro e w2 ⟨rfl,rfl⟩
  go_wp2
  go_ret; exact ⟨by rw [← HRES.out]; first | rfl | (simp_all [Hd.sh,Hd.ino,Hd.dir] <;> omega),(Below.newH2 _ _)⟩
 | true =>
  go_enter Tryz.func30,Tryz.ntmps30
  go_wp2_with fail
  refine Calls.mono (HH.out _) ?_
  rintro e w2 ⟨rfl,rfl⟩
  go_wp2_with fail
  refine Calls.mono (HP.out _) ?_
  rintro e w3 ⟨rfl,rfl⟩
  go_wp2
  all_goals (go_ret; exact ⟨by rw [← HRES.out]; first | rfl | (simp_all [Hd.sh,Hd.ino,Hd.dir] <;> omega),(Below.newH2 _ _)⟩)
set_option maxHeartbeats 2000000 in
theorem specOp3 (x y : Value) (o : OpD) (S : Nat → Prop) (w : World) (r : RdV w S x (.bytes o.nm)) (r2 : RdV w S y (.bytes o.asn)) (hl : o.nm.length ≤ 2097152) (hl2 : o.asn.length ≤ 2097152) (hk : o.kind = 3) :
  Calls Tryz.prog 30 #[opV o x y] w fun e w' => e = .returned (.bool (OOk o)) ∧ Below w.heap.size w w':=by
 obtain ⟨a,cap,rfl⟩:=r.sliceB
 obtain ⟨a2,cap2,rfl⟩:=r2.sliceB
 obtain ⟨kd,⟨p,q,d⟩,nm,⟨p2,q2,d2⟩,asn,vl⟩:=o
 dsimp only at r r2 hl hl2 hk ⊢
 subst hk
 have HH : Hid (∀ W,_):=fun W => specHandleOk_w (p,q,d) W
 have HP : Hid (∀ W,_):=fun W => parts3 W
 obtain ⟨res,hres⟩ : ∃ res,OOk ⟨3,(p,q,d),nm,(p2,q2,d2),asn,vl⟩ = res:=⟨_,rfl⟩
 rw [hres]
 simp [OOk,nmB,toB,asB,vlB,nmP,toP,asP,hd0] at hres
 clear r r2
 generalize HOk (p,q,d) = bd at HH hres
 have hn0 : nm = [] ↔ nm.length = 0:=by cases nm <;> simp
 have hn1 : asn = [] ↔ asn.length = 0:=by cases asn <;> simp
 try simp only [hn0,hn1] at hres
 clear hn0 hn1
 generalize nm.length = n0 at *
 generalize asn.length = n1 at *
 have HRES : Hid _:=hres
 clear hres
 cases bd with
 | false =>
  go_enter Tryz.func30,Tryz.ntmps30
  go_wp2_with fail
  refine Calls.mono (HH.out _) ?_
  rintro e w2 ⟨rfl,rfl⟩
  go_wp2
  go_ret; exact ⟨by rw [← HRES.out]; first | rfl | (simp_all [Hd.sh,Hd.ino,Hd.dir] <;> omega),(Below.newH2 _ _)⟩
 | true =>
  go_enter Tryz.func30,Tryz.ntmps30
  go_wp2_with fail
  refine Calls.mono (HH.out _) ?_
  rintro e w2 ⟨rfl,rfl⟩
  go_wp2_with fail
  refine Calls.mono (HP.out _) ?_
  rintro e w3 ⟨rfl,rfl⟩
  go_wp2
  all_goals (go_ret; exact ⟨by rw [← HRES.out]; first | rfl | (simp_all [Hd.sh,Hd.ino,Hd.dir] <;> omega),(Below.newH2 _ _)⟩)
set_option maxHeartbeats 2000000 in
theorem specOp4 (x y : Value) (o : OpD) (S : Nat → Prop) (w : World) (r : RdV w S x (.bytes o.nm)) (r2 : RdV w S y (.bytes o.asn)) (hl : o.nm.length ≤ 2097152) (hl2 : o.asn.length ≤ 2097152) (hk : o.kind = 4) :
  Calls Tryz.prog 30 #[opV o x y] w fun e w' => e = .returned (.bool (OOk o)) ∧ Below w.heap.size w w':=by
 obtain ⟨a,cap,rfl⟩:=r.sliceB
 obtain ⟨a2,cap2,rfl⟩:=r2.sliceB
 obtain ⟨kd,⟨p,q,d⟩,nm,⟨p2,q2,d2⟩,asn,vl⟩:=o
 dsimp only at r r2 hl hl2 hk ⊢
 subst hk
 have HX : Hid (∀ W,Below w.heap.size w W → _):=fun W hW => specName_any _ nm S W (r.step hW) hl
 have HH : Hid (∀ W,_):=fun W => specHandleOk_w (p,q,d) W
 have HP : Hid (∀ W,_):=fun W => parts4 W
 obtain ⟨res,hres⟩ : ∃ res,OOk ⟨4,(p,q,d),nm,(p2,q2,d2),asn,vl⟩ = res:=⟨_,rfl⟩
 rw [hres]
 simp [OOk,nmB,toB,asB,vlB,nmP,toP,asP,hd0] at hres
 clear r r2
 generalize isNm nm = bn at HX hres
 generalize HOk (p,q,d) = bd at HH hres
 have hn0 : nm = [] ↔ nm.length = 0:=by cases nm <;> simp
 have hn1 : asn = [] ↔ asn.length = 0:=by cases asn <;> simp
 try simp only [hn0,hn1] at hres
 clear hn0 hn1
 generalize nm.length = n0 at *
 generalize asn.length = n1 at *
 have HRES : Hid _:=hres
 clear hres
 cases bd with
 | false =>
  go_enter Tryz.func30,Tryz.ntmps30
  go_wp2_with fail
  refine Calls.mono (HH.out _) ?_
  rintro e w2 ⟨rfl,rfl⟩
  go_wp2
  go_ret; exact ⟨by rw [← HRES.out]; first | rfl | (simp_all [Hd.sh,Hd.ino,Hd.dir] <;> omega),(Below.newH2 _ _)⟩
 | true =>
  cases bn with
  | false =>
   go_enter Tryz.func30,Tryz.ntmps30
   go_wp2_with fail
   refine Calls.mono (HH.out _) ?_
   rintro e w2 ⟨rfl,rfl⟩
   go_wp2_with fail
   refine Calls.mono (HP.out _) ?_
   rintro e w3 ⟨rfl,rfl⟩
   go_wp2_with fail
   refine Calls.mono (HX.out _ (Below.newH2 _ _)) ?_
   rintro e w4 ⟨rfl,rfl⟩
   go_wp2
   all_goals (go_ret; exact ⟨by rw [← HRES.out]; first | rfl | (simp_all [Hd.sh,Hd.ino,Hd.dir] <;> omega),(Below.newH2 _ _)⟩)
  | true =>
   go_enter Tryz.func30,Tryz.ntmps30
   go_wp2_with fail
   refine Calls.mono (HH.out _) ?_
   rintro e w2 ⟨rfl,rfl⟩
   go_wp2_with fail
   refine Calls.mono (HP.out _) ?_
   rintro e w3 ⟨rfl,rfl⟩
   go_wp2_with fail
   refine Calls.mono (HX.out _ (Below.newH2 _ _)) ?_
   rintro e w4 ⟨rfl,rfl⟩
   go_wp2
   all_goals (go_ret; exact ⟨by rw [← HRES.out]; first | rfl | (simp_all [Hd.sh,Hd.ino,Hd.dir] <;> omega),(Below.newH2 _ _)⟩)
set_option maxHeartbeats 2000000 in
theorem specOp5 (x y : Value) (o : OpD) (S : Nat → Prop) (w : World) (r : RdV w S x (.bytes o.nm)) (r2 : RdV w S y (.bytes o.asn)) (hl : o.nm.length ≤ 2097152) (hl2 : o.asn.length ≤ 2097152) (hk : o.kind = 5) :
  Calls Tryz.prog 30 #[opV o x y] w fun e w' => e = .returned (.bool (OOk o)) ∧ Below w.heap.size w w':=by
 obtain ⟨a,cap,rfl⟩:=r.sliceB
 obtain ⟨a2,cap2,rfl⟩:=r2.sliceB
 obtain ⟨kd,⟨p,q,d⟩,nm,⟨p2,q2,d2⟩,asn,vl⟩:=o
 dsimp only at r r2 hl hl2 hk ⊢
 subst hk
 have HX : Hid (∀ W,Below w.heap.size w W → _):=fun W hW => specName_any _ nm S W (r.step hW) hl
 have HH : Hid (∀ W,_):=fun W => specHandleOk_w (p,q,d) W
 have HP : Hid (∀ W,_):=fun W => parts5 W
 obtain ⟨res,hres⟩ : ∃ res,OOk ⟨5,(p,q,d),nm,(p2,q2,d2),asn,vl⟩ = res:=⟨_,rfl⟩
 rw [hres]
 simp [OOk,nmB,toB,asB,vlB,nmP,toP,asP,hd0] at hres
 clear r r2
 generalize isNm nm = bn at HX hres
 generalize HOk (p,q,d) = bd at HH hres
 have hn0 : nm = [] ↔ nm.length = 0:=by cases nm <;> simp
 have hn1 : asn = [] ↔ asn.length = 0:=by cases asn <;> simp
 try simp only [hn0,hn1] at hres
 clear hn0 hn1
 generalize nm.length = n0 at *
 generalize asn.length = n1 at *
 have HRES : Hid _:=hres
 clear hres
 cases bd with
 | false =>
  go_enter Tryz.func30,Tryz.ntmps30
  go_wp2_with fail
  refine Calls.mono (HH.out _) ?_
  rintro e w2 ⟨rfl,rfl⟩
  go_wp2
  go_ret; exact ⟨by rw [← HRES.out]; first | rfl | (simp_all [Hd.sh,Hd.ino,Hd.dir] <;> omega),(Below.newH2 _ _)⟩
 | true =>
  cases bn with
  | false =>
   go_enter Tryz.func30,Tryz.ntmps30
   go_wp2_with fail
   refine Calls.mono (HH.out _) ?_
   rintro e w2 ⟨rfl,rfl⟩
   go_wp2_with fail
   refine Calls.mono (HP.out _) ?_
   rintro e w3 ⟨rfl,rfl⟩
   go_wp2_with fail
   refine Calls.mono (HX.out _ (Below.newH2 _ _)) ?_
   rintro e w4 ⟨rfl,rfl⟩
   go_wp2
   all_goals (go_ret; exact ⟨by rw [← HRES.out]; first | rfl | (simp_all [Hd.sh,Hd.ino,Hd.dir] <;> omega),(Below.newH2 _ _)⟩)
  | true =>
   go_enter Tryz.func30,Tryz.ntmps30
   go_wp2_with fail
   refine Calls.mono (HH.out _) ?_
   rintro e w2 ⟨rfl,rfl⟩
   go_wp2_with fail
   refine Calls.mono (HP.out _) ?_
   rintro e w3 ⟨rfl,rfl⟩
   go_wp2_with fail
   refine Calls.mono (HX.out _ (Below.newH2 _ _)) ?_
   rintro e w4 ⟨rfl,rfl⟩
   go_wp2
   all_goals (go_ret; exact ⟨by rw [← HRES.out]; first | rfl | (simp_all [Hd.sh,Hd.ino,Hd.dir] <;> omega),(Below.newH2 _ _)⟩)
set_option maxHeartbeats 2000000 in
theorem specOp6 (x y : Value) (o : OpD) (S : Nat → Prop) (w : World) (r : RdV w S x (.bytes o.nm)) (r2 : RdV w S y (.bytes o.asn)) (hl : o.nm.length ≤ 2097152) (hl2 : o.asn.length ≤ 2097152) (hk : o.kind = 6) :
  Calls Tryz.prog 30 #[opV o x y] w fun e w' => e = .returned (.bool (OOk o)) ∧ Below w.heap.size w w':=by
 obtain ⟨a,cap,rfl⟩:=r.sliceB
 obtain ⟨a2,cap2,rfl⟩:=r2.sliceB
 obtain ⟨kd,⟨p,q,d⟩,nm,⟨p2,q2,d2⟩,asn,vl⟩:=o
 dsimp only at r r2 hl hl2 hk ⊢
 subst hk
 have HX : Hid (∀ W,Below w.heap.size w W → _):=fun W hW => specName_any _ nm S W (r.step hW) hl
 have HH : Hid (∀ W,_):=fun W => specHandleOk_w (p,q,d) W
 have HH2 : Hid (∀ W,_):=fun W => specHandleOk_w (p2,q2,d2) W
 have HP : Hid (∀ W,_):=fun W => parts6 W
 obtain ⟨res,hres⟩ : ∃ res,OOk ⟨6,(p,q,d),nm,(p2,q2,d2),asn,vl⟩ = res:=⟨_,rfl⟩
 rw [hres]
 simp [OOk,nmB,toB,asB,vlB,nmP,toP,asP,hd0] at hres
 clear r r2
 generalize isNm nm = bn at HX hres
 generalize HOk (p,q,d) = bd at HH hres
 generalize HOk (p2,q2,d2) = bt at HH2 hres
 have hn0 : nm = [] ↔ nm.length = 0:=by cases nm <;> simp
 have hn1 : asn = [] ↔ asn.length = 0:=by cases asn <;> simp
 try simp only [hn0,hn1] at hres
 clear hn0 hn1
 generalize nm.length = n0 at *
 generalize asn.length = n1 at *
 have HRES : Hid _:=hres
 clear hres
 cases bd with
 | false =>
  go_enter Tryz.func30,Tryz.ntmps30
  go_wp2_with fail
  refine Calls.mono (HH.out _) ?_
  rintro e w2 ⟨rfl,rfl⟩
  go_wp2
  go_ret; exact ⟨by rw [← HRES.out]; first | rfl | (simp_all [Hd.sh,Hd.ino,Hd.dir] <;> omega),(Below.newH2 _ _)⟩
 | true =>
  cases bn with
  | false =>
   go_enter Tryz.func30,Tryz.ntmps30
   go_wp2_with fail
   refine Calls.mono (HH.out _) ?_
   rintro e w2 ⟨rfl,rfl⟩
   go_wp2_with fail
   refine Calls.mono (HP.out _) ?_
   rintro e w3 ⟨rfl,rfl⟩
   go_wp2_with fail
   refine Calls.mono (HX.out _ (Below.newH2 _ _)) ?_
   rintro e w4 ⟨rfl,rfl⟩
   go_wp2
   all_goals (go_ret; exact ⟨by rw [← HRES.out]; first | rfl | (simp_all [Hd.sh,Hd.ino,Hd.dir] <;> omega),(Below.newH2 _ _)⟩)
  | true =>
   by_cases hz1 : n1 = 0
   case neg =>
    go_enter Tryz.func30,Tryz.ntmps30
    go_wp2_with fail
    refine Calls.mono (HH.out _) ?_
    rintro e w2 ⟨rfl,rfl⟩
    go_wp2_with fail
    refine Calls.mono (HP.out _) ?_
    rintro e w3 ⟨rfl,rfl⟩
    go_wp2_with fail
    refine Calls.mono (HX.out _ (Below.newH2 _ _)) ?_
    rintro e w4 ⟨rfl,rfl⟩
    go_wp2
    all_goals (go_ret; exact ⟨by rw [← HRES.out]; first | rfl | (simp_all [Hd.sh,Hd.ino,Hd.dir] <;> omega),(Below.newH2 _ _)⟩)
   subst hz1
   cases bt with
   | false =>
    go_enter Tryz.func30,Tryz.ntmps30
    go_wp2_with fail
    refine Calls.mono (HH.out _) ?_
    rintro e w2 ⟨rfl,rfl⟩
    go_wp2_with fail
    refine Calls.mono (HP.out _) ?_
    rintro e w3 ⟨rfl,rfl⟩
    go_wp2_with fail
    refine Calls.mono (HX.out _ (Below.newH2 _ _)) ?_
    rintro e w4 ⟨rfl,rfl⟩
    go_wp2_with fail
    refine Calls.mono (HH2.out _) ?_
    rintro e w5 ⟨rfl,rfl⟩
    go_wp2
    all_goals (go_ret; exact ⟨by rw [← HRES.out]; first | rfl | (simp_all [Hd.sh,Hd.ino,Hd.dir] <;> omega),(((Below.newH2 (w:=w) _ _).alloc (by simp; omega) _))⟩)
   | true =>
    go_enter Tryz.func30,Tryz.ntmps30
    go_wp2_with fail
    refine Calls.mono (HH.out _) ?_
    rintro e w2 ⟨rfl,rfl⟩
    go_wp2_with fail
    refine Calls.mono (HP.out _) ?_
    rintro e w3 ⟨rfl,rfl⟩
    go_wp2_with fail
    refine Calls.mono (HX.out _ (Below.newH2 _ _)) ?_
    rintro e w4 ⟨rfl,rfl⟩
    go_wp2_with fail
    refine Calls.mono (HH2.out _) ?_
    rintro e w5 ⟨rfl,rfl⟩
    go_wp2
    all_goals (go_ret; exact ⟨by rw [← HRES.out]; first | rfl | (simp_all [Hd.sh,Hd.ino,Hd.dir] <;> omega),(((Below.newH2 (w:=w) _ _).alloc (by simp; omega) _))⟩)
set_option maxHeartbeats 2000000 in
theorem specOp7 (x y : Value) (o : OpD) (S : Nat → Prop) (w : World) (r : RdV w S x (.bytes o.nm)) (r2 : RdV w S y (.bytes o.asn)) (hl : o.nm.length ≤ 2097152) (hl2 : o.asn.length ≤ 2097152) (hk : o.kind = 7) :
  Calls Tryz.prog 30 #[opV o x y] w fun e w' => e = .returned (.bool (OOk o)) ∧ Below w.heap.size w w':=by
 obtain ⟨a,cap,rfl⟩:=r.sliceB
 obtain ⟨a2,cap2,rfl⟩:=r2.sliceB
 obtain ⟨kd,⟨p,q,d⟩,nm,⟨p2,q2,d2⟩,asn,vl⟩:=o
 dsimp only at r r2 hl hl2 hk ⊢
 subst hk
 have HX : Hid (∀ W,Below w.heap.size w W → _):=fun W hW => specName_any _ nm S W (r.step hW) hl
 have HY : Hid (∀ W,Below w.heap.size w W → _):=fun W hW => specName_any _ asn S W (r2.step hW) hl2
 have HH : Hid (∀ W,_):=fun W => specHandleOk_w (p,q,d) W
 have HH2 : Hid (∀ W,_):=fun W => specHandleOk_w (p2,q2,d2) W
 have HP : Hid (∀ W,_):=fun W => parts7 W
 obtain ⟨res,hres⟩ : ∃ res,OOk ⟨7,(p,q,d),nm,(p2,q2,d2),asn,vl⟩ = res:=⟨_,rfl⟩
 rw [hres]
 simp [OOk,nmB,toB,asB,vlB,nmP,toP,asP,hd0] at hres
 clear r r2
 generalize isNm nm = bn at HX hres
 generalize isNm asn = ba at HY hres
 generalize HOk (p,q,d) = bd at HH hres
 generalize HOk (p2,q2,d2) = bt at HH2 hres
 have hn0 : nm = [] ↔ nm.length = 0:=by cases nm <;> simp
 have hn1 : asn = [] ↔ asn.length = 0:=by cases asn <;> simp
 try simp only [hn0,hn1] at hres
 clear hn0 hn1
 generalize nm.length = n0 at *
 generalize asn.length = n1 at *
 have HRES : Hid _:=hres
 clear hres
 cases bd with
 | false =>
  go_enter Tryz.func30,Tryz.ntmps30
  go_wp2_with fail
  refine Calls.mono (HH.out _) ?_
  rintro e w2 ⟨rfl,rfl⟩
  go_wp2
  go_ret; exact ⟨by rw [← HRES.out]; first | rfl | (simp_all [Hd.sh,Hd.ino,Hd.dir] <;> omega),(Below.newH2 _ _)⟩
 | true =>
  cases bn with
  | false =>
   go_enter Tryz.func30,Tryz.ntmps30
   go_wp2_with fail
   refine Calls.mono (HH.out _) ?_
   rintro e w2 ⟨rfl,rfl⟩
   go_wp2_with fail
   refine Calls.mono (HP.out _) ?_
   rintro e w3 ⟨rfl,rfl⟩
   go_wp2_with fail
   refine Calls.mono (HX.out _ (Below.newH2 _ _)) ?_
   rintro e w4 ⟨rfl,rfl⟩
   go_wp2
   all_goals (go_ret; exact ⟨by rw [← HRES.out]; first | rfl | (simp_all [Hd.sh,Hd.ino,Hd.dir] <;> omega),(Below.newH2 _ _)⟩)
  | true =>
   cases ba with
   | false =>
    go_enter Tryz.func30,Tryz.ntmps30
    go_wp2_with fail
    refine Calls.mono (HH.out _) ?_
    rintro e w2 ⟨rfl,rfl⟩
    go_wp2_with fail
    refine Calls.mono (HP.out _) ?_
    rintro e w3 ⟨rfl,rfl⟩
    go_wp2_with fail
    refine Calls.mono (HX.out _ (Below.newH2 _ _)) ?_
    rintro e w4 ⟨rfl,rfl⟩
    go_wp2_with fail
    refine Calls.mono (HY.out _ (Below.newH2 _ _)) ?_
    rintro e w5 ⟨rfl,rfl⟩
    go_wp2
    all_goals (go_ret; exact ⟨by rw [← HRES.out]; first | rfl | (simp_all [Hd.sh,Hd.ino,Hd.dir] <;> omega),(Below.newH2 _ _)⟩)
   | true =>
    cases bt with
    | false =>
     go_enter Tryz.func30,Tryz.ntmps30
     go_wp2_with fail
     refine Calls.mono (HH.out _) ?_
     rintro e w2 ⟨rfl,rfl⟩
     go_wp2_with fail
     refine Calls.mono (HP.out _) ?_
     rintro e w3 ⟨rfl,rfl⟩
     go_wp2_with fail
     refine Calls.mono (HX.out _ (Below.newH2 _ _)) ?_
     rintro e w4 ⟨rfl,rfl⟩
     go_wp2_with fail
     refine Calls.mono (HY.out _ (Below.newH2 _ _)) ?_
     rintro e w5 ⟨rfl,rfl⟩
     go_wp2_with fail
     refine Calls.mono (HH2.out _) ?_
     rintro e w6 ⟨rfl,rfl⟩
     go_wp2
     all_goals (go_ret; exact ⟨by rw [← HRES.out]; first | rfl | (simp_all [Hd.sh,Hd.ino,Hd.dir] <;> omega),(((Below.newH2 (w:=w) _ _).alloc (by simp; omega) _))⟩)
    | true =>
     go_enter Tryz.func30,Tryz.ntmps30
     go_wp2_with fail
     refine Calls.mono (HH.out _) ?_
     rintro e w2 ⟨rfl,rfl⟩
     go_wp2_with fail
     refine Calls.mono (HP.out _) ?_
     rintro e w3 ⟨rfl,rfl⟩
     go_wp2_with fail
     refine Calls.mono (HX.out _ (Below.newH2 _ _)) ?_
     rintro e w4 ⟨rfl,rfl⟩
     go_wp2_with fail
     refine Calls.mono (HY.out _ (Below.newH2 _ _)) ?_
     rintro e w5 ⟨rfl,rfl⟩
     go_wp2_with fail
     refine Calls.mono (HH2.out _) ?_
     rintro e w6 ⟨rfl,rfl⟩
     go_wp2
     all_goals (go_ret; exact ⟨by rw [← HRES.out]; first | rfl | (simp_all [Hd.sh,Hd.ino,Hd.dir] <;> omega),(((Below.newH2 (w:=w) _ _).alloc (by simp; omega) _))⟩)
theorem specOpOk_any (x y : Value) (o : OpD) (S : Nat → Prop) (w : World) (r : RdV w S x (.bytes o.nm)) (r2 : RdV w S y (.bytes o.asn)) (hl : o.nm.length ≤ 2097152) (hl2 : o.asn.length ≤ 2097152) :
  Calls Tryz.prog 30 #[opV o x y] w fun e w' => e = .returned (.bool (OOk o)) ∧ Below w.heap.size w w':=by
 by_cases hk : 0 ≤ o.kind ∧ o.kind ≤ 7
 ·rcases kinds hk.1 hk.2 with h | h | h | h | h | h | h | h
  ·exact specOp0 x y o S w r r2 hl hl2 h
  ·exact specOp1 x y o S w r r2 hl hl2 h
  ·exact specOp2 x y o S w r r2 hl hl2 h
  ·exact specOp3 x y o S w r r2 hl hl2 h
  ·exact specOp4 x y o S w r r2 hl hl2 h
  ·exact specOp5 x y o S w r r2 hl hl2 h
  ·exact specOp6 x y o S w r r2 hl hl2 h
  ·exact specOp7 x y o S w r r2 hl hl2 h
 ·have HF : Hid (OOk o = false):=by show _ = _; unfold OOk; simp; omega
  obtain ⟨a,cap,rfl⟩:=r.sliceB
  obtain ⟨a2,cap2,rfl⟩:=r2.sliceB
  rw [HF.out]
  obtain ⟨kd,⟨p,q,d⟩,nm,⟨p2,q2,d2⟩,asn,vl⟩:=o
  dsimp only at hk ⊢
  generalize nm.length = n0
  generalize asn.length = n1
  clear r r2 hl hl2 HF
  go_enter Tryz.func30,Tryz.ntmps30
  go_wp2_with fail
  all_goals first | (go_ret; exact ⟨rfl,Below.newH _⟩) | (exfalso; omega)
end Go.Proofs.YtblahkhniabhiaaGreatDoor
