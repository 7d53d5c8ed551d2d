/- Joined: MdC WMsg5. -/
import Derived.Test.YtbnjhjgjmckedaaGreatJ05
import Derived.Test.YtbnjhjgjmckedaaGreatJ20
import Derived.Test.YtbnjhjgjmckedaaGreatJ10

section
/- The program reads what a message has by its kind. Condition: at most 2,000,000 bytes. -/
namespace Go.Proofs.YtbnjhjgjmckedaaGreat
open Go.RowKit
set_option linter.unusedVariables false
set_option linter.unusedSimpArgs false
set_option maxRecDepth 100000

theorem step_storeF {ty t' : TypeId} {dst : Option Tmp} {x y : Operand} {pos : String} {af : Array Edge} {ops : Array Oper} {a : Act} {K : Act → World → Prop} {Q : Exit → Act → World → Prop} {E : Prop} {w : World} {g off : Nat} {T : TypeId} {old vs new : Array Value}
    (hv : VarA w g T old) (hx : a.eval x = .pointer (some ⟨g, off, none⟩)) (hy : a.eval y = .agg vs) (hi : (Tryz.prog.info? ty).map (·.size) = some vs.size) (h1 : vs.toList.all (·.oneCell') = true) (hl : off + vs.size ≤ old.size)
    (hnew : (old.toList.take off ++ vs.toList ++ old.toList.drop (off + vs.size)).toArray = new)
    (hK : ∀ w', VarA w' g T new → Turned (fun b => b = g) w w' → K (a.put dst undef) w') :
    if Region.wanted ⟨dst, .store ty x y, t', pos, af, none⟩ (yielded ops a.tmps) = true then Oper.wp Tryz.prog ⟨dst, .store ty x y, t', pos, af, none⟩ a w K Q else E := by
  rw [if_pos (by simp [Region.wanted])]
  unfold Oper.wp execOp
  simp only [hx, hy, Instr.storeAt, Instr.sureAddr, Sem.run_bind, Sem.run_pure, Result.andThen_ok, storeF_run hv hl hi h1]
  rw [hnew]
  exact hK _ (VarA.row hv) (turned_row w g new)
theorem assert_nil {P : Program} {a xT : TypeId} {d : TypeDesc} {z : Value} (hu : P.underlying a = some d) (hd : (match d with | .interface _ => false | _ => true) = true) (hz : (P.info? a).map (·.zero) = some (some z)) (w : World) :
    (Instr.typeAssert .nilIface xT a true).run P w = .ok (.tuple #[z, .bool false]) w := by
  obtain ⟨j, hj, hz'⟩ := Option.map_eq_some_iff.1 hz
  cases d <;> simp_all [Instr.typeAssert, run_underlying hu, zeroValue, typeInfo]
set_option maxHeartbeats 2000000 in
theorem contentX (pb : Nat) (n : Int) (w : World) (hk : n < 0 ∨ 7 < n) : Calls Tryz.prog 40 #[.pointer (some ⟨pb, 0, none⟩), .int .i64 n] w fun e w' => e = .returned .nilIface ∧ w' = w := by
  go_enter Tryz.func40, Tryz.ntmps40
  go_wp2
  all_goals first | (go_ret; exact ⟨rfl, rfl⟩) | (exfalso; omega)
set_option maxHeartbeats 4000000 in
theorem withX (n0 n1 n2 : Int) (w : World) : Calls Tryz.prog 38 #[msV ⟨n0, n1, n2, 0, op0, rp0, tx0, pt0, 0, hd0⟩ (.slice none 0 0) (.slice none 0 0) (.slice none 0 0) (.slice none 0 0), .nilIface] w fun e w' => e = .returned (msV ⟨n0, n1, n2, 0, op0, rp0, tx0, pt0, 0, hd0⟩ (.slice none 0 0) (.slice none 0 0) (.slice none 0 0) (.slice none 0 0)) ∧ Below w.heap.size w w' := by
  simp only [op0, rp0, tx0, pt0, hd0]
  have hM0 := fun W => assert_nil (a := 114) (xT := 56) (z := .agg #[.int .i64 0, .int .i64 0, .int .i64 0, .int .i64 0, .bool false, .slice none 0 0, .int .i64 0, .int .i64 0, .bool false, .slice none 0 0, .int .i64 0]) Tryz.underlying114 rfl (by kernel_rfl) W
  have hM1 := fun W => assert_nil (a := 116) (xT := 56) (z := .agg #[.int .i64 0, .int .i64 0, .int .i64 0, .int .i64 0, .bool false, .int .i64 0, .slice none 0 0]) Tryz.underlying116 rfl (by kernel_rfl) W
  have hM2 := fun W => assert_nil (a := 118) (xT := 56) (z := .agg #[.int .i64 0, .int .i64 0, .int .i64 0, .int .i64 0, .int .i64 0, .int .i64 0, .bool false, .slice none 0 0, .int .i64 0, .int .i64 0, .bool false]) Tryz.underlying118 rfl (by kernel_rfl) W
  have hM3 := fun W => assert_nil (a := 120) (xT := 56) (z := .agg #[.int .i64 0, .int .i64 0, .int .i64 0, .int .i64 0, .int .i64 0, .int .i64 0, .bool false, .slice none 0 0, .int .i64 0, .int .i64 0, .bool false, .int .i64 0, .int .i64 0, .int .i64 0, .bool false]) Tryz.underlying120 rfl (by kernel_rfl) W
  have hM4 := fun W => assert_nil (a := 122) (xT := 56) (z := .agg #[.int .i64 0, .int .i64 0, .int .i64 0]) Tryz.underlying122 rfl (by kernel_rfl) W
  have hM5 := fun W => assert_nil (a := 124) (xT := 56) (z := .agg #[.int .i64 0, .int .i64 0, .int .i64 0, .int .i64 0]) Tryz.underlying124 rfl (by kernel_rfl) W
  have hM6 := fun W => assert_nil (a := 126) (xT := 56) (z := .agg #[.int .i64 0, .int .i64 0, .int .i64 0, .int .i64 0, .int .i64 0, .int .i64 0, .bool false]) Tryz.underlying126 rfl (by kernel_rfl) W
  have hM7 := fun W => assert_nil (a := 128) (xT := 56) (z := .agg #[.int .i64 0, .int .i64 0, .int .i64 0, .int .i64 0, .int .i64 0, .int .i64 0, .int .i64 0, .bool false]) Tryz.underlying128 rfl (by kernel_rfl) W
  go_enter Tryz.func38, Tryz.ntmps38
  repeat (first | ((with_reducible refine guardStore (ty := 35) ?_); refine wpList_storeF (VarA.new1 w _ _ _) rfl rfl (by kernel_rfl) rfl (of_decide_eq_true rfl) rfl ?_; intro w' vR t_) | ((with_reducible refine guardLoad (ty := 35) ?_); refine wpList_loadA ((VarA.new w _ _).alloc _) rfl Tryz.underlying35 rfl (by kernel_rfl) ?_) | go_values | go_skip | go_guarded | go_step | go_upon)
  refine bodyPost_ret (results_cell_row Tryz.results38 _ _ _ _ _ _ _ rfl vR Tryz.underlying35 rfl (by kernel_rfl)) rfl ⟨rfl, ?_⟩
  exact Turned.below (by repeat (first | exact Below.refl _ _ | refine Below.al ?_ _ | refine Below.drew ?_ | refine below_drewN2 ?_ _)) (t_.one (S := fun b => w.heap.size ≤ b) (by omega)) (by simp [World.drew]; omega) (fun i hi => hi)
set_option maxHeartbeats 4000000 in
theorem contentC0 (pb : Nat) (zs : List Int) (v : Value) (p fr to : Int) (w : World) (h : CurV 69 pb zs v p w) (hl : zs.length ≤ 2000000) (n3 ok4 op4 oq4 tp4 tq4 ov4 : Int) (od4 td4 : Bool) (nm4 asn4 : List Int) (q3 q4 : Int) (e3 : getNum zs p = (n3, q3)) (e4 : rdOp zs q3 = (⟨ok4, (op4, oq4, od4), nm4, (tp4, tq4, td4), asn4, ov4⟩, q4)) :
    Calls Tryz.prog 40 #[.pointer (some ⟨pb, 0, none⟩), .int .i64 0] w fun e w' => ∃ a4 l4 c4 a4y l4y c4y, e = .returned (.iface 114 (.agg #[.int .i64 n3, .int .i64 ok4, .int .i64 op4, .int .i64 oq4, .bool od4, .slice a4 l4 c4, .int .i64 tp4, .int .i64 tq4, .bool td4, .slice a4y l4y c4y, .int .i64 ov4])) ∧ OwM w' (fun b => w.heap.size ≤ b ∧ b < w'.heap.size) ⟨0, fr, to, n3, ⟨ok4, (op4, oq4, od4), nm4, (tp4, tq4, td4), asn4, ov4⟩, rp0, tx0, pt0, 0, hd0⟩ (.slice a4 l4 c4) (.slice a4y l4y c4y) (.slice none 0 0) (.slice none 0 0) ∧ Gone 69 pb zs v q4 w w' := by
  have hpl := h.lt
  have H3 : Hid (∀ W, CurV 69 pb zs v p W → _) := fun W hW => by have h_ := implNumC pb zs v p W hW hl; rw [e3] at h_; exact h_
  have H4 : Hid (∀ W, CurV 69 pb zs v q3 W → _) := fun W hW => by have h_ := implOpC pb zs v q3 W hW hl; rw [e4] at h_; exact h_
  have HC3 : Hid (CurV 69 pb zs v p w) := h
  clear h e3 e4
  try dsimp only at H3 H4
  go_enter Tryz.func40, Tryz.ntmps40
  go_wp2_with fail
  refine Calls.mono (H3.out _ HC3.out) ?_
  rintro e w4 ⟨rfl, hc_, t_⟩
  have HT : Hid (Turned (fun b => b = pb) w w4) := t_
  have hx3 := t_.size
  have HC4 : Hid (CurV 69 pb zs v q3 w4) := hc_
  clear hc_ t_ H3 HC3
  go_wp2_with fail
  refine Calls.mono (H4.out _ HC4.out) ?_
  rintro e w5 ⟨a4, l4, c4, a4y, l4y, c4y, M4, rfl, o4, o4y, hM4, hN4, hc_, t_⟩
  have HT_ : Hid (Turned (fun b => b = pb) w w5) := HT.out.trans t_
  clear HT
  have HT := HT_
  clear HT_
  have hx4 := t_.size
  have HO4 : Hid (OwV w5 (fun b => w4.heap.size ≤ b ∧ b < M4) (.slice a4 l4 c4) (.bytes nm4)) := o4
  clear o4
  have HO4y : Hid (OwV w5 (fun b => M4 ≤ b ∧ b < w5.heap.size) (.slice a4y l4y c4y) (.bytes asn4)) := o4y
  clear o4y
  have HC5 : Hid (CurV 69 pb zs v q4 w5) := hc_
  clear hc_ t_ H4 HC4
  have HO4_ := HO4.out
  have HO4y_ := HO4y.out
  go_wp2
  go_ret
  refine ⟨_, _, _, _, _, _, rfl, ⟨fun b => w4.heap.size ≤ b ∧ b < M4, fun b => M4 ≤ b ∧ b < w5.heap.size, fun _ => False, fun _ => False, HO4_, HO4y_, OwV.nilR _ _ _ _ _, OwV.nilB _ _, ?_, ?_, ?_, ?_⟩, HC5.out, HT.out⟩
  · intro b hb
    rcases hb with hb | hb | hb | hb <;> first | exact hb.elim | exact ⟨by omega, by omega⟩
  · intro b hb
    refine ⟨fun h => ?_, fun h => ?_, fun h => ?_⟩ <;> first | exact hb.elim | exact h.elim | omega
  · intro b hb
    refine ⟨fun h => ?_, fun h => ?_⟩ <;> first | exact hb.elim | exact h.elim | omega
  · intro b hb h
    first | exact hb.elim | exact h.elim | omega
set_option maxHeartbeats 4000000 in
theorem contentC1 (pb : Nat) (zs : List Int) (v : Value) (p fr to : Int) (w : World) (h : CurV 69 pb zs v p w) (hl : zs.length ≤ 2000000) (n3 rc4 rp4 rq4 rv4 : Int) (rd4 : Bool) (es4 : List En) (q3 q4 : Int) (e3 : getNum zs p = (n3, q3)) (e4 : rdRp (rdEnP zs) zs q3 = (⟨rc4, (rp4, rq4, rd4), rv4, es4⟩, q4)) :
    Calls Tryz.prog 40 #[.pointer (some ⟨pb, 0, none⟩), .int .i64 1] w fun e w' => ∃ a4 l4 c4, e = .returned (.iface 116 (.agg #[.int .i64 n3, .int .i64 rc4, .int .i64 rp4, .int .i64 rq4, .bool rd4, .int .i64 rv4, .slice a4 l4 c4])) ∧ OwM w' (fun b => w.heap.size ≤ b ∧ b < w'.heap.size) ⟨1, fr, to, n3, op0, ⟨rc4, (rp4, rq4, rd4), rv4, es4⟩, tx0, pt0, 0, hd0⟩ (.slice none 0 0) (.slice none 0 0) (.slice a4 l4 c4) (.slice none 0 0) ∧ Gone 69 pb zs v q4 w w' := by
  have hpl := h.lt
  have H3 : Hid (∀ W, CurV 69 pb zs v p W → _) := fun W hW => by have h_ := implNumC pb zs v p W hW hl; rw [e3] at h_; exact h_
  have H4 : Hid (∀ W, CurV 69 pb zs v q3 W → _) := fun W hW => by have h_ := implReplyC pb zs v q3 W hW hl; rw [e4] at h_; exact h_
  have HC3 : Hid (CurV 69 pb zs v p w) := h
  clear h e3 e4
  try dsimp only at H3 H4
  go_enter Tryz.func40, Tryz.ntmps40
  go_wp2_with fail
  refine Calls.mono (H3.out _ HC3.out) ?_
  rintro e w4 ⟨rfl, hc_, t_⟩
  have HT : Hid (Turned (fun b => b = pb) w w4) := t_
  have hx3 := t_.size
  have HC4 : Hid (CurV 69 pb zs v q3 w4) := hc_
  clear hc_ t_ H3 HC3
  go_wp2_with fail
  refine Calls.mono (H4.out _ HC4.out) ?_
  rintro e w5 ⟨a4, l4, c4, rfl, o4, hc_, t_⟩
  have HT_ : Hid (Turned (fun b => b = pb) w w5) := HT.out.trans t_
  clear HT
  have HT := HT_
  clear HT_
  have hx4 := t_.size
  have HO4 : Hid (OwV w5 (fun b => w4.heap.size ≤ b ∧ b < w5.heap.size) (.slice a4 l4 c4) (ensDt es4)) := o4
  clear o4
  have HC5 : Hid (CurV 69 pb zs v q4 w5) := hc_
  clear hc_ t_ H4 HC4
  have HO4_ := HO4.out
  go_wp2
  go_ret
  refine ⟨_, _, _, rfl, ⟨fun _ => False, fun _ => False, fun b => w4.heap.size ≤ b ∧ b < w5.heap.size, fun _ => False, OwV.nilB _ _, OwV.nilB _ _, HO4_, OwV.nilB _ _, ?_, ?_, ?_, ?_⟩, HC5.out, HT.out⟩
  · intro b hb
    rcases hb with hb | hb | hb | hb <;> first | exact hb.elim | exact ⟨by omega, by omega⟩
  · intro b hb
    refine ⟨fun h => ?_, fun h => ?_, fun h => ?_⟩ <;> first | exact hb.elim | exact h.elim | omega
  · intro b hb
    refine ⟨fun h => ?_, fun h => ?_⟩ <;> first | exact hb.elim | exact h.elim | omega
  · intro b hb h
    first | exact hb.elim | exact h.elim | omega
set_option maxHeartbeats 4000000 in
theorem contentC2 (pb : Nat) (zs : List Int) (v : Value) (p fr to : Int) (w : World) (h : CurV 69 pb zs v p w) (hl : zs.length ≤ 2000000) (xs3 xb3 xn3 pk4 pp4 pq4 sp4 sq4 : Int) (pd4 sd4 : Bool) (pas4 : List Int) (q3 q4 : Int) (e3 : rdTx zs p = ((xs3, xb3, xn3), q3)) (e4 : rdPt zs q3 = (⟨pk4, (pp4, pq4, pd4), pas4, (sp4, sq4, sd4)⟩, q4)) :
    Calls Tryz.prog 40 #[.pointer (some ⟨pb, 0, none⟩), .int .i64 2] w fun e w' => ∃ a4 l4 c4, e = .returned (.iface 118 (.agg #[.int .i64 xs3, .int .i64 xb3, .int .i64 xn3, .int .i64 pk4, .int .i64 pp4, .int .i64 pq4, .bool pd4, .slice a4 l4 c4, .int .i64 sp4, .int .i64 sq4, .bool sd4])) ∧ OwM w' (fun b => w.heap.size ≤ b ∧ b < w'.heap.size) ⟨2, fr, to, 0, op0, rp0, (xs3, xb3, xn3), ⟨pk4, (pp4, pq4, pd4), pas4, (sp4, sq4, sd4)⟩, 0, hd0⟩ (.slice none 0 0) (.slice none 0 0) (.slice none 0 0) (.slice a4 l4 c4) ∧ Gone 69 pb zs v q4 w w' := by
  have hpl := h.lt
  have H3 : Hid (∀ W, CurV 69 pb zs v p W → _) := fun W hW => by have h_ := implTxC pb zs v p W hW hl; rw [e3] at h_; exact h_
  have H4 : Hid (∀ W, CurV 69 pb zs v q3 W → _) := fun W hW => by have h_ := implPartC pb zs v q3 W hW hl; rw [e4] at h_; exact h_
  have HC3 : Hid (CurV 69 pb zs v p w) := h
  clear h e3 e4
  try dsimp only at H3 H4
  go_enter Tryz.func40, Tryz.ntmps40
  go_wp2_with fail
  refine Calls.mono (H3.out _ HC3.out) ?_
  rintro e w4 ⟨rfl, hc_, t_⟩
  have HT : Hid (Turned (fun b => b = pb) w w4) := t_
  have hx3 := t_.size
  have HC4 : Hid (CurV 69 pb zs v q3 w4) := hc_
  clear hc_ t_ H3 HC3
  go_wp2_with fail
  refine Calls.mono (H4.out _ HC4.out) ?_
  rintro e w5 ⟨a4, l4, c4, rfl, o4, hc_, t_⟩
  have HT_ : Hid (Turned (fun b => b = pb) w w5) := HT.out.trans t_
  clear HT
  have HT := HT_
  clear HT_
  have hx4 := t_.size
  have HO4 : Hid (OwV w5 (fun b => w4.heap.size ≤ b ∧ b < w5.heap.size) (.slice a4 l4 c4) (.bytes pas4)) := o4
  clear o4
  have HC5 : Hid (CurV 69 pb zs v q4 w5) := hc_
  clear hc_ t_ H4 HC4
  have HO4_ := HO4.out
  go_wp2
  go_ret
  refine ⟨_, _, _, rfl, ⟨fun _ => False, fun _ => False, fun _ => False, fun b => w4.heap.size ≤ b ∧ b < w5.heap.size, OwV.nilB _ _, OwV.nilB _ _, OwV.nilR _ _ _ _ _, HO4_, ?_, ?_, ?_, ?_⟩, HC5.out, HT.out⟩
  · intro b hb
    rcases hb with hb | hb | hb | hb <;> first | exact hb.elim | exact ⟨by omega, by omega⟩
  · intro b hb
    refine ⟨fun h => ?_, fun h => ?_, fun h => ?_⟩ <;> first | exact hb.elim | exact h.elim | omega
  · intro b hb
    refine ⟨fun h => ?_, fun h => ?_⟩ <;> first | exact hb.elim | exact h.elim | omega
  · intro b hb h
    first | exact hb.elim | exact h.elim | omega
set_option maxHeartbeats 4000000 in
theorem contentC3 (pb : Nat) (zs : List Int) (v : Value) (p fr to : Int) (w : World) (h : CurV 69 pb zs v p w) (hl : zs.length ≤ 2000000) (xs3 xb3 xn3 pk4 pp4 pq4 sp4 sq4 n5 hs6 hi6 : Int) (pd4 sd4 hd6 : Bool) (pas4 : List Int) (q3 q4 q5 q6 : Int) (e3 : rdTx zs p = ((xs3, xb3, xn3), q3)) (e4 : rdPt zs q3 = (⟨pk4, (pp4, pq4, pd4), pas4, (sp4, sq4, sd4)⟩, q4)) (e5 : getNum zs q4 = (n5, q5)) (e6 : rdHd zs q5 = ((hs6, hi6, hd6), q6)) :
    Calls Tryz.prog 40 #[.pointer (some ⟨pb, 0, none⟩), .int .i64 3] w fun e w' => ∃ a4 l4 c4, e = .returned (.iface 120 (.agg #[.int .i64 xs3, .int .i64 xb3, .int .i64 xn3, .int .i64 pk4, .int .i64 pp4, .int .i64 pq4, .bool pd4, .slice a4 l4 c4, .int .i64 sp4, .int .i64 sq4, .bool sd4, .int .i64 n5, .int .i64 hs6, .int .i64 hi6, .bool hd6])) ∧ OwM w' (fun b => w.heap.size ≤ b ∧ b < w'.heap.size) ⟨3, fr, to, 0, op0, rp0, (xs3, xb3, xn3), ⟨pk4, (pp4, pq4, pd4), pas4, (sp4, sq4, sd4)⟩, n5, (hs6, hi6, hd6)⟩ (.slice none 0 0) (.slice none 0 0) (.slice none 0 0) (.slice a4 l4 c4) ∧ Gone 69 pb zs v q6 w w' := by
  have hpl := h.lt
  have H3 : Hid (∀ W, CurV 69 pb zs v p W → _) := fun W hW => by have h_ := implTxC pb zs v p W hW hl; rw [e3] at h_; exact h_
  have H4 : Hid (∀ W, CurV 69 pb zs v q3 W → _) := fun W hW => by have h_ := implPartC pb zs v q3 W hW hl; rw [e4] at h_; exact h_
  have H5 : Hid (∀ W, CurV 69 pb zs v q4 W → _) := fun W hW => by have h_ := implNumC pb zs v q4 W hW hl; rw [e5] at h_; exact h_
  have H6 : Hid (∀ W, CurV 69 pb zs v q5 W → _) := fun W hW => by have h_ := implHandC pb zs v q5 W hW hl; rw [e6] at h_; exact h_
  have HC3 : Hid (CurV 69 pb zs v p w) := h
  clear h e3 e4 e5 e6
  try dsimp only at H3 H4 H5 H6
  go_enter Tryz.func40, Tryz.ntmps40
  go_wp2_with fail
  refine Calls.mono (H3.out _ HC3.out) ?_
  rintro e w4 ⟨rfl, hc_, t_⟩
  have HT : Hid (Turned (fun b => b = pb) w w4) := t_
  have hx3 := t_.size
  have HC4 : Hid (CurV 69 pb zs v q3 w4) := hc_
  clear hc_ t_ H3 HC3
  go_wp2_with fail
  refine Calls.mono (H4.out _ HC4.out) ?_
  rintro e w5 ⟨a4, l4, c4, rfl, o4, hc_, t_⟩
  have HT_ : Hid (Turned (fun b => b = pb) w w5) := HT.out.trans t_
  clear HT
  have HT := HT_
  clear HT_
  have hx4 := t_.size
  have HO4 : Hid (OwV w5 (fun b => w4.heap.size ≤ b ∧ b < w5.heap.size) (.slice a4 l4 c4) (.bytes pas4)) := o4
  clear o4
  have HC5 : Hid (CurV 69 pb zs v q4 w5) := hc_
  clear hc_ t_ H4 HC4
  go_wp2_with fail
  refine Calls.mono (H5.out _ HC5.out) ?_
  rintro e w6 ⟨rfl, hc_, t_⟩
  have HT_ : Hid (Turned (fun b => b = pb) w w6) := HT.out.trans t_
  clear HT
  have HT := HT_
  clear HT_
  have hx5 := t_.size
  have HO4_ : Hid (OwV w6 (fun b => w4.heap.size ≤ b ∧ b < w5.heap.size) (.slice a4 l4 c4) (.bytes pas4)) := HO4.out.keep (t_.keeps (fun b hb hs => by omega))
  clear HO4
  have HO4 := HO4_
  clear HO4_
  have HC6 : Hid (CurV 69 pb zs v q5 w6) := hc_
  clear hc_ t_ H5 HC5
  go_wp2_with fail
  refine Calls.mono (H6.out _ HC6.out) ?_
  rintro e w7 ⟨rfl, hc_, t_⟩
  have HT_ : Hid (Turned (fun b => b = pb) w w7) := HT.out.trans t_
  clear HT
  have HT := HT_
  clear HT_
  have hx6 := t_.size
  have HO4_ : Hid (OwV w7 (fun b => w4.heap.size ≤ b ∧ b < w5.heap.size) (.slice a4 l4 c4) (.bytes pas4)) := HO4.out.keep (t_.keeps (fun b hb hs => by omega))
  clear HO4
  have HO4 := HO4_
  clear HO4_
  have HC7 : Hid (CurV 69 pb zs v q6 w7) := hc_
  clear hc_ t_ H6 HC6
  have HO4_ := HO4.out
  go_wp2
  go_ret
  refine ⟨_, _, _, rfl, ⟨fun _ => False, fun _ => False, fun _ => False, fun b => w4.heap.size ≤ b ∧ b < w5.heap.size, OwV.nilB _ _, OwV.nilB _ _, OwV.nilR _ _ _ _ _, HO4_, ?_, ?_, ?_, ?_⟩, HC7.out, HT.out⟩
  · intro b hb
    rcases hb with hb | hb | hb | hb <;> first | exact hb.elim | exact ⟨by omega, by omega⟩
  · intro b hb
    refine ⟨fun h => ?_, fun h => ?_, fun h => ?_⟩ <;> first | exact hb.elim | exact h.elim | omega
  · intro b hb
    refine ⟨fun h => ?_, fun h => ?_⟩ <;> first | exact hb.elim | exact h.elim | omega
  · intro b hb h
    first | exact hb.elim | exact h.elim | omega
set_option maxHeartbeats 4000000 in
theorem contentC4 (pb : Nat) (zs : List Int) (v : Value) (p fr to : Int) (w : World) (h : CurV 69 pb zs v p w) (hl : zs.length ≤ 2000000) (xs3 xb3 xn3 : Int) (q3 : Int) (e3 : rdTx zs p = ((xs3, xb3, xn3), q3)) :
    Calls Tryz.prog 40 #[.pointer (some ⟨pb, 0, none⟩), .int .i64 4] w fun e w' => e = .returned (.iface 122 (.agg #[.int .i64 xs3, .int .i64 xb3, .int .i64 xn3])) ∧ OwM w' (fun b => w.heap.size ≤ b ∧ b < w'.heap.size) ⟨4, fr, to, 0, op0, rp0, (xs3, xb3, xn3), pt0, 0, hd0⟩ (.slice none 0 0) (.slice none 0 0) (.slice none 0 0) (.slice none 0 0) ∧ Gone 69 pb zs v q3 w w' := by
  have hpl := h.lt
  have H3 : Hid (∀ W, CurV 69 pb zs v p W → _) := fun W hW => by have h_ := implTxC pb zs v p W hW hl; rw [e3] at h_; exact h_
  have HC3 : Hid (CurV 69 pb zs v p w) := h
  clear h e3
  try dsimp only at H3
  go_enter Tryz.func40, Tryz.ntmps40
  go_wp2_with fail
  refine Calls.mono (H3.out _ HC3.out) ?_
  rintro e w4 ⟨rfl, hc_, t_⟩
  have HT : Hid (Turned (fun b => b = pb) w w4) := t_
  have hx3 := t_.size
  have HC4 : Hid (CurV 69 pb zs v q3 w4) := hc_
  clear hc_ t_ H3 HC3
  go_wp2
  go_ret
  refine ⟨rfl, ⟨fun _ => False, fun _ => False, fun _ => False, fun _ => False, OwV.nilB _ _, OwV.nilB _ _, OwV.nilR _ _ _ _ _, OwV.nilB _ _, ?_, ?_, ?_, ?_⟩, HC4.out, HT.out⟩
  · intro b hb
    rcases hb with hb | hb | hb | hb <;> first | exact hb.elim | exact ⟨by omega, by omega⟩
  · intro b hb
    refine ⟨fun h => ?_, fun h => ?_, fun h => ?_⟩ <;> first | exact hb.elim | exact h.elim | omega
  · intro b hb
    refine ⟨fun h => ?_, fun h => ?_⟩ <;> first | exact hb.elim | exact h.elim | omega
  · intro b hb h
    first | exact hb.elim | exact h.elim | omega
set_option maxHeartbeats 4000000 in
theorem contentC5 (pb : Nat) (zs : List Int) (v : Value) (p fr to : Int) (w : World) (h : CurV 69 pb zs v p w) (hl : zs.length ≤ 2000000) (xs3 xb3 xn3 n4 : Int) (q3 q4 : Int) (e3 : rdTx zs p = ((xs3, xb3, xn3), q3)) (e4 : getNum zs q3 = (n4, q4)) :
    Calls Tryz.prog 40 #[.pointer (some ⟨pb, 0, none⟩), .int .i64 5] w fun e w' => e = .returned (.iface 124 (.agg #[.int .i64 xs3, .int .i64 xb3, .int .i64 xn3, .int .i64 n4])) ∧ OwM w' (fun b => w.heap.size ≤ b ∧ b < w'.heap.size) ⟨5, fr, to, 0, op0, rp0, (xs3, xb3, xn3), pt0, n4, hd0⟩ (.slice none 0 0) (.slice none 0 0) (.slice none 0 0) (.slice none 0 0) ∧ Gone 69 pb zs v q4 w w' := by
  have hpl := h.lt
  have H3 : Hid (∀ W, CurV 69 pb zs v p W → _) := fun W hW => by have h_ := implTxC pb zs v p W hW hl; rw [e3] at h_; exact h_
  have H4 : Hid (∀ W, CurV 69 pb zs v q3 W → _) := fun W hW => by have h_ := implNumC pb zs v q3 W hW hl; rw [e4] at h_; exact h_
  have HC3 : Hid (CurV 69 pb zs v p w) := h
  clear h e3 e4
  try dsimp only at H3 H4
  go_enter Tryz.func40, Tryz.ntmps40
  go_wp2_with fail
  refine Calls.mono (H3.out _ HC3.out) ?_
  rintro e w4 ⟨rfl, hc_, t_⟩
  have HT : Hid (Turned (fun b => b = pb) w w4) := t_
  have hx3 := t_.size
  have HC4 : Hid (CurV 69 pb zs v q3 w4) := hc_
  clear hc_ t_ H3 HC3
  go_wp2_with fail
  refine Calls.mono (H4.out _ HC4.out) ?_
  rintro e w5 ⟨rfl, hc_, t_⟩
  have HT_ : Hid (Turned (fun b => b = pb) w w5) := HT.out.trans t_
  clear HT
  have HT := HT_
  clear HT_
  have hx4 := t_.size
  have HC5 : Hid (CurV 69 pb zs v q4 w5) := hc_
  clear hc_ t_ H4 HC4
  go_wp2
  go_ret
  refine ⟨rfl, ⟨fun _ => False, fun _ => False, fun _ => False, fun _ => False, OwV.nilB _ _, OwV.nilB _ _, OwV.nilR _ _ _ _ _, OwV.nilB _ _, ?_, ?_, ?_, ?_⟩, HC5.out, HT.out⟩
  · intro b hb
    rcases hb with hb | hb | hb | hb <;> first | exact hb.elim | exact ⟨by omega, by omega⟩
  · intro b hb
    refine ⟨fun h => ?_, fun h => ?_, fun h => ?_⟩ <;> first | exact hb.elim | exact h.elim | omega
  · intro b hb
    refine ⟨fun h => ?_, fun h => ?_⟩ <;> first | exact hb.elim | exact h.elim | omega
  · intro b hb h
    first | exact hb.elim | exact h.elim | omega
set_option maxHeartbeats 4000000 in
theorem contentC6 (pb : Nat) (zs : List Int) (v : Value) (p fr to : Int) (w : World) (h : CurV 69 pb zs v p w) (hl : zs.length ≤ 2000000) (xs3 xb3 xn3 n4 hs5 hi5 : Int) (hd5 : Bool) (q3 q4 q5 : Int) (e3 : rdTx zs p = ((xs3, xb3, xn3), q3)) (e4 : getNum zs q3 = (n4, q4)) (e5 : rdHd zs q4 = ((hs5, hi5, hd5), q5)) :
    Calls Tryz.prog 40 #[.pointer (some ⟨pb, 0, none⟩), .int .i64 6] w fun e w' => e = .returned (.iface 126 (.agg #[.int .i64 xs3, .int .i64 xb3, .int .i64 xn3, .int .i64 n4, .int .i64 hs5, .int .i64 hi5, .bool hd5])) ∧ OwM w' (fun b => w.heap.size ≤ b ∧ b < w'.heap.size) ⟨6, fr, to, n4, op0, rp0, (xs3, xb3, xn3), pt0, 0, (hs5, hi5, hd5)⟩ (.slice none 0 0) (.slice none 0 0) (.slice none 0 0) (.slice none 0 0) ∧ Gone 69 pb zs v q5 w w' := by
  have hpl := h.lt
  have H3 : Hid (∀ W, CurV 69 pb zs v p W → _) := fun W hW => by have h_ := implTxC pb zs v p W hW hl; rw [e3] at h_; exact h_
  have H4 : Hid (∀ W, CurV 69 pb zs v q3 W → _) := fun W hW => by have h_ := implNumC pb zs v q3 W hW hl; rw [e4] at h_; exact h_
  have H5 : Hid (∀ W, CurV 69 pb zs v q4 W → _) := fun W hW => by have h_ := implHandC pb zs v q4 W hW hl; rw [e5] at h_; exact h_
  have HC3 : Hid (CurV 69 pb zs v p w) := h
  clear h e3 e4 e5
  try dsimp only at H3 H4 H5
  go_enter Tryz.func40, Tryz.ntmps40
  go_wp2_with fail
  refine Calls.mono (H3.out _ HC3.out) ?_
  rintro e w4 ⟨rfl, hc_, t_⟩
  have HT : Hid (Turned (fun b => b = pb) w w4) := t_
  have hx3 := t_.size
  have HC4 : Hid (CurV 69 pb zs v q3 w4) := hc_
  clear hc_ t_ H3 HC3
  go_wp2_with fail
  refine Calls.mono (H4.out _ HC4.out) ?_
  rintro e w5 ⟨rfl, hc_, t_⟩
  have HT_ : Hid (Turned (fun b => b = pb) w w5) := HT.out.trans t_
  clear HT
  have HT := HT_
  clear HT_
  have hx4 := t_.size
  have HC5 : Hid (CurV 69 pb zs v q4 w5) := hc_
  clear hc_ t_ H4 HC4
  go_wp2_with fail
  refine Calls.mono (H5.out _ HC5.out) ?_
  rintro e w6 ⟨rfl, hc_, t_⟩
  have HT_ : Hid (Turned (fun b => b = pb) w w6) := HT.out.trans t_
  clear HT
  have HT := HT_
  clear HT_
  have hx5 := t_.size
  have HC6 : Hid (CurV 69 pb zs v q5 w6) := hc_
  clear hc_ t_ H5 HC5
  go_wp2
  go_ret
  refine ⟨rfl, ⟨fun _ => False, fun _ => False, fun _ => False, fun _ => False, OwV.nilB _ _, OwV.nilB _ _, OwV.nilR _ _ _ _ _, OwV.nilB _ _, ?_, ?_, ?_, ?_⟩, HC6.out, HT.out⟩
  · intro b hb
    rcases hb with hb | hb | hb | hb <;> first | exact hb.elim | exact ⟨by omega, by omega⟩
  · intro b hb
    refine ⟨fun h => ?_, fun h => ?_, fun h => ?_⟩ <;> first | exact hb.elim | exact h.elim | omega
  · intro b hb
    refine ⟨fun h => ?_, fun h => ?_⟩ <;> first | exact hb.elim | exact h.elim | omega
  · intro b hb h
    first | exact hb.elim | exact h.elim | omega
set_option maxHeartbeats 4000000 in
theorem contentC7 (pb : Nat) (zs : List Int) (v : Value) (p fr to : Int) (w : World) (h : CurV 69 pb zs v p w) (hl : zs.length ≤ 2000000) (xs3 xb3 xn3 n4 n5 hs6 hi6 : Int) (hd6 : Bool) (q3 q4 q5 q6 : Int) (e3 : rdTx zs p = ((xs3, xb3, xn3), q3)) (e4 : getNum zs q3 = (n4, q4)) (e5 : getNum zs q4 = (n5, q5)) (e6 : rdHd zs q5 = ((hs6, hi6, hd6), q6)) :
    Calls Tryz.prog 40 #[.pointer (some ⟨pb, 0, none⟩), .int .i64 7] w fun e w' => e = .returned (.iface 128 (.agg #[.int .i64 xs3, .int .i64 xb3, .int .i64 xn3, .int .i64 n4, .int .i64 n5, .int .i64 hs6, .int .i64 hi6, .bool hd6])) ∧ OwM w' (fun b => w.heap.size ≤ b ∧ b < w'.heap.size) ⟨7, fr, to, n4, op0, rp0, (xs3, xb3, xn3), pt0, n5, (hs6, hi6, hd6)⟩ (.slice none 0 0) (.slice none 0 0) (.slice none 0 0) (.slice none 0 0) ∧ Gone 69 pb zs v q6 w w' := by
  have hpl := h.lt
  have H3 : Hid (∀ W, CurV 69 pb zs v p W → _) := fun W hW => by have h_ := implTxC pb zs v p W hW hl; rw [e3] at h_; exact h_
  have H4 : Hid (∀ W, CurV 69 pb zs v q3 W → _) := fun W hW => by have h_ := implNumC pb zs v q3 W hW hl; rw [e4] at h_; exact h_
  have H5 : Hid (∀ W, CurV 69 pb zs v q4 W → _) := fun W hW => by have h_ := implNumC pb zs v q4 W hW hl; rw [e5] at h_; exact h_
  have H6 : Hid (∀ W, CurV 69 pb zs v q5 W → _) := fun W hW => by have h_ := implHandC pb zs v q5 W hW hl; rw [e6] at h_; exact h_
  have HC3 : Hid (CurV 69 pb zs v p w) := h
  clear h e3 e4 e5 e6
  try dsimp only at H3 H4 H5 H6
  go_enter Tryz.func40, Tryz.ntmps40
  go_wp2_with fail
  refine Calls.mono (H3.out _ HC3.out) ?_
  rintro e w4 ⟨rfl, hc_, t_⟩
  have HT : Hid (Turned (fun b => b = pb) w w4) := t_
  have hx3 := t_.size
  have HC4 : Hid (CurV 69 pb zs v q3 w4) := hc_
  clear hc_ t_ H3 HC3
  go_wp2_with fail
  refine Calls.mono (H4.out _ HC4.out) ?_
  rintro e w5 ⟨rfl, hc_, t_⟩
  have HT_ : Hid (Turned (fun b => b = pb) w w5) := HT.out.trans t_
  clear HT
  have HT := HT_
  clear HT_
  have hx4 := t_.size
  have HC5 : Hid (CurV 69 pb zs v q4 w5) := hc_
  clear hc_ t_ H4 HC4
  go_wp2_with fail
  refine Calls.mono (H5.out _ HC5.out) ?_
  rintro e w6 ⟨rfl, hc_, t_⟩
  have HT_ : Hid (Turned (fun b => b = pb) w w6) := HT.out.trans t_
  clear HT
  have HT := HT_
  clear HT_
  have hx5 := t_.size
  have HC6 : Hid (CurV 69 pb zs v q5 w6) := hc_
  clear hc_ t_ H5 HC5
  go_wp2_with fail
  refine Calls.mono (H6.out _ HC6.out) ?_
  rintro e w7 ⟨rfl, hc_, t_⟩
  have HT_ : Hid (Turned (fun b => b = pb) w w7) := HT.out.trans t_
  clear HT
  have HT := HT_
  clear HT_
  have hx6 := t_.size
  have HC7 : Hid (CurV 69 pb zs v q6 w7) := hc_
  clear hc_ t_ H6 HC6
  go_wp2
  go_ret
  refine ⟨rfl, ⟨fun _ => False, fun _ => False, fun _ => False, fun _ => False, OwV.nilB _ _, OwV.nilB _ _, OwV.nilR _ _ _ _ _, OwV.nilB _ _, ?_, ?_, ?_, ?_⟩, HC7.out, HT.out⟩
  · intro b hb
    rcases hb with hb | hb | hb | hb <;> first | exact hb.elim | exact ⟨by omega, by omega⟩
  · intro b hb
    refine ⟨fun h => ?_, fun h => ?_, fun h => ?_⟩ <;> first | exact hb.elim | exact h.elim | omega
  · intro b hb
    refine ⟨fun h => ?_, fun h => ?_⟩ <;> first | exact hb.elim | exact h.elim | omega
  · intro b hb h
    first | exact hb.elim | exact h.elim | omega
end Go.Proofs.YtbnjhjgjmckedaaGreat
end

section
/- What the program asks of a message by its kind. Condition: no more than 2^21 of all. -/
namespace Go.Proofs.YtbnjhjgjmckedaaGreat
open Go.RowKit
set_option linter.unusedVariables false
set_option linter.unusedSimpArgs false
set_option maxRecDepth 100000

theorem implEnd_w (n : Int) (w : World) : Calls Tryz.prog 35 #[.int .i64 n] w fun e w' => e = .returned (.bool (isEndB n)) ∧ w' = w := by
  go_enter Tryz.func35, Tryz.ntmps35
  go_wp2
  all_goals (go_ret; exact ⟨by first | rfl | (simp_all [isEndB]; done) | (simp_all [isEndB]; omega), rfl⟩)
theorem implFlag_w (n : Int) (w : World) : Calls Tryz.prog 124 #[.int .i64 n] w fun e w' => e = .returned (.bool (decide (n = 0) || decide (n = 1))) ∧ w' = w := by
  go_enter Tryz.func124, Tryz.ntmps124
  go_wp2
  all_goals (go_ret; exact ⟨by first | rfl | (simp_all; done) | (simp_all; omega) | (simp_all; rw [Bool.eq_iff_iff]; simp; done), rfl⟩)
theorem VarA.l15 {w : World} {b : Nat} {T : TypeId} {x0 x1 x2 x3 x4 x5 x6 x7 x8 x9 x10 x11 x12 x13 x14 : Value} (h : VarA w b T #[x0, x1, x2, x3, x4, x5, x6, x7, x8, x9, x10, x11, x12, x13, x14]) : w.cell? ⟨b, 0, none⟩ = some x0 ∧ w.cell? ⟨b, 1, none⟩ = some x1 ∧ w.cell? ⟨b, 2, none⟩ = some x2 ∧ w.cell? ⟨b, 3, none⟩ = some x3 ∧ w.cell? ⟨b, 4, none⟩ = some x4 ∧ w.cell? ⟨b, 5, none⟩ = some x5 ∧ w.cell? ⟨b, 6, none⟩ = some x6 ∧ w.cell? ⟨b, 7, none⟩ = some x7 ∧ w.cell? ⟨b, 8, none⟩ = some x8 ∧ w.cell? ⟨b, 9, none⟩ = some x9 ∧ w.cell? ⟨b, 10, none⟩ = some x10 ∧ w.cell? ⟨b, 11, none⟩ = some x11 ∧ w.cell? ⟨b, 12, none⟩ = some x12 ∧ w.cell? ⟨b, 13, none⟩ = some x13 ∧ w.cell? ⟨b, 14, none⟩ = some x14 := ⟨h.c 0 rfl, h.c 1 rfl, h.c 2 rfl, h.c 3 rfl, h.c 4 rfl, h.c 5 rfl, h.c 6 rfl, h.c 7 rfl, h.c 8 rfl, h.c 9 rfl, h.c 10 rfl, h.c 11 rfl, h.c 12 rfl, h.c 13 rfl, h.c 14 rfl⟩
set_option maxHeartbeats 4000000 in
theorem okM0 (m : MsD) (a1 a2 a3 a4 : Option Addr) (n1 n2 n3 n4 c1 c2 c3 c4 : Nat) (S : Nat → Prop) (w : World) (r : RdM w S m (.slice a1 n1 c1) (.slice a2 n2 c2) (.slice a3 n3 c3) (.slice a4 n4 c4)) (hl : szMs m ≤ 2097152) :
    Calls Tryz.prog 153 #[.agg #[.int .i64 m.req, .int .i64 m.op.kind, .int .i64 m.op.dir.sh, .int .i64 m.op.dir.ino, .bool m.op.dir.dir, .slice a1 n1 c1, .int .i64 m.op.to.sh, .int .i64 m.op.to.ino, .bool m.op.to.dir, .slice a2 n2 c2, .int .i64 m.op.val]] w fun e w' => e = .returned (.bool (num m.req && OOk m.op)) ∧ Below w.heap.size w w' := by
  obtain ⟨r1, r2, r3, r4⟩ := r
  unfold szMs at hl
  have HU : Hid (∀ (n : Int) (W : World), Calls Tryz.prog 154 #[.int .i64 n] W fun e w' => e = .returned (.bool (num n)) ∧ w' = W) := fun n W => isNumber_any n W
  have HT : Hid (∀ (a b c : Int) (W : World), Calls Tryz.prog 167 #[.agg #[.int .i64 a, .int .i64 b, .int .i64 c]] W fun e w' => e = .returned (.bool (TOk (a, b, c))) ∧ w' = W.alloc (.cells #[.int .i64 a, .int .i64 b, .int .i64 c] 31)) := fun a b c W => implTxOk_w (a, b, c) W
  have HC : Hid (∀ (n : Int) (W : World), Calls Tryz.prog 164 #[.int .i64 n] W fun e w' => e = .returned (.bool (isCd n)) ∧ w' = W) := fun n W => implCode_w n W
  have HFL : Hid (∀ (n : Int) (W : World), Calls Tryz.prog 124 #[.int .i64 n] W fun e w' => e = .returned (.bool (decide (n = 0) || decide (n = 1))) ∧ w' = W) := fun n W => implFlag_w n W
  have HD : Hid (∀ (p q : Int) (d : Bool) (W : World), Calls Tryz.prog 169 #[.agg #[.int .i64 p, .int .i64 q, .bool d]] W fun e w' => e = .returned (.bool (HOk (p, q, d) && d)) ∧ w' = (W.alloc (.cells #[.int .i64 p, .int .i64 q, .bool d] 24)).alloc (.cells #[.int .i64 p, .int .i64 q, .bool d] 24)) := fun p q d W => implDir_w (p, q, d) W
  have HN : Hid (∀ (p q : Int) (d : Bool) (W : World), Calls Tryz.prog 165 #[.agg #[.int .i64 p, .int .i64 q, .bool d]] W fun e w' => e = .returned (.bool (noneOk (p, q, d))) ∧ Below W.heap.size W w') := fun p q d W => implNone_any (p, q, d) W
  have HO : Hid (∀ W, Below w.heap.size w W → _) := fun W hW => implOpOk_any _ _ m.op S W (r1.step hW) (r2.step hW) (by omega) (by omega)
  clear r1 r2 r3 r4 hl
  obtain ⟨kd, fr, to, rq, ⟨ok, ⟨op_, oq, od⟩, nm, ⟨tp, tq, td⟩, asn, ov⟩, ⟨rc, ⟨rp_, rq_, rd⟩, rv, es⟩, ⟨xs, xb, xn⟩, ⟨pk, ⟨pp, pq, pd⟩, pas, ⟨sp, sq, sd⟩⟩, cd, ⟨hp, hq, hd⟩⟩ := m
  dsimp only at HO ⊢
  go_enter Tryz.func153, Tryz.ntmps153
  go_wp2_with (first | (go_at_call 154; refine Calls.mono (HU.out _ _) ?_; rintro e w' ⟨rfl, rfl⟩))
  all_goals first | (go_ret; refine ⟨?_, by repeat (first | exact Below.refl _ _ | refine Below.al ?_ _ | refine Below.drew ?_ | refine below_drewN2 ?_ _)⟩; first | rfl | (simp_all; done) | (simp_all; omega)) | (refine Calls.mono (HO.out _ (by repeat (first | exact Below.refl _ _ | refine Below.al ?_ _ | refine Below.drew ?_ | refine below_drewN2 ?_ _))) ?_; rintro e w2 ⟨rfl, b_⟩; go_wp2; all_goals (go_ret; refine ⟨?_, Below.trans (by repeat (first | exact Below.refl _ _ | refine Below.al ?_ _ | refine Below.drew ?_ | refine below_drewN2 ?_ _)) (b_.mono (by simp <;> omega))⟩; first | rfl | (simp_all; done) | (simp_all; omega)))
set_option maxHeartbeats 4000000 in
theorem okM1 (m : MsD) (a1 a2 a3 a4 : Option Addr) (n1 n2 n3 n4 c1 c2 c3 c4 : Nat) (S : Nat → Prop) (w : World) (r : RdM w S m (.slice a1 n1 c1) (.slice a2 n2 c2) (.slice a3 n3 c3) (.slice a4 n4 c4)) (hl : szMs m ≤ 2097152) :
    Calls Tryz.prog 162 #[.agg #[.int .i64 m.req, .int .i64 m.rp.code, .int .i64 m.rp.h.sh, .int .i64 m.rp.h.ino, .bool m.rp.h.dir, .int .i64 m.rp.val, .slice a3 n3 c3]] w fun e w' => e = .returned (.bool (num m.req && ROk m.rp)) ∧ Below w.heap.size w w' := by
  obtain ⟨r1, r2, r3, r4⟩ := r
  unfold szMs at hl
  have HU : Hid (∀ (n : Int) (W : World), Calls Tryz.prog 154 #[.int .i64 n] W fun e w' => e = .returned (.bool (num n)) ∧ w' = W) := fun n W => isNumber_any n W
  have HT : Hid (∀ (a b c : Int) (W : World), Calls Tryz.prog 167 #[.agg #[.int .i64 a, .int .i64 b, .int .i64 c]] W fun e w' => e = .returned (.bool (TOk (a, b, c))) ∧ w' = W.alloc (.cells #[.int .i64 a, .int .i64 b, .int .i64 c] 31)) := fun a b c W => implTxOk_w (a, b, c) W
  have HC : Hid (∀ (n : Int) (W : World), Calls Tryz.prog 164 #[.int .i64 n] W fun e w' => e = .returned (.bool (isCd n)) ∧ w' = W) := fun n W => implCode_w n W
  have HFL : Hid (∀ (n : Int) (W : World), Calls Tryz.prog 124 #[.int .i64 n] W fun e w' => e = .returned (.bool (decide (n = 0) || decide (n = 1))) ∧ w' = W) := fun n W => implFlag_w n W
  have HD : Hid (∀ (p q : Int) (d : Bool) (W : World), Calls Tryz.prog 169 #[.agg #[.int .i64 p, .int .i64 q, .bool d]] W fun e w' => e = .returned (.bool (HOk (p, q, d) && d)) ∧ w' = (W.alloc (.cells #[.int .i64 p, .int .i64 q, .bool d] 24)).alloc (.cells #[.int .i64 p, .int .i64 q, .bool d] 24)) := fun p q d W => implDir_w (p, q, d) W
  have HN : Hid (∀ (p q : Int) (d : Bool) (W : World), Calls Tryz.prog 165 #[.agg #[.int .i64 p, .int .i64 q, .bool d]] W fun e w' => e = .returned (.bool (noneOk (p, q, d))) ∧ Below W.heap.size W w') := fun p q d W => implNone_any (p, q, d) W
  have HO : Hid (∀ W, Below w.heap.size w W → _) := fun W hW => implReplyOk_any _ m.rp S W (r3.step hW) (by omega)
  clear r1 r2 r3 r4 hl
  obtain ⟨kd, fr, to, rq, ⟨ok, ⟨op_, oq, od⟩, nm, ⟨tp, tq, td⟩, asn, ov⟩, ⟨rc, ⟨rp_, rq_, rd⟩, rv, es⟩, ⟨xs, xb, xn⟩, ⟨pk, ⟨pp, pq, pd⟩, pas, ⟨sp, sq, sd⟩⟩, cd, ⟨hp, hq, hd⟩⟩ := m
  dsimp only at HO ⊢
  go_enter Tryz.func162, Tryz.ntmps162
  go_wp2_with (first | (go_at_call 154; refine Calls.mono (HU.out _ _) ?_; rintro e w' ⟨rfl, rfl⟩))
  all_goals first | (go_ret; refine ⟨?_, by repeat (first | exact Below.refl _ _ | refine Below.al ?_ _ | refine Below.drew ?_ | refine below_drewN2 ?_ _)⟩; first | rfl | (simp_all; done) | (simp_all; omega)) | (refine Calls.mono (HO.out _ (by repeat (first | exact Below.refl _ _ | refine Below.al ?_ _ | refine Below.drew ?_ | refine below_drewN2 ?_ _))) ?_; rintro e w2 ⟨rfl, b_⟩; go_wp2; all_goals (go_ret; refine ⟨?_, Below.trans (by repeat (first | exact Below.refl _ _ | refine Below.al ?_ _ | refine Below.drew ?_ | refine below_drewN2 ?_ _)) (b_.mono (by simp <;> omega))⟩; first | rfl | (simp_all; done) | (simp_all; omega)))
set_option maxHeartbeats 4000000 in
theorem okM2 (m : MsD) (a1 a2 a3 a4 : Option Addr) (n1 n2 n3 n4 c1 c2 c3 c4 : Nat) (S : Nat → Prop) (w : World) (r : RdM w S m (.slice a1 n1 c1) (.slice a2 n2 c2) (.slice a3 n3 c3) (.slice a4 n4 c4)) (hl : szMs m ≤ 2097152) :
    Calls Tryz.prog 166 #[.agg #[.int .i64 m.tx.1, .int .i64 m.tx.2.1, .int .i64 m.tx.2.2, .int .i64 m.pt.kind, .int .i64 m.pt.h.sh, .int .i64 m.pt.h.ino, .bool m.pt.h.dir, .slice a4 n4 c4, .int .i64 m.pt.to.sh, .int .i64 m.pt.to.ino, .bool m.pt.to.dir]] w fun e w' => e = .returned (.bool (TOk m.tx && POk m.pt)) ∧ Below w.heap.size w w' := by
  obtain ⟨r1, r2, r3, r4⟩ := r
  unfold szMs at hl
  have HU : Hid (∀ (n : Int) (W : World), Calls Tryz.prog 154 #[.int .i64 n] W fun e w' => e = .returned (.bool (num n)) ∧ w' = W) := fun n W => isNumber_any n W
  have HT : Hid (∀ (a b c : Int) (W : World), Calls Tryz.prog 167 #[.agg #[.int .i64 a, .int .i64 b, .int .i64 c]] W fun e w' => e = .returned (.bool (TOk (a, b, c))) ∧ w' = W.alloc (.cells #[.int .i64 a, .int .i64 b, .int .i64 c] 31)) := fun a b c W => implTxOk_w (a, b, c) W
  have HC : Hid (∀ (n : Int) (W : World), Calls Tryz.prog 164 #[.int .i64 n] W fun e w' => e = .returned (.bool (isCd n)) ∧ w' = W) := fun n W => implCode_w n W
  have HFL : Hid (∀ (n : Int) (W : World), Calls Tryz.prog 124 #[.int .i64 n] W fun e w' => e = .returned (.bool (decide (n = 0) || decide (n = 1))) ∧ w' = W) := fun n W => implFlag_w n W
  have HD : Hid (∀ (p q : Int) (d : Bool) (W : World), Calls Tryz.prog 169 #[.agg #[.int .i64 p, .int .i64 q, .bool d]] W fun e w' => e = .returned (.bool (HOk (p, q, d) && d)) ∧ w' = (W.alloc (.cells #[.int .i64 p, .int .i64 q, .bool d] 24)).alloc (.cells #[.int .i64 p, .int .i64 q, .bool d] 24)) := fun p q d W => implDir_w (p, q, d) W
  have HN : Hid (∀ (p q : Int) (d : Bool) (W : World), Calls Tryz.prog 165 #[.agg #[.int .i64 p, .int .i64 q, .bool d]] W fun e w' => e = .returned (.bool (noneOk (p, q, d))) ∧ Below W.heap.size W w') := fun p q d W => implNone_any (p, q, d) W
  have HO : Hid (∀ W, Below w.heap.size w W → _) := fun W hW => implPartOk_any _ m.pt S W (r4.step hW) (by omega)
  clear r1 r2 r3 r4 hl
  obtain ⟨kd, fr, to, rq, ⟨ok, ⟨op_, oq, od⟩, nm, ⟨tp, tq, td⟩, asn, ov⟩, ⟨rc, ⟨rp_, rq_, rd⟩, rv, es⟩, ⟨xs, xb, xn⟩, ⟨pk, ⟨pp, pq, pd⟩, pas, ⟨sp, sq, sd⟩⟩, cd, ⟨hp, hq, hd⟩⟩ := m
  dsimp only at HO ⊢
  go_enter Tryz.func166, Tryz.ntmps166
  go_wp2_with (first | (go_at_call 167; refine Calls.mono (HT.out _ _ _ _) ?_; rintro e w' ⟨rfl, rfl⟩))
  all_goals first | (go_ret; refine ⟨?_, by repeat (first | exact Below.refl _ _ | refine Below.al ?_ _ | refine Below.drew ?_ | refine below_drewN2 ?_ _)⟩; first | rfl | (simp_all; done) | (simp_all; omega)) | (refine Calls.mono (HO.out _ (by repeat (first | exact Below.refl _ _ | refine Below.al ?_ _ | refine Below.drew ?_ | refine below_drewN2 ?_ _))) ?_; rintro e w2 ⟨rfl, b_⟩; go_wp2; all_goals (go_ret; refine ⟨?_, Below.trans (by repeat (first | exact Below.refl _ _ | refine Below.al ?_ _ | refine Below.drew ?_ | refine below_drewN2 ?_ _)) (b_.mono (by simp <;> omega))⟩; first | rfl | (simp_all; done) | (simp_all; omega)))
set_option maxHeartbeats 4000000 in
theorem okM3 (m : MsD) (a1 a2 a3 a4 : Option Addr) (n1 n2 n3 n4 c1 c2 c3 c4 : Nat) (S : Nat → Prop) (w : World) (r : RdM w S m (.slice a1 n1 c1) (.slice a2 n2 c2) (.slice a3 n3 c3) (.slice a4 n4 c4)) (hl : szMs m ≤ 2097152) :
    Calls Tryz.prog 170 #[.agg #[.int .i64 m.tx.1, .int .i64 m.tx.2.1, .int .i64 m.tx.2.2, .int .i64 m.pt.kind, .int .i64 m.pt.h.sh, .int .i64 m.pt.h.ino, .bool m.pt.h.dir, .slice a4 n4 c4, .int .i64 m.pt.to.sh, .int .i64 m.pt.to.ino, .bool m.pt.to.dir, .int .i64 m.code, .int .i64 m.h.sh, .int .i64 m.h.ino, .bool m.h.dir]] w fun e w' => e = .returned (.bool (TOk m.tx && (POk m.pt && (isCd m.code && noneOk m.h)))) ∧ Below w.heap.size w w' := by
  obtain ⟨r1, r2, r3, r4⟩ := r
  unfold szMs at hl
  have HU : Hid (∀ (n : Int) (W : World), Calls Tryz.prog 154 #[.int .i64 n] W fun e w' => e = .returned (.bool (num n)) ∧ w' = W) := fun n W => isNumber_any n W
  have HT : Hid (∀ (a b c : Int) (W : World), Calls Tryz.prog 167 #[.agg #[.int .i64 a, .int .i64 b, .int .i64 c]] W fun e w' => e = .returned (.bool (TOk (a, b, c))) ∧ w' = W.alloc (.cells #[.int .i64 a, .int .i64 b, .int .i64 c] 31)) := fun a b c W => implTxOk_w (a, b, c) W
  have HC : Hid (∀ (n : Int) (W : World), Calls Tryz.prog 164 #[.int .i64 n] W fun e w' => e = .returned (.bool (isCd n)) ∧ w' = W) := fun n W => implCode_w n W
  have HFL : Hid (∀ (n : Int) (W : World), Calls Tryz.prog 124 #[.int .i64 n] W fun e w' => e = .returned (.bool (decide (n = 0) || decide (n = 1))) ∧ w' = W) := fun n W => implFlag_w n W
  have HD : Hid (∀ (p q : Int) (d : Bool) (W : World), Calls Tryz.prog 169 #[.agg #[.int .i64 p, .int .i64 q, .bool d]] W fun e w' => e = .returned (.bool (HOk (p, q, d) && d)) ∧ w' = (W.alloc (.cells #[.int .i64 p, .int .i64 q, .bool d] 24)).alloc (.cells #[.int .i64 p, .int .i64 q, .bool d] 24)) := fun p q d W => implDir_w (p, q, d) W
  have HN : Hid (∀ (p q : Int) (d : Bool) (W : World), Calls Tryz.prog 165 #[.agg #[.int .i64 p, .int .i64 q, .bool d]] W fun e w' => e = .returned (.bool (noneOk (p, q, d))) ∧ Below W.heap.size W w') := fun p q d W => implNone_any (p, q, d) W
  have HO : Hid (∀ W, Below w.heap.size w W → _) := fun W hW => implPartOk_any _ m.pt S W (r4.step hW) (by omega)
  clear r1 r2 r3 r4 hl
  obtain ⟨kd, fr, to, rq, ⟨ok, ⟨op_, oq, od⟩, nm, ⟨tp, tq, td⟩, asn, ov⟩, ⟨rc, ⟨rp_, rq_, rd⟩, rv, es⟩, ⟨xs, xb, xn⟩, ⟨pk, ⟨pp, pq, pd⟩, pas, ⟨sp, sq, sd⟩⟩, cd, ⟨hp, hq, hd⟩⟩ := m
  dsimp only at HO ⊢
  go_enter Tryz.func170, Tryz.ntmps170
  go_wp2_with (first | (go_at_call 167; refine Calls.mono (HT.out _ _ _ _) ?_; rintro e w' ⟨rfl, rfl⟩))
  all_goals first | (go_ret; refine ⟨?_, by repeat (first | exact Below.refl _ _ | refine Below.al ?_ _ | refine Below.drew ?_ | refine below_drewN2 ?_ _)⟩; first | rfl | (simp_all; done) | (simp_all; omega)) | (refine Calls.mono (HO.out _ (by repeat (first | exact Below.refl _ _ | refine Below.al ?_ _ | refine Below.drew ?_ | refine below_drewN2 ?_ _))) ?_; rintro e w2 ⟨rfl, b_⟩; have vA : VarA w2 w.heap.size 120 #[.int .i64 xs, .int .i64 xb, .int .i64 xn, .int .i64 pk, .int .i64 pp, .int .i64 pq, .bool pd, .slice a4 n4 c4, .int .i64 sp, .int .i64 sq, .bool sd, .int .i64 cd, .int .i64 hp, .int .i64 hq, .bool hd] := VarA.step ((VarA.new w _ _).alloc _) b_; have HB : Hid (Below w.heap.size w w2) := Below.trans (by repeat (first | exact Below.refl _ _ | refine Below.al ?_ _ | refine Below.drew ?_ | refine below_drewN2 ?_ _)) (b_.mono (by simp <;> omega)); clear b_; obtain ⟨a0_, a1_, a2_, a3_, a4_, a5_, a6_, a7_, a8_, a9_, a10_, a11_, a12_, a13_, a14_⟩ := vA.l15; go_wp2_with (first | (go_at_call 164; refine Calls.mono (HC.out _ _) ?_; rintro e w' ⟨rfl, rfl⟩)); all_goals first | (go_ret; refine ⟨?_, HB.out⟩; first | rfl | (simp_all; done) | (simp_all; omega)) | (refine Calls.mono (HN.out _ _ _ _) ?_; rintro e w3 ⟨rfl, b_⟩; go_wp2; all_goals (go_ret; refine ⟨?_, HB.out.trans (b_.mono HB.out.size)⟩; first | rfl | (simp_all; done) | (simp_all; omega))))
set_option maxHeartbeats 4000000 in
theorem okM4 (m : MsD) (a1 a2 a3 a4 : Option Addr) (n1 n2 n3 n4 c1 c2 c3 c4 : Nat) (S : Nat → Prop) (w : World) (r : RdM w S m (.slice a1 n1 c1) (.slice a2 n2 c2) (.slice a3 n3 c3) (.slice a4 n4 c4)) (hl : szMs m ≤ 2097152) :
    Calls Tryz.prog 171 #[.agg #[.int .i64 m.tx.1, .int .i64 m.tx.2.1, .int .i64 m.tx.2.2]] w fun e w' => e = .returned (.bool (TOk m.tx)) ∧ Below w.heap.size w w' := by
  obtain ⟨r1, r2, r3, r4⟩ := r
  unfold szMs at hl
  have HU : Hid (∀ (n : Int) (W : World), Calls Tryz.prog 154 #[.int .i64 n] W fun e w' => e = .returned (.bool (num n)) ∧ w' = W) := fun n W => isNumber_any n W
  have HT : Hid (∀ (a b c : Int) (W : World), Calls Tryz.prog 167 #[.agg #[.int .i64 a, .int .i64 b, .int .i64 c]] W fun e w' => e = .returned (.bool (TOk (a, b, c))) ∧ w' = W.alloc (.cells #[.int .i64 a, .int .i64 b, .int .i64 c] 31)) := fun a b c W => implTxOk_w (a, b, c) W
  have HC : Hid (∀ (n : Int) (W : World), Calls Tryz.prog 164 #[.int .i64 n] W fun e w' => e = .returned (.bool (isCd n)) ∧ w' = W) := fun n W => implCode_w n W
  have HFL : Hid (∀ (n : Int) (W : World), Calls Tryz.prog 124 #[.int .i64 n] W fun e w' => e = .returned (.bool (decide (n = 0) || decide (n = 1))) ∧ w' = W) := fun n W => implFlag_w n W
  have HD : Hid (∀ (p q : Int) (d : Bool) (W : World), Calls Tryz.prog 169 #[.agg #[.int .i64 p, .int .i64 q, .bool d]] W fun e w' => e = .returned (.bool (HOk (p, q, d) && d)) ∧ w' = (W.alloc (.cells #[.int .i64 p, .int .i64 q, .bool d] 24)).alloc (.cells #[.int .i64 p, .int .i64 q, .bool d] 24)) := fun p q d W => implDir_w (p, q, d) W
  have HN : Hid (∀ (p q : Int) (d : Bool) (W : World), Calls Tryz.prog 165 #[.agg #[.int .i64 p, .int .i64 q, .bool d]] W fun e w' => e = .returned (.bool (noneOk (p, q, d))) ∧ Below W.heap.size W w') := fun p q d W => implNone_any (p, q, d) W
  clear r1 r2 r3 r4 hl
  obtain ⟨kd, fr, to, rq, ⟨ok, ⟨op_, oq, od⟩, nm, ⟨tp, tq, td⟩, asn, ov⟩, ⟨rc, ⟨rp_, rq_, rd⟩, rv, es⟩, ⟨xs, xb, xn⟩, ⟨pk, ⟨pp, pq, pd⟩, pas, ⟨sp, sq, sd⟩⟩, cd, ⟨hp, hq, hd⟩⟩ := m
  dsimp only
  go_enter Tryz.func171, Tryz.ntmps171
  go_wp2_with (first | (go_at_call 167; refine Calls.mono (HT.out _ _ _ _) ?_; rintro e w' ⟨rfl, rfl⟩))
  all_goals (go_ret; refine ⟨?_, by repeat (first | exact Below.refl _ _ | refine Below.al ?_ _ | refine Below.drew ?_ | refine below_drewN2 ?_ _)⟩; first | rfl | (simp_all; done) | (simp_all; omega))
set_option maxHeartbeats 4000000 in
theorem okM5 (m : MsD) (a1 a2 a3 a4 : Option Addr) (n1 n2 n3 n4 c1 c2 c3 c4 : Nat) (S : Nat → Prop) (w : World) (r : RdM w S m (.slice a1 n1 c1) (.slice a2 n2 c2) (.slice a3 n3 c3) (.slice a4 n4 c4)) (hl : szMs m ≤ 2097152) :
    Calls Tryz.prog 172 #[.agg #[.int .i64 m.tx.1, .int .i64 m.tx.2.1, .int .i64 m.tx.2.2, .int .i64 m.code]] w fun e w' => e = .returned (.bool (TOk m.tx && (decide (m.code = 0) || decide (m.code = 1)))) ∧ Below w.heap.size w w' := by
  obtain ⟨r1, r2, r3, r4⟩ := r
  unfold szMs at hl
  have HU : Hid (∀ (n : Int) (W : World), Calls Tryz.prog 154 #[.int .i64 n] W fun e w' => e = .returned (.bool (num n)) ∧ w' = W) := fun n W => isNumber_any n W
  have HT : Hid (∀ (a b c : Int) (W : World), Calls Tryz.prog 167 #[.agg #[.int .i64 a, .int .i64 b, .int .i64 c]] W fun e w' => e = .returned (.bool (TOk (a, b, c))) ∧ w' = W.alloc (.cells #[.int .i64 a, .int .i64 b, .int .i64 c] 31)) := fun a b c W => implTxOk_w (a, b, c) W
  have HC : Hid (∀ (n : Int) (W : World), Calls Tryz.prog 164 #[.int .i64 n] W fun e w' => e = .returned (.bool (isCd n)) ∧ w' = W) := fun n W => implCode_w n W
  have HFL : Hid (∀ (n : Int) (W : World), Calls Tryz.prog 124 #[.int .i64 n] W fun e w' => e = .returned (.bool (decide (n = 0) || decide (n = 1))) ∧ w' = W) := fun n W => implFlag_w n W
  have HD : Hid (∀ (p q : Int) (d : Bool) (W : World), Calls Tryz.prog 169 #[.agg #[.int .i64 p, .int .i64 q, .bool d]] W fun e w' => e = .returned (.bool (HOk (p, q, d) && d)) ∧ w' = (W.alloc (.cells #[.int .i64 p, .int .i64 q, .bool d] 24)).alloc (.cells #[.int .i64 p, .int .i64 q, .bool d] 24)) := fun p q d W => implDir_w (p, q, d) W
  have HN : Hid (∀ (p q : Int) (d : Bool) (W : World), Calls Tryz.prog 165 #[.agg #[.int .i64 p, .int .i64 q, .bool d]] W fun e w' => e = .returned (.bool (noneOk (p, q, d))) ∧ Below W.heap.size W w') := fun p q d W => implNone_any (p, q, d) W
  clear r1 r2 r3 r4 hl
  obtain ⟨kd, fr, to, rq, ⟨ok, ⟨op_, oq, od⟩, nm, ⟨tp, tq, td⟩, asn, ov⟩, ⟨rc, ⟨rp_, rq_, rd⟩, rv, es⟩, ⟨xs, xb, xn⟩, ⟨pk, ⟨pp, pq, pd⟩, pas, ⟨sp, sq, sd⟩⟩, cd, ⟨hp, hq, hd⟩⟩ := m
  dsimp only
  go_enter Tryz.func172, Tryz.ntmps172
  go_wp2_with (first | (go_at_call 167; refine Calls.mono (HT.out _ _ _ _) ?_; rintro e w' ⟨rfl, rfl⟩) | (go_at_call 124; refine Calls.mono (HFL.out _ _) ?_; rintro e w' ⟨rfl, rfl⟩))
  all_goals (go_ret; refine ⟨?_, by repeat (first | exact Below.refl _ _ | refine Below.al ?_ _ | refine Below.drew ?_ | refine below_drewN2 ?_ _)⟩; first | rfl | (simp_all; done) | (simp_all; omega))
set_option maxHeartbeats 4000000 in
theorem okM6 (m : MsD) (a1 a2 a3 a4 : Option Addr) (n1 n2 n3 n4 c1 c2 c3 c4 : Nat) (S : Nat → Prop) (w : World) (r : RdM w S m (.slice a1 n1 c1) (.slice a2 n2 c2) (.slice a3 n3 c3) (.slice a4 n4 c4)) (hl : szMs m ≤ 2097152) :
    Calls Tryz.prog 173 #[.agg #[.int .i64 m.tx.1, .int .i64 m.tx.2.1, .int .i64 m.tx.2.2, .int .i64 m.req, .int .i64 m.h.sh, .int .i64 m.h.ino, .bool m.h.dir]] w fun e w' => e = .returned (.bool (TOk m.tx && (num m.req && (HOk m.h && m.h.dir)))) ∧ Below w.heap.size w w' := by
  obtain ⟨r1, r2, r3, r4⟩ := r
  unfold szMs at hl
  have HU : Hid (∀ (n : Int) (W : World), Calls Tryz.prog 154 #[.int .i64 n] W fun e w' => e = .returned (.bool (num n)) ∧ w' = W) := fun n W => isNumber_any n W
  have HT : Hid (∀ (a b c : Int) (W : World), Calls Tryz.prog 167 #[.agg #[.int .i64 a, .int .i64 b, .int .i64 c]] W fun e w' => e = .returned (.bool (TOk (a, b, c))) ∧ w' = W.alloc (.cells #[.int .i64 a, .int .i64 b, .int .i64 c] 31)) := fun a b c W => implTxOk_w (a, b, c) W
  have HC : Hid (∀ (n : Int) (W : World), Calls Tryz.prog 164 #[.int .i64 n] W fun e w' => e = .returned (.bool (isCd n)) ∧ w' = W) := fun n W => implCode_w n W
  have HFL : Hid (∀ (n : Int) (W : World), Calls Tryz.prog 124 #[.int .i64 n] W fun e w' => e = .returned (.bool (decide (n = 0) || decide (n = 1))) ∧ w' = W) := fun n W => implFlag_w n W
  have HD : Hid (∀ (p q : Int) (d : Bool) (W : World), Calls Tryz.prog 169 #[.agg #[.int .i64 p, .int .i64 q, .bool d]] W fun e w' => e = .returned (.bool (HOk (p, q, d) && d)) ∧ w' = (W.alloc (.cells #[.int .i64 p, .int .i64 q, .bool d] 24)).alloc (.cells #[.int .i64 p, .int .i64 q, .bool d] 24)) := fun p q d W => implDir_w (p, q, d) W
  have HN : Hid (∀ (p q : Int) (d : Bool) (W : World), Calls Tryz.prog 165 #[.agg #[.int .i64 p, .int .i64 q, .bool d]] W fun e w' => e = .returned (.bool (noneOk (p, q, d))) ∧ Below W.heap.size W w') := fun p q d W => implNone_any (p, q, d) W
  clear r1 r2 r3 r4 hl
  obtain ⟨kd, fr, to, rq, ⟨ok, ⟨op_, oq, od⟩, nm, ⟨tp, tq, td⟩, asn, ov⟩, ⟨rc, ⟨rp_, rq_, rd⟩, rv, es⟩, ⟨xs, xb, xn⟩, ⟨pk, ⟨pp, pq, pd⟩, pas, ⟨sp, sq, sd⟩⟩, cd, ⟨hp, hq, hd⟩⟩ := m
  dsimp only
  go_enter Tryz.func173, Tryz.ntmps173
  go_wp2_with (first | (go_at_call 167; refine Calls.mono (HT.out _ _ _ _) ?_; rintro e w' ⟨rfl, rfl⟩) | (go_at_call 154; refine Calls.mono (HU.out _ _) ?_; rintro e w' ⟨rfl, rfl⟩) | (go_at_call 169; refine Calls.mono (HD.out _ _ _ _) ?_; rintro e w' ⟨rfl, rfl⟩))
  all_goals (go_ret; refine ⟨?_, by repeat (first | exact Below.refl _ _ | refine Below.al ?_ _ | refine Below.drew ?_ | refine below_drewN2 ?_ _)⟩; first | rfl | (simp_all; done) | (simp_all; omega))
set_option maxHeartbeats 4000000 in
theorem okM7 (m : MsD) (a1 a2 a3 a4 : Option Addr) (n1 n2 n3 n4 c1 c2 c3 c4 : Nat) (S : Nat → Prop) (w : World) (r : RdM w S m (.slice a1 n1 c1) (.slice a2 n2 c2) (.slice a3 n3 c3) (.slice a4 n4 c4)) (hl : szMs m ≤ 2097152) :
    Calls Tryz.prog 174 #[.agg #[.int .i64 m.tx.1, .int .i64 m.tx.2.1, .int .i64 m.tx.2.2, .int .i64 m.req, .int .i64 m.code, .int .i64 m.h.sh, .int .i64 m.h.ino, .bool m.h.dir]] w fun e w' => e = .returned (.bool (TOk m.tx && (num m.req && (isCd m.code && noneOk m.h)))) ∧ Below w.heap.size w w' := by
  obtain ⟨r1, r2, r3, r4⟩ := r
  unfold szMs at hl
  have HU : Hid (∀ (n : Int) (W : World), Calls Tryz.prog 154 #[.int .i64 n] W fun e w' => e = .returned (.bool (num n)) ∧ w' = W) := fun n W => isNumber_any n W
  have HT : Hid (∀ (a b c : Int) (W : World), Calls Tryz.prog 167 #[.agg #[.int .i64 a, .int .i64 b, .int .i64 c]] W fun e w' => e = .returned (.bool (TOk (a, b, c))) ∧ w' = W.alloc (.cells #[.int .i64 a, .int .i64 b, .int .i64 c] 31)) := fun a b c W => implTxOk_w (a, b, c) W
  have HC : Hid (∀ (n : Int) (W : World), Calls Tryz.prog 164 #[.int .i64 n] W fun e w' => e = .returned (.bool (isCd n)) ∧ w' = W) := fun n W => implCode_w n W
  have HFL : Hid (∀ (n : Int) (W : World), Calls Tryz.prog 124 #[.int .i64 n] W fun e w' => e = .returned (.bool (decide (n = 0) || decide (n = 1))) ∧ w' = W) := fun n W => implFlag_w n W
  have HD : Hid (∀ (p q : Int) (d : Bool) (W : World), Calls Tryz.prog 169 #[.agg #[.int .i64 p, .int .i64 q, .bool d]] W fun e w' => e = .returned (.bool (HOk (p, q, d) && d)) ∧ w' = (W.alloc (.cells #[.int .i64 p, .int .i64 q, .bool d] 24)).alloc (.cells #[.int .i64 p, .int .i64 q, .bool d] 24)) := fun p q d W => implDir_w (p, q, d) W
  have HN : Hid (∀ (p q : Int) (d : Bool) (W : World), Calls Tryz.prog 165 #[.agg #[.int .i64 p, .int .i64 q, .bool d]] W fun e w' => e = .returned (.bool (noneOk (p, q, d))) ∧ Below W.heap.size W w') := fun p q d W => implNone_any (p, q, d) W
  clear r1 r2 r3 r4 hl
  obtain ⟨kd, fr, to, rq, ⟨ok, ⟨op_, oq, od⟩, nm, ⟨tp, tq, td⟩, asn, ov⟩, ⟨rc, ⟨rp_, rq_, rd⟩, rv, es⟩, ⟨xs, xb, xn⟩, ⟨pk, ⟨pp, pq, pd⟩, pas, ⟨sp, sq, sd⟩⟩, cd, ⟨hp, hq, hd⟩⟩ := m
  dsimp only
  go_enter Tryz.func174, Tryz.ntmps174
  go_wp2_with (first | (go_at_call 167; refine Calls.mono (HT.out _ _ _ _) ?_; rintro e w' ⟨rfl, rfl⟩) | (go_at_call 154; refine Calls.mono (HU.out _ _) ?_; rintro e w' ⟨rfl, rfl⟩) | (go_at_call 164; refine Calls.mono (HC.out _ _) ?_; rintro e w' ⟨rfl, rfl⟩))
  all_goals first | (go_ret; refine ⟨?_, by repeat (first | exact Below.refl _ _ | refine Below.al ?_ _ | refine Below.drew ?_ | refine below_drewN2 ?_ _)⟩; first | rfl | (simp_all; done) | (simp_all; omega)) | (refine Calls.mono (HN.out _ _ _ _) ?_; rintro e w2 ⟨rfl, b_⟩; go_wp2; all_goals (go_ret; refine ⟨?_, Below.trans (by repeat (first | exact Below.refl _ _ | refine Below.al ?_ _ | refine Below.drew ?_ | refine below_drewN2 ?_ _)) (b_.mono (by simp <;> omega))⟩; first | rfl | (simp_all; done) | (simp_all; omega)))
end Go.Proofs.YtbnjhjgjmckedaaGreat
end
