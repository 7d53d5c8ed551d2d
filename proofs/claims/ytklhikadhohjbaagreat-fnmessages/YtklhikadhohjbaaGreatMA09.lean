/- Joined: DW13 DW14s MdRI. -/
import Derived.Test.YtklhikadhohjbaaGreatMA01
import Derived.Test.YtklhikadhohjbaaGreatMDW12
import Derived.Test.YtklhikadhohjbaaGreatMDW10
import Derived.Test.YtklhikadhohjbaaGreatMMdG

namespace Go.Proofs.YtklhikadhohjbaaGreat
open Go.RowKit
set_option linter.unusedVariables false
set_option linter.unusedSimpArgs false
set_option maxRecDepth 100000
section
theorem rl_turn {w w' : World} {X : Nat} {v : Value} {d : Dt} {S : Nat → Prop} (r : RdV w (fun b => X < b ∧ b < w.heap.size) v d) (t : Turned S w w') (hS : ∀ b, S b → b ≤ X) : RdV w' (fun b => X < b ∧ b < w'.heap.size) v d :=
 RdV.mono (fun b hb => ⟨hb.1, Nat.lt_of_lt_of_le hb.2 t.size⟩) (RdV.keep (t.keeps (fun b hb e => by have := hS b e; omega)) r)
theorem rl_grow {w w' : World} {X pb : Nat} {v : Value} {d : Dt} (r : RdV w (fun b => X < b ∧ b < w.heap.size) v d) (hg : w.grownBy w' (some pb)) (hX : pb ≤ X) : RdV w' (fun b => X < b ∧ b < w'.heap.size) v d :=
 rl_turn r (Turned.ofGrown (S := fun b => b = pb) hg (fun k hk => by cases hk; rfl)) (fun b hb => by omega)
theorem szEns_rep (n : Nat) : szEns (List.replicate n en0) = n := by simp [szEns, en0]
theorem szEns_6 : ∀ (l : List En), (∀ e ∈ l, e.nm.length ≤ 6) → szEns l ≤ 7 * l.length
 | [], _ => by simp [szEns]
 | e :: l, h => by
  have h1 := szEns_6 l (fun x hx => h x (List.mem_cons_of_mem _ hx))
  have h2 := h e (List.mem_cons_self ..)
  simp [szEns] at h1 ⊢
  omega
theorem mdEn_at {z0 z1 z2 z3 : Value} {n i j : Nat} (hi : i < n) (hj : j < 4) : (madeCells #[z0, z1, z2, z3] (n * 4))[i * 4 + j]? = some (#[z0, z1, z2, z3][j]!) := by
 have h : i * 4 + j < n * 4 := by omega
 have h2 : (i * 4 + j) % 4 = j := by omega
 unfold madeCells
 rw [Array.getElem?_map, Array.getElem?_range, if_pos h]
 simp [h2]
theorem madeEn (W : World) (N : Nat) (h : N ≤ 14) : RdV (W.alloc (.cells (madeCells #[.slice none 0 0, .i 0, .i 0, .bool false] (N * 4)) 139)) (fun b => b = W.heap.size) (.slice (some ⟨W.heap.size, 0, none⟩) N N) (ensDt (List.replicate N en0)) := by
 have hN : (List.replicate N en0).length = N := by simp
 have key : RdV (W.alloc (.cells (madeCells #[.slice none 0 0, .i 0, .i 0, .bool false] (N * 4)) 139)) (fun b => b = W.heap.size) (.slice (some ⟨W.heap.size, 0, none⟩) N N) (.rows 139 4 N (fun i j => enCell en0 j)) := by
  refine RdV.mkRows _ ⟨_, _, fun i j => #[Value.slice none 0 0, .i 0, .i 0, .bool false][j]!, rfl, ⟨Nat.le_refl _, by unfold maxLen; omega, fun e => by cases e⟩, .inr ⟨W.heap.size, 0, rfl, rfl, by simp, fun i j hi hj => ?_⟩, fun i j hi hj => ?_⟩
  ·rw [Nat.zero_add, cell_of_row _ _ _ _ _ _ (heap_alloc_new W _)]
   exact mdEn_at hi hj
  ·obtain rfl | rfl | rfl | rfl : j = 0 ∨ j = 1 ∨ j = 2 ∨ j = 3 := by omega
   ·exact rdb_nil _ _
   ·exact (rfl : Value.i 0 = .i 0)
   ·exact (rfl : Value.i 0 = .i 0)
   ·exact (rfl : Value.bool false = .bool false)
 unfold ensDt
 rw [hN]
 refine RdV.congr key (fun i j hi hj => ?_)
 rw [List.getElem?_replicate, if_pos hi]
 rfl
theorem makeEn (W : World) (N : Nat) (h : N ≤ 14) : (Instr.makeSlice 27 (.i (N : Int)) (.i (N : Int))).run Tryz.prog W = .ok (.slice (some ⟨W.heap.size, 0, none⟩) N N) (W.alloc (.cells (madeCells #[.slice none 0 0, .i 0, .i 0, .bool false] (N * 4)) 139)) := by
 obtain ⟨i0, hi, hz0, hz1, hz2⟩ := info_parts Tryz.infoEn
 have h := run_make (P := Tryz.prog) W 27 139 i0 _ Tryz.underlying27 hi hz0 .i64 .i64 N N (by omega) (Int.le_refl _) (by rw [hz2]; omega) (by omega)
 rw [hz1] at h
 simpa [Value.cells] using h
abbrev PBr := PB 29 #[.i 0, .i 0, .i 0, .bool false, .i 0, .slice none 0 0]
def RpSaid (w : World) (pb : Nat) (e : Ending) (w' : World) : Prop :=
 ∃ (r : RpD) (a : Option Addr) (n c : Nat), e = .returned (rpV r (.slice a n c)) ∧ RdV w' (fun b => w.heap.size < b ∧ b < w'.heap.size) (.slice a n c) (ensDt r.list) ∧ szEns r.list ≤ 200 ∧ CurAt w' pb ∧ w.grownBy w' (some pb)
def RS (w : World) (pb lo tb : Nat) (tx : Value) (l : List Nd) (X : Nat) (wc : World) : Prop :=
 ∃ co sh ino dr vl la ln lc es, PBr w wc pb lo tb tx l ∧ VarA wc X 29 #[.i co, .i sh, .i ino, .bool dr, .i vl, .slice la ln lc] ∧ RdV wc (fun b => X < b ∧ b < wc.heap.size) (.slice la ln lc) (ensDt es) ∧ szEns es ≤ 200
set_option maxHeartbeats 16000000 in
theorem reply5_any (pb : Nat) (w : World) (h : CurAt w pb) : Calls Tryz.prog 140 #[.pointer (some ⟨pb, 0, none⟩)] w (RpSaid w pb) := by
 have hpb := h.lt
 go_enter Tryz.func140, Tryz.ntmps140
 go_wp2_with fail
 refine Calls.mono (tree4_any pb _ (h.alloc _)) ?_
 rintro e1 w1 ⟨ta, tn, tc, l, rfl, rT, sm, c1, g1⟩
 obtain ⟨_, _, hsl, _⟩ := RdV.sliced rT
 obtain ⟨rfl, rfl, rfl⟩ := (Value.slice.injEq ..).mp hsl
 clear hsl
 have z1 := g1.size
 rw [World.size_alloc] at z1
 have htb : w.heap.size + 1 ≤ w1.heap.size := by omega
 have hlo : w.heap.size < w.heap.size + 1 := by omega
 have hP : ∀ i : Nat, i < l.length → HdR (l[i]?.getD nd0).h := fun i hi => (sm.1 _ (getD_mem hi)).1
 have hL : l.length ≤ 2097152 := Nat.le_trans sm.2.2 (by decide)
 have h0l : 0 < l.length := sm.2.1
 have HES : Hid ((l[0]?.getD nd0).es.length ≤ 13) := (sm.1.at h0l).2.1
 have HSZ : Hid (szEns (l[0]?.getD nd0).es ≤ 91) := Nat.le_trans (szEns_6 _ (fun e he => ((sm.1.at h0l).2.2 e he).1)) (by have := HES.out; omega)
 have vR1 := vo_grow (VarA.new w 29 #[.i 0, .i 0, .i 0, .bool false, .i 0, .slice none 0 0]) g1 (by omega)
 have b2 : Below w1.heap.size w1 (w1.alloc (.cells #[(.slice ta l.length tc)] 55)) := Below.newH _
 have HB0 : Hid (PBr w (w1.alloc (.cells #[(.slice ta l.length tc)] 55)) pb (w.heap.size + 1) w1.heap.size (.slice ta l.length tc) l) := ⟨c1.below b2, grown_trans (grown_trans (World.grownBy_alloc w _ _) g1) (grown_below b2), vR1.step b2, VarA.new _ _ _, RdV.mono (fun b hb => ⟨by have := hb.1; rw [World.size_alloc] at this; omega, hb.2⟩) (RdV.step rT b2)⟩
 have HH : Hid (∀ W, CurAt W pb → RdV W (fun b => w.heap.size + 1 ≤ b ∧ b < w1.heap.size) (.slice ta l.length tc) (ndsDt l) → Calls Tryz.prog 143 #[.pointer (some ⟨pb, 0, none⟩), .agg #[(.slice ta l.length tc)]] W (HdSaid W pb)) := fun W hc r => handle4_any pb _ l _ W hc r (fun b hb => by omega) hL hP
 clear rT c1 g1 vR1 b2 h z1 sm hP hL
 go_wp2_with fail
 generalize hw0 : w1.alloc (.cells #[(.slice ta l.length tc)] 55) = w0 at *
 generalize w1.heap.size = tb at *
 refine Calls.mono (below_any pb 12 _ HB0.out.c (by omega) (by omega)) ?_
 rintro e2 w2 ⟨x1, rfl, x1a, x1b, c2, g2⟩
 have HB9 : Hid (PBr w w2 pb (w.heap.size + 1) tb (.slice ta l.length tc) l) := HB0.out.grow c2 g2 hpb hlo htb
 clear HB0 c2 g2 hw0
 go_wp2_with fail
 refine Calls.mono (below_any pb 50 _ HB9.out.c (by omega) (by omega)) ?_
 rintro e3 w3 ⟨x2, rfl, x2a, x2b, c3, g3⟩
 have HB8 : Hid (PBr w w3 pb (w.heap.size + 1) tb (.slice ta l.length tc) l) := HB9.out.grow c3 g3 hpb hlo htb
 clear HB9 c3 g3
 have hX : tb < w3.heap.size := HB8.out.vT.lt
 have HB1 : Hid (PBr w (w3.alloc (.cells #[.i x1, .i 0, .i 0, .bool false, .i x2, .slice none 0 0] 29)) pb (w.heap.size + 1) tb (.slice ta l.length tc) l) := HB8.out.step (Below.newH _) hpb hlo htb
 have HV1 : Hid (VarA (w3.alloc (.cells #[.i x1, .i 0, .i 0, .bool false, .i x2, .slice none 0 0] 29)) w3.heap.size 29 #[.i x1, .i 0, .i 0, .bool false, .i x2, .slice none 0 0]) := VarA.new _ _ _
 have HR1 : Hid (RdV (w3.alloc (.cells #[.i x1, .i 0, .i 0, .bool false, .i x2, .slice none 0 0] 29)) (fun b => w3.heap.size < b ∧ b < (w3.alloc (.cells #[.i x1, .i 0, .i 0, .bool false, .i x2, .slice none 0 0] 29)).heap.size) (.slice none 0 0) (ensDt [])) := rd_nil _ _
 clear HB8
 go_wp2_with fail
 generalize hwX : w3.alloc (.cells #[.i x1, .i 0, .i 0, .bool false, .i x2, .slice none 0 0] 29) = wX at *
 clear hwX
 generalize w3.heap.size = X at *
 refine Calls.mono (once_any pb 2 _ HB1.out.c (by omega) (by omega)) ?_
 rintro ea_1 wa_1 ⟨ba_1, rfl, ca_1, ga_1⟩
 try clear tt
 have zxa_1 := HV1.out.lt
 have HBa_1 : Hid (PBr w wa_1 pb (w.heap.size + 1) tb (.slice ta l.length tc) l) := HB1.out.grow ca_1 ga_1 hpb hlo htb
 have HVa_1 : Hid (VarA wa_1 X 29 #[.i x1, .i 0, .i 0, .bool false, .i x2, .slice none 0 0]) := vo_grow HV1.out ga_1 (by omega)
 have HRa_1 : Hid (RdV wa_1 (fun b => X < b ∧ b < wa_1.heap.size) (.slice none 0 0) (ensDt [])) := rl_grow HR1.out ga_1 (by omega)
 have tt := HBa_1.out.vT.l1
 go_upto_if 13 with fail
 go_cut [] from 14 (fun wx => RS w pb (w.heap.size + 1) tb (.slice ta l.length tc) l X wx)
 case first =>
  cases ba_1 with
  | false =>
   go_wp2_with fail
   go_meet
   exact ⟨_, _, _, _, _, _, _, _, [], HBa_1.out, HVa_1.out, HRa_1.out, by simp [szEns]⟩
  | true =>
   go_wp2_with fail
   refine Calls.mono (HH.out _ HBa_1.out.c HBa_1.out.r) ?_
   rintro ea_2 wa_2 ⟨⟨pa_2, qa_2, da_2⟩, rfl, hra_2, ca_2, ga_2⟩
   try clear tt
   have zxa_2 := HVa_1.out.lt
   have HBa_2 : Hid (PBr w wa_2 pb (w.heap.size + 1) tb (.slice ta l.length tc) l) := HBa_1.out.grow ca_2 ga_2 hpb hlo htb
   have HVa_2 : Hid (VarA wa_2 X 29 #[.i x1, .i 0, .i 0, .bool false, .i x2, .slice none 0 0]) := vo_grow HVa_1.out ga_2 (by omega)
   have HRa_2 : Hid (RdV wa_2 (fun b => X < b ∧ b < wa_2.heap.size) (.slice none 0 0) (ensDt [])) := rl_grow HRa_1.out ga_2 (by omega)
   have tt := HBa_2.out.vT.l1
   go_wp2_with ((with_reducible refine gS 24 ?_); refine wpList_storeG HVa_2.out rfl rfl rfl (by kernel_rfl) rfl (of_decide_eq_true rfl) rfl ?_; intro ya_3 vya_3 tya_3; have HVa_3 : Hid (VarA ya_3 X 29 #[.i x1, .i pa_2, .i qa_2, .bool da_2, .i x2, .slice none 0 0]) := vya_3; have HBa_3 : Hid (PBr w ya_3 pb (w.heap.size + 1) tb (.slice ta l.length tc) l) := HBa_2.out.put tya_3 hpb (by omega) (Or.inr hX) hlo htb; have tt := HBa_3.out.vT.l1; have HRa_3 : Hid (RdV ya_3 (fun b => X < b ∧ b < ya_3.heap.size) (.slice none 0 0) (ensDt [])) := rl_turn HRa_2.out tya_3 (fun b hb => by omega))
   go_meet
   exact ⟨_, _, _, _, _, _, _, _, [], HBa_3.out, HVa_3.out, HRa_3.out, by simp [szEns]⟩
 case rest =>
  clear tt
  rename World => wd
  obtain ⟨co, sh, ino, dr, vl, la, ln, lc, es, B, vP, rl, hsz⟩ := hcut
  have HB2 : Hid (PBr w wd pb (w.heap.size + 1) tb (.slice ta l.length tc) l) := B
  have HV2 : Hid (VarA wd X 29 #[.i co, .i sh, .i ino, .bool dr, .i vl, .slice la ln lc]) := vP
  have HR2 : Hid (RdV wd (fun b => X < b ∧ b < wd.heap.size) (.slice la ln lc) (ensDt es)) := rl
  clear B vP rl
  have tt := HB2.out.vT.l1
  go_wp2_with fail
  refine Calls.mono (once_any pb 2 _ HB2.out.c (by omega) (by omega)) ?_
  rintro eb_1 wb_1 ⟨bb_1, rfl, cb_1, gb_1⟩
  try clear tt
  have zxb_1 := HV2.out.lt
  have HBb_1 : Hid (PBr w wb_1 pb (w.heap.size + 1) tb (.slice ta l.length tc) l) := HB2.out.grow cb_1 gb_1 hpb hlo htb
  have HVb_1 : Hid (VarA wb_1 X 29 #[.i co, .i sh, .i ino, .bool dr, .i vl, .slice la ln lc]) := vo_grow HV2.out gb_1 (by omega)
  have HRb_1 : Hid (RdV wb_1 (fun b => X < b ∧ b < wb_1.heap.size) (.slice la ln lc) (ensDt es)) := rl_grow HR2.out gb_1 (by omega)
  have tt := HBb_1.out.vT.l1
  go_upto_if 19 with fail
  go_cut [] from 20 (fun wx => RS w pb (w.heap.size + 1) tb (.slice ta l.length tc) l X wx)
  case first =>
   cases bb_1 with
   | false =>
    go_wp2_with fail
    go_meet
    exact ⟨_, _, _, _, _, _, _, _, es, HBb_1.out, HVb_1.out, HRb_1.out, hsz⟩
   | true =>
    obtain ⟨b, off, hta, hbl, hSb, hc⟩ := HBb_1.out.r.at (i := 0) h0l
    rw [hta] at tt
    clear hta
    obtain ⟨x8, q8, r8⟩ := hc 8 (by omega)
    have r8b : RdV wb_1 (fun b => w.heap.size + 1 ≤ b ∧ b < tb) x8 (ensDt (l[0]?.getD nd0).es) := r8
    clear hc r8
    generalize (l[0]?.getD nd0).es = es0 at r8b HES HSZ
    obtain ⟨xa, xc, rfl, _⟩ := RdV.sliced r8b
    have hzp : (0 : Int) < (l.length : Int) := by omega
    rw [Nat.zero_mul, Nat.add_zero] at q8
    have HCE : Hid _ := specCopyEn_any _ _ _ wb_1 r8b (Nat.le_trans HSZ.out (by decide)) (Nat.le_trans HES.out (by decide))
    clear r8b
    go_wp2_with fail
    refine Calls.mono HCE.out ?_
    rintro ec wk ⟨la2, ln2, lc2, rfl, ol, bl⟩
    clear tt
    have HBk : Hid (PBr w wk pb (w.heap.size + 1) tb (.slice ta l.length tc) l) := HBb_1.out.step bl hpb hlo htb
    have HVk : Hid (VarA wk X 29 #[.i co, .i sh, .i ino, .bool dr, .i vl, .slice la ln lc]) := HVb_1.out.step bl
    have zk := HVb_1.out.lt
    have HRk : Hid (RdV wk (fun b => X < b ∧ b < wk.heap.size) (.slice la2 ln2 lc2) (ensDt es0)) := RdV.mono (fun b hb => ⟨by omega, hb.2⟩) (OwV.rd ol)
    clear ol bl
    go_wp2_with ((with_reducible refine gS 27 ?_); refine wpList_storeG HVk.out rfl rfl rfl (by kernel_rfl) rfl (of_decide_eq_true rfl) rfl ?_; intro yb_2 vyb_2 tyb_2; have HVb_2 : Hid (VarA yb_2 X 29 #[.i co, .i sh, .i ino, .bool dr, .i vl, .slice la2 ln2 lc2]) := vyb_2; have HBb_2 : Hid (PBr w yb_2 pb (w.heap.size + 1) tb (.slice ta l.length tc) l) := HBk.out.put tyb_2 hpb (by omega) (Or.inr hX) hlo htb; have tt := HBb_2.out.vT.l1; have HRb_2 : Hid (RdV yb_2 (fun b => X < b ∧ b < yb_2.heap.size) (.slice la2 ln2 lc2) (ensDt es0)) := rl_turn HRk.out tyb_2 (fun b hb => by omega))
    go_meet
    exact ⟨_, _, _, _, _, _, _, _, es0, HBb_2.out, HVb_2.out, HRb_2.out, Nat.le_trans HSZ.out (by decide)⟩
  case rest =>
   clear tt
   rename World => wd
   obtain ⟨co, sh, ino, dr, vl, la, ln, lc, es, B, vP, rl, hsz⟩ := hcut
   have HB3 : Hid (PBr w wd pb (w.heap.size + 1) tb (.slice ta l.length tc) l) := B
   have HV3 : Hid (VarA wd X 29 #[.i co, .i sh, .i ino, .bool dr, .i vl, .slice la ln lc]) := vP
   have HR3 : Hid (RdV wd (fun b => X < b ∧ b < wd.heap.size) (.slice la ln lc) (ensDt es)) := rl
   clear B vP rl
   have tt := HB3.out.vT.l1
   go_wp2_with fail
   refine Calls.mono (once_any pb 10 _ HB3.out.c (by omega) (by omega)) ?_
   rintro ec_1 wc_1 ⟨bc_1, rfl, cc_1, gc_1⟩
   try clear tt
   have zxc_1 := HV3.out.lt
   have HBc_1 : Hid (PBr w wc_1 pb (w.heap.size + 1) tb (.slice ta l.length tc) l) := HB3.out.grow cc_1 gc_1 hpb hlo htb
   have HVc_1 : Hid (VarA wc_1 X 29 #[.i co, .i sh, .i ino, .bool dr, .i vl, .slice la ln lc]) := vo_grow HV3.out gc_1 (by omega)
   have HRc_1 : Hid (RdV wc_1 (fun b => X < b ∧ b < wc_1.heap.size) (.slice la ln lc) (ensDt es)) := rl_grow HR3.out gc_1 (by omega)
   have tt := HBc_1.out.vT.l1
   cases bc_1 with
   | false =>
    clear tt
    obtain ⟨o0, o1, o2, o3, o4, o5⟩ := HVc_1.out.l6
    go_wp2_with ((with_reducible refine gS 29 ?_); refine sF HBc_1.out.vR rfl rfl (by kernel_rfl) rfl rfl ?_; intro wz vZ t_)
    refine bpR Tryz.results140 vZ Tryz.underlying29 rfl rfl (by kernel_rfl) rfl ?_
    exact ⟨⟨co, (sh, ino, dr), vl, es⟩, _, _, _, rfl, rd_end HRc_1.out t_ (by omega) (by omega), hsz, cur_keep HBc_1.out.c t_ (by omega), grown_keep HBc_1.out.g t_ (by omega)⟩
   | true =>
    go_wp2_with fail
    refine Calls.mono (below_any pb 4 _ HBc_1.out.c (by omega) (by omega)) ?_
    rintro ec_2 wc_2 ⟨xc_2, rfl, xac_2, xbc_2, cc_2, gc_2⟩
    try clear tt
    have zxc_2 := HVc_1.out.lt
    have HBc_2 : Hid (PBr w wc_2 pb (w.heap.size + 1) tb (.slice ta l.length tc) l) := HBc_1.out.grow cc_2 gc_2 hpb hlo htb
    have HVc_2 : Hid (VarA wc_2 X 29 #[.i co, .i sh, .i ino, .bool dr, .i vl, .slice la ln lc]) := vo_grow HVc_1.out gc_2 (by omega)
    have HRc_2 : Hid (RdV wc_2 (fun b => X < b ∧ b < wc_2.heap.size) (.slice la ln lc) (ensDt es)) := rl_grow HRc_1.out gc_2 (by omega)
    have tt := HBc_2.out.vT.l1
    have hx : xc_2 = 0 ∨ xc_2 = 1 ∨ xc_2 = 2 ∨ xc_2 = 3 := by omega
    rcases hx with rfl | rfl | rfl | rfl
    ·go_wp2_with fail
     refine Calls.mono (pick_any pb wc_2.heap.size [-1, 12] _ (HBc_2.out.c.alloc _) (by simp) (by simp) (by have := HBc_2.out.c.lt; omega) (heap_alloc_new wc_2 _)) ?_
     rintro ec_3 wc_3 ⟨xc_3, rfl, hmc_3, cc_3, gc_3⟩
     try clear tt
     have zxc_3 := HVc_2.out.lt
     have HBc_3 : Hid (PBr w wc_3 pb (w.heap.size + 1) tb (.slice ta l.length tc) l) := (HBc_2.out.step (Below.newH _) hpb hlo htb).grow cc_3 gc_3 hpb hlo htb
     have HVc_3 : Hid (VarA wc_3 X 29 #[.i co, .i sh, .i ino, .bool dr, .i vl, .slice la ln lc]) := vo_grow (HVc_2.out.alloc _) gc_3 (by omega)
     have HRc_3 : Hid (RdV wc_3 (fun b => X < b ∧ b < wc_3.heap.size) (.slice la ln lc) (ensDt es)) := rl_grow (rl_turn HRc_2.out (Turned.ofBelow (S := fun b => False) (Below.newH _)) (fun b hb => hb.elim)) gc_3 (by omega)
     have tt := HBc_3.out.vT.l1
     go_wp2_with (first | ((with_reducible refine gS 29 ?_); refine sF HBc_4.out.vR rfl rfl (by kernel_rfl) rfl rfl ?_; intro wz vZ t_) | ((with_reducible refine gS 3 ?_); refine wpList_storeG HVc_3.out rfl rfl rfl (by kernel_rfl) rfl (of_decide_eq_true rfl) rfl ?_; intro yc_4 vyc_4 tyc_4; have HVc_4 : Hid (VarA yc_4 X 29 #[.i xc_3, .i sh, .i ino, .bool dr, .i vl, .slice la ln lc]) := vyc_4; have HBc_4 : Hid (PBr w yc_4 pb (w.heap.size + 1) tb (.slice ta l.length tc) l) := HBc_3.out.put tyc_4 hpb (by omega) (Or.inr hX) hlo htb; have tt := HBc_4.out.vT.l1; have HRc_4 : Hid (RdV yc_4 (fun b => X < b ∧ b < yc_4.heap.size) (.slice la ln lc) (ensDt es)) := rl_turn HRc_3.out tyc_4 (fun b hb => by omega); obtain ⟨o0, o1, o2, o3, o4, o5⟩ := HVc_4.out.l6))
     refine bpR Tryz.results140 vZ Tryz.underlying29 rfl rfl (by kernel_rfl) rfl ?_
     exact ⟨⟨xc_3, (sh, ino, dr), vl, es⟩, _, _, _, rfl, rd_end HRc_4.out t_ (by omega) (by omega), hsz, cur_keep HBc_4.out.c t_ (by omega), grown_keep HBc_4.out.g t_ (by omega)⟩
    ·go_wp2_with fail
     refine Calls.mono (num_any pb _ HBc_2.out.c) ?_
     rintro ec_3 wc_3 ⟨xc_3, rfl, xac_3, xbc_3, cc_3, gc_3⟩
     try clear tt
     have zxc_3 := HVc_2.out.lt
     have HBc_3 : Hid (PBr w wc_3 pb (w.heap.size + 1) tb (.slice ta l.length tc) l) := HBc_2.out.grow cc_3 gc_3 hpb hlo htb
     have HVc_3 : Hid (VarA wc_3 X 29 #[.i co, .i sh, .i ino, .bool dr, .i vl, .slice la ln lc]) := vo_grow HVc_2.out gc_3 (by omega)
     have HRc_3 : Hid (RdV wc_3 (fun b => X < b ∧ b < wc_3.heap.size) (.slice la ln lc) (ensDt es)) := rl_grow HRc_2.out gc_3 (by omega)
     have tt := HBc_3.out.vT.l1
     go_wp2_with (first | ((with_reducible refine gS 29 ?_); refine sF HBc_4.out.vR rfl rfl (by kernel_rfl) rfl rfl ?_; intro wz vZ t_) | ((with_reducible refine gS 3 ?_); refine wpList_storeG HVc_3.out rfl rfl rfl (by kernel_rfl) rfl (of_decide_eq_true rfl) rfl ?_; intro yc_4 vyc_4 tyc_4; have HVc_4 : Hid (VarA yc_4 X 29 #[.i co, .i sh, .i ino, .bool dr, .i xc_3, .slice la ln lc]) := vyc_4; have HBc_4 : Hid (PBr w yc_4 pb (w.heap.size + 1) tb (.slice ta l.length tc) l) := HBc_3.out.put tyc_4 hpb (by omega) (Or.inr hX) hlo htb; have tt := HBc_4.out.vT.l1; have HRc_4 : Hid (RdV yc_4 (fun b => X < b ∧ b < yc_4.heap.size) (.slice la ln lc) (ensDt es)) := rl_turn HRc_3.out tyc_4 (fun b hb => by omega); obtain ⟨o0, o1, o2, o3, o4, o5⟩ := HVc_4.out.l6))
     refine bpR Tryz.results140 vZ Tryz.underlying29 rfl rfl (by kernel_rfl) rfl ?_
     exact ⟨⟨co, (sh, ino, dr), xc_3, es⟩, _, _, _, rfl, rd_end HRc_4.out t_ (by omega) (by omega), hsz, cur_keep HBc_4.out.c t_ (by omega), grown_keep HBc_4.out.g t_ (by omega)⟩
    ·go_wp2_with fail
     refine Calls.mono (below_any pb 14 _ HBc_2.out.c (by omega) (by omega)) ?_
     rintro ec_3 wc_3 ⟨xc_3, rfl, xac_3, xbc_3, cc_3, gc_3⟩
     try clear tt
     have zxc_3 := HVc_2.out.lt
     have HBc_3 : Hid (PBr w wc_3 pb (w.heap.size + 1) tb (.slice ta l.length tc) l) := HBc_2.out.grow cc_3 gc_3 hpb hlo htb
     have HVc_3 : Hid (VarA wc_3 X 29 #[.i co, .i sh, .i ino, .bool dr, .i vl, .slice la ln lc]) := vo_grow HVc_2.out gc_3 (by omega)
     have HRc_3 : Hid (RdV wc_3 (fun b => X < b ∧ b < wc_3.heap.size) (.slice la ln lc) (ensDt es)) := rl_grow HRc_2.out gc_3 (by omega)
     have tt := HBc_3.out.vT.l1
     obtain ⟨N, rfl⟩ : ∃ N : Nat, xc_3 = (N : Int) := ⟨xc_3.toNat, by omega⟩
     have hmk := makeEn wc_3 N (by omega)
     have HRm : Hid (RdV (wc_3.alloc (.cells (madeCells #[.slice none 0 0, .i 0, .i 0, .bool false] (N * 4)) 139)) (fun b => X < b ∧ b < (wc_3.alloc (.cells (madeCells #[.slice none 0 0, .i 0, .i 0, .bool false] (N * 4)) 139)).heap.size) (.slice (some ⟨wc_3.heap.size, 0, none⟩) N N) (ensDt (List.replicate N en0))) := RdV.mono (fun b hb => ⟨by have := HVc_3.out.lt; omega, by rw [World.size_alloc]; omega⟩) (madeEn wc_3 N (by omega))
     have HBm : Hid (PBr w (wc_3.alloc (.cells (madeCells #[.slice none 0 0, .i 0, .i 0, .bool false] (N * 4)) 139)) pb (w.heap.size + 1) tb (.slice ta l.length tc) l) := HBc_3.out.step (Below.newH _) hpb hlo htb
     have HVm : Hid (VarA (wc_3.alloc (.cells (madeCells #[.slice none 0 0, .i 0, .i 0, .bool false] (N * 4)) 139)) X 29 #[.i co, .i sh, .i ino, .bool dr, .i vl, .slice la ln lc]) := HVc_3.out.alloc _
     go_wp2_with (first | ((with_reducible refine gS 29 ?_); refine sF HBc_4.out.vR rfl rfl (by kernel_rfl) rfl rfl ?_; intro wz vZ t_) | ((with_reducible refine gS 27 ?_); refine wpList_storeG HVm.out rfl rfl rfl (by kernel_rfl) rfl (of_decide_eq_true rfl) rfl ?_; intro yc_4 vyc_4 tyc_4; have HVc_4 : Hid (VarA yc_4 X 29 #[.i co, .i sh, .i ino, .bool dr, .i vl, .slice (some ⟨wc_3.heap.size, 0, none⟩) N N]) := vyc_4; have HBc_4 : Hid (PBr w yc_4 pb (w.heap.size + 1) tb (.slice ta l.length tc) l) := HBm.out.put tyc_4 hpb (by omega) (Or.inr hX) hlo htb; have tt := HBc_4.out.vT.l1; have HRc_4 : Hid (RdV yc_4 (fun b => X < b ∧ b < yc_4.heap.size) (.slice (some ⟨wc_3.heap.size, 0, none⟩) N N) (ensDt (List.replicate N en0))) := rl_turn HRm.out tyc_4 (fun b hb => by omega); obtain ⟨o0, o1, o2, o3, o4, o5⟩ := HVc_4.out.l6))
     refine bpR Tryz.results140 vZ Tryz.underlying29 rfl rfl (by kernel_rfl) rfl ?_
     exact ⟨⟨co, (sh, ino, dr), vl, (List.replicate N en0)⟩, _, _, _, rfl, rd_end HRc_4.out t_ (by omega) (by omega), by rw [szEns_rep]; omega, cur_keep HBc_4.out.c t_ (by omega), grown_keep HBc_4.out.g t_ (by omega)⟩
    ·clear tt
     go_wp2_with (first | ((with_reducible refine gS 29 ?_); refine sF HBc_3.out.vR rfl rfl (by kernel_rfl) rfl rfl ?_; intro wz vZ t_) | ((with_reducible refine gS 3 ?_); refine wpList_storeG HVc_2.out rfl rfl rfl (by kernel_rfl) rfl (of_decide_eq_true rfl) rfl ?_; intro yc_3 vyc_3 tyc_3; have HVc_3 : Hid (VarA yc_3 X 29 #[.i co, .i sh, .i (-1), .bool dr, .i vl, .slice la ln lc]) := vyc_3; have HBc_3 : Hid (PBr w yc_3 pb (w.heap.size + 1) tb (.slice ta l.length tc) l) := HBc_2.out.put tyc_3 hpb (by omega) (Or.inr hX) hlo htb; have tt := HBc_3.out.vT.l1; have HRc_3 : Hid (RdV yc_3 (fun b => X < b ∧ b < yc_3.heap.size) (.slice la ln lc) (ensDt es)) := rl_turn HRc_2.out tyc_3 (fun b hb => by omega); obtain ⟨o0, o1, o2, o3, o4, o5⟩ := HVc_3.out.l6))
     refine bpR Tryz.results140 vZ Tryz.underlying29 rfl rfl (by kernel_rfl) rfl ?_
     exact ⟨⟨co, (sh, (-1), dr), vl, es⟩, _, _, _, rfl, rd_end HRc_3.out t_ (by omega) (by omega), hsz, cur_keep HBc_3.out.c t_ (by omega), grown_keep HBc_3.out.g t_ (by omega)⟩
end
section
theorem rm_turn {w w' : World} {X : Nat} {m : MsD} {x y z u : Value} {S : Nat → Prop} (r : RdM w (fun b => X < b ∧ b < w.heap.size) m x y z u) (t : Turned S w w') (hS : ∀ b, S b → b ≤ X) : RdM w' (fun b => X < b ∧ b < w'.heap.size) m x y z u :=
 ⟨rl_turn r.1 t hS, rl_turn r.2.1 t hS, rl_turn r.2.2.1 t hS, rl_turn r.2.2.2 t hS⟩
theorem rm_grow {w w' : World} {X pb : Nat} {m : MsD} {x y z u : Value} (r : RdM w (fun b => X < b ∧ b < w.heap.size) m x y z u) (hg : w.grownBy w' (some pb)) (hX : pb ≤ X) : RdM w' (fun b => X < b ∧ b < w'.heap.size) m x y z u :=
 rm_turn r (Turned.ofGrown (S := fun b => b = pb) hg (fun k hk => by cases hk; rfl)) (fun b hb => by omega)
theorem rm_end {w w' : World} {X q n : Nat} {m : MsD} {x y z u : Value} (r : RdM w (fun b => X < b ∧ b < w.heap.size) m x y z u) (t : Turned (fun b => b = q) w w') (hq : q ≤ X) (hX : n ≤ X) : RdM w' (fun b => n < b ∧ b < w'.heap.size) m x y z u :=
 ⟨rd_end r.1 t hq hX, rd_end r.2.1 t hq hX, rd_end r.2.2.1 t hq hX, rd_end r.2.2.2 t hq hX⟩
theorem rdB_form {w : World} {S : Nat → Prop} {v : Value} {zs : List Int} (r : RdV w S v (.bytes zs)) : ∃ a n c, v = .slice a n c := by obtain ⟨a, c, rfl⟩ := RdV.sliceB r; exact ⟨_, _, _, rfl⟩
structure SzB (m : MsD) : Prop where
 n : m.op.nm.length ≤ 7
 a : m.op.asn.length ≤ 7
 l : szEns m.rp.list ≤ 200
 u : m.pt.asn.length ≤ 3
theorem SzB.sz {m : MsD} (h : SzB m) : szMs m ≤ 217 := by have := h.n; have := h.a; have := h.l; have := h.u; unfold szMs; omega
end
section
theorem implMsgRead_any (v : Value) (zs : List Int) (S : Nat → Prop) (w : World) (r : RdV w S v (.bytes zs)) (hl : zs.length ≤ 2000000) :
  Calls Tryz.prog 13 #[v] w (MRd zs w) := by
 by_cases hk : (getNum zs 0).1 < 0 ∨ 7 < (getNum zs 0).1
 ·exact implMReadX v zs S w r hl hk
 ·rcases (show (getNum zs 0).1 = 0 ∨ (getNum zs 0).1 = 1 ∨ (getNum zs 0).1 = 2 ∨ (getNum zs 0).1 = 3 ∨ (getNum zs 0).1 = 4 ∨ (getNum zs 0).1 = 5 ∨ (getNum zs 0).1 = 6 ∨ (getNum zs 0).1 = 7 by omega) with h_ | h_ | h_ | h_ | h_ | h_ | h_ | h_
  ·exact implMRead0 v zs S w r hl h_
  ·exact implMRead1 v zs S w r hl h_
  ·exact implMRead2 v zs S w r hl h_
  ·exact implMRead3 v zs S w r hl h_
  ·exact implMRead4 v zs S w r hl h_
  ·exact implMRead5 v zs S w r hl h_
  ·exact implMRead6 v zs S w r hl h_
  ·exact implMRead7 v zs S w r hl h_
end
end Go.Proofs.YtklhikadhohjbaaGreat
