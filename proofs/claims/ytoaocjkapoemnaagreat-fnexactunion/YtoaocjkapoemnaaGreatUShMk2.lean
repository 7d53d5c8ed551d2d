/- What shards have promised, marked by the verifier's helpers. Condition: no more than 2^21 of all, marks of at most 2^40. -/
import Derived.Test.YtoaocjkapoemnaaGreatUA01
namespace Go.Proofs.YtoaocjkapoemnaaGreat
open Go.RowKit
set_option linter.unusedVariables false
set_option linter.unusedSimpArgs false
set_option maxRecDepth 100000

theorem mkIntent_row {w : World} {S : Nat → Prop} {g n cap j s : Nat} {F : Nat → Nat → Dt} (o : OwV w S (.slice (some ⟨g, 0, none⟩) n cap) (.rows 111 15 n F)) (hj : j < n) (W : World) (hW : (((((((w.setCell ⟨g, j * 15, none⟩ (.int .i64 (((s : Nat)) : Int))).setCell ⟨g, j * 15 + 1, none⟩ (.int .i64 (((s + 1 : Nat)) : Int))).setCell ⟨g, j * 15 + 2, none⟩ (.int .i64 (((s + 2 : Nat)) : Int))).setCell ⟨g, j * 15 + 3, none⟩ (.int .i64 (((s + 3 : Nat)) : Int))).setCell ⟨g, j * 15 + 4, none⟩ (.int .i64 (((s + 4 : Nat)) : Int))).setCell ⟨g, j * 15 + 5, none⟩ (.int .i64 (((s + 5 : Nat)) : Int))).setCell ⟨g, j * 15 + 6, none⟩ (.bool (m3 (s + 6)))) = W) :
    ∃ (Q : Nat → Prop) (x : Value), w.cell? ⟨g, j * 15 + 7, none⟩ = some x ∧ OwV W Q x (F j 7) ∧ (∀ b, Q b → S b ∧ b ≠ g) ∧ Turned S w W ∧
      ∀ w2 d, Turned Q W w2 → OwV w2 Q x d → ∃ F', OwV w2 S (.slice (some ⟨g, 0, none⟩) n cap) (.rows 111 15 n F') ∧ (∀ i q, i ≠ j → F' i q = F i q) ∧ ∀ q, 7 < q → F' j q = F j q := by
  obtain ⟨hbad, _⟩ | ⟨g', cp, hg, hSg, hgl, hfz, hcs⟩ := OwV.head o
  · cases hbad
  simp only [Value.slice.injEq, Option.some.injEq, Addr.mk.injEq, and_true, true_and] at hg
  obtain ⟨rfl, rfl⟩ := hg
  have ht : Turned S w (((((((w.setCell ⟨g, j * 15, none⟩ (.int .i64 (((s : Nat)) : Int))).setCell ⟨g, j * 15 + 1, none⟩ (.int .i64 (((s + 1 : Nat)) : Int))).setCell ⟨g, j * 15 + 2, none⟩ (.int .i64 (((s + 2 : Nat)) : Int))).setCell ⟨g, j * 15 + 3, none⟩ (.int .i64 (((s + 3 : Nat)) : Int))).setCell ⟨g, j * 15 + 4, none⟩ (.int .i64 (((s + 4 : Nat)) : Int))).setCell ⟨g, j * 15 + 5, none⟩ (.int .i64 (((s + 5 : Nat)) : Int))).setCell ⟨g, j * 15 + 6, none⟩ (.bool (m3 (s + 6)))) := (Turned.refl S w) |>.set _ _ hSg |>.set _ _ hSg |>.set _ _ hSg |>.set _ _ hSg |>.set _ _ hSg |>.set _ _ hSg |>.set _ _ hSg
  have p8 : OwV (((((((w.setCell ⟨g, j * 15, none⟩ (.int .i64 (((s : Nat)) : Int))).setCell ⟨g, j * 15 + 1, none⟩ (.int .i64 (((s + 1 : Nat)) : Int))).setCell ⟨g, j * 15 + 2, none⟩ (.int .i64 (((s + 2 : Nat)) : Int))).setCell ⟨g, j * 15 + 3, none⟩ (.int .i64 (((s + 3 : Nat)) : Int))).setCell ⟨g, j * 15 + 4, none⟩ (.int .i64 (((s + 4 : Nat)) : Int))).setCell ⟨g, j * 15 + 5, none⟩ (.int .i64 (((s + 5 : Nat)) : Int))).setCell ⟨g, j * 15 + 6, none⟩ (.bool (m3 (s + 6)))) S (.slice (some ⟨g, 0, none⟩) n cap) _ := (OwV.putB (OwV.putI (OwV.putI (OwV.putI (OwV.putI (OwV.putI (OwV.putI o 0 hj (by omega) _) 1 hj (by omega) _) 2 hj (by omega) _) 3 hj (by omega) _) 4 hj (by omega) _) 5 hj (by omega) _) 6 hj (by omega) _)
  have hc0 : (((((((w.setCell ⟨g, j * 15, none⟩ (.int .i64 (((s : Nat)) : Int))).setCell ⟨g, j * 15 + 1, none⟩ (.int .i64 (((s + 1 : Nat)) : Int))).setCell ⟨g, j * 15 + 2, none⟩ (.int .i64 (((s + 2 : Nat)) : Int))).setCell ⟨g, j * 15 + 3, none⟩ (.int .i64 (((s + 3 : Nat)) : Int))).setCell ⟨g, j * 15 + 4, none⟩ (.int .i64 (((s + 4 : Nat)) : Int))).setCell ⟨g, j * 15 + 5, none⟩ (.int .i64 (((s + 5 : Nat)) : Int))).setCell ⟨g, j * 15 + 6, none⟩ (.bool (m3 (s + 6)))).cell? ⟨g, j * 15 + 7, none⟩ = w.cell? ⟨g, j * 15 + 7, none⟩ := by simp [go_sem]
  rw [hW] at hc0 ht p8
  obtain ⟨Q, x, g2, cp2, hv, hc, hox, hQ, hback⟩ := OwV.sub p8 hj (j := 7) (by omega)
  simp only [Value.slice.injEq, Option.some.injEq, Addr.mk.injEq, and_true, true_and] at hv
  obtain ⟨rfl, rfl⟩ := hv
  refine ⟨Q, x, hc0.symm.trans hc, ?_, hQ, ht, fun w2 d t2 o2 => ⟨_, hback w2 d t2 o2, fun i q hi => ?_, fun q hq => ?_⟩⟩
  · simpa [upd] using hox
  · simp [upd, hi]
  · simp [upd, (show q ≠ 0 by omega), (show q ≠ 1 by omega), (show q ≠ 2 by omega), (show q ≠ 3 by omega), (show q ≠ 4 by omega), (show q ≠ 5 by omega), (show q ≠ 6 by omega), (show q ≠ 7 by omega)]
set_option maxHeartbeats 8000000 in
theorem markIntentS_m (v : Value) (l : List ItD) (k : Nat) (S : Nat → Prop) (w : World) (o : OwV w S v (itsDt l)) (hl : szIts l ≤ 2097152) (hk : k + 14 * szIts l ≤ 1099511627776) : Calls Tryz.prog 28 #[v, .int .i64 k] w (MkP w S v (k + 14 * szIts l)) := by
  obtain ⟨a, cap, rfl, _⟩ := RdV.sliced o.rd
  have HO : Hid (OwV w S (.slice a l.length cap) (.rows 111 15 l.length (fun i j => itCell (l[i]?.getD it0) j))) := o
  have HX : Hid (szIts l = l.length + psum (fun e : ItD => e.pt.asn.length) l l.length) := by show _ = _; rw [psum_all]; rfl
  have HU : Hid (∀ j, j < l.length → psum (fun e : ItD => e.pt.asn.length) l (j + 1) = psum (fun e : ItD => e.pt.asn.length) l j + (fun e : ItD => e.pt.asn.length) (l[j]?.getD it0) ∧ psum (fun e : ItD => e.pt.asn.length) l (j + 1) ≤ psum (fun e : ItD => e.pt.asn.length) l l.length) := fun j hj => ⟨psum_next _ l _ j hj, by rw [psum_all]; exact psum_le _ l _⟩
  have HZ0 : Hid (psum (fun e : ItD => e.pt.asn.length) l 0 = 0) := psum_zero _ _
  have HSA : Hid (∀ j, (fun e : ItD => e.pt.asn.length) (l[j]?.getD it0) ≤ 2097152) := fun j => by have h1 := szIts_at l j; dsimp only; omega
  rw [HX.out] at hk ⊢
  generalize psum (fun e : ItD => e.pt.asn.length) l = P at HU HZ0 HX hk ⊢
  have hnn : l.length ≤ 2097152 := by have := HX.out; omega
  clear o hl HX
  generalize l.length = n at *
  go_enter Tryz.func28, Tryz.ntmps28
  go_wp2
  go_loopw [1, 5] (fun q i wr => ∃ j s : Nat, j ≤ n ∧ i = .int .i64 j ∧ q = .int .i64 s ∧ Hid (s ≤ k + 14 * (j + P j)) ∧ Hid (∃ F, (∀ i q, j ≤ i → F i q = itCell (l[i]?.getD it0) q) ∧ OwV wr S (.slice a n cap) (.rows 111 15 n F)) ∧ Hid (Turned S w wr)) (fun _ i _ => n - (intOf i).toNat)
  case atStart => exact ⟨0, k, Nat.zero_le _, rfl, rfl, by show _ ≤ _; omega, ⟨_, fun _ _ _ => rfl, HO.out⟩, Turned.refl _ _⟩
  case round =>
    clear HO
    obtain ⟨j, s, hj, rfl, rfl, HS, HO, HT⟩ := hrel
    by_cases hlt : j < n
    · obtain ⟨F, hF, ho⟩ := HO.out
      have HFF : Hid (∀ i q, j ≤ i → F i q = itCell (l[i]?.getD it0) q) := hF
      have hFj : ∀ q, F j q = itCell (l[j]?.getD it0) q := fun q => hF j q (Nat.le_refl _)
      obtain ⟨hu1, hu2⟩ := HU.out j hlt
      have hsa := HSA.out j
      obtain ⟨e, he⟩ : ∃ e, l[j]?.getD it0 = e := ⟨_, rfl⟩
      rw [he] at hu1 hFj hsa
      clear he
      obtain ⟨⟨xs, xb, xn⟩, ⟨pk, ⟨pp, pq, pd⟩, pas, ⟨sp, sq, sd⟩⟩, cd, ⟨fp, fq, fd⟩⟩ := e
      try dsimp only at hu1 hsa
      generalize hmm : pas.length = m at hu1 hsa
      have hs1 := HS.out
      obtain ⟨hbad, _⟩ | ⟨g, cp, hg, hSg, hgl, hfz, hcs⟩ := OwV.head ho
      · simp only [Value.slice.injEq] at hbad; omega
      simp only [Value.slice.injEq, true_and] at hg
      obtain ⟨rfl, rfl⟩ := hg
      obtain ⟨y0, c0⟩ := hcs (j * 15) (by omega)
      obtain ⟨y1, c1⟩ := hcs (j * 15 + 1) (by omega)
      obtain ⟨y2, c2⟩ := hcs (j * 15 + 2) (by omega)
      obtain ⟨y3, c3⟩ := hcs (j * 15 + 3) (by omega)
      obtain ⟨y4, c4⟩ := hcs (j * 15 + 4) (by omega)
      obtain ⟨y5, c5⟩ := hcs (j * 15 + 5) (by omega)
      obtain ⟨y6, c6⟩ := hcs (j * 15 + 6) (by omega)
      obtain ⟨W, hW⟩ : ∃ W, (((((((wr.setCell ⟨g, j * 15, none⟩ (.int .i64 (((s : Nat)) : Int))).setCell ⟨g, j * 15 + 1, none⟩ (.int .i64 (((s + 1 : Nat)) : Int))).setCell ⟨g, j * 15 + 2, none⟩ (.int .i64 (((s + 2 : Nat)) : Int))).setCell ⟨g, j * 15 + 3, none⟩ (.int .i64 (((s + 3 : Nat)) : Int))).setCell ⟨g, j * 15 + 4, none⟩ (.int .i64 (((s + 4 : Nat)) : Int))).setCell ⟨g, j * 15 + 5, none⟩ (.int .i64 (((s + 5 : Nat)) : Int))).setCell ⟨g, j * 15 + 6, none⟩ (.bool (m3 (s + 6)))) = W := ⟨_, rfl⟩
      obtain ⟨Q, x, hcx, hox, hQ, hts, hback⟩ := mkIntent_row ho hlt W hW
      rw [hFj] at hox
      have hox2 : OwV W Q x (.bytes pas) := hox
      have HXX : Hid _ := markB_m x pas (s + 7) Q W hox2 (by omega) (by omega)
      obtain ⟨xa, xc, rfl⟩ := RdV.sliceB (OwV.rd hox2)
      have HBK : Hid _ := hback
      have HQ : Hid _ := hQ
      have HWW : Hid _ := hW
      have HTS : Hid _ := HT.out.trans hts
      have HFJ : Hid _ := hFj
      have HSG : Hid (S g) := hSg
      clear hback hQ hox hox2 ho hW hts HO hF hFj HT hSg hcs
      rw [← HWW.out] at HXX
      have HMM : Hid _ := hmm
      clear hmm
      generalize pas.length = xn at *
      go_wp2_with fail
      refine Calls.mono HXX.out ?_
      rintro e w2 ⟨k2, rfl, hk2, ⟨d2, o2⟩, t2⟩
      rw [HWW.out] at t2
      obtain ⟨F2, of2, hf2, hg2⟩ := HBK.out w2 d2 t2 o2
      have HT2 : Hid (Turned S w w2) := HTS.out.trans (t2.wide (fun b hb => (HQ.out b hb).1))
      have hmm := HMM.out
      clear HBK HQ HTS t2 o2 HXX HWW hcx c0 c1 c2 c3 c4 c5 c6
      obtain ⟨hbad, _⟩ | ⟨g2, cp2, hg, _, hgl2, hfz2, hcs⟩ := OwV.head of2
      · cases hbad
      simp only [Value.slice.injEq, Option.some.injEq, Addr.mk.injEq, and_true, true_and] at hg
      obtain ⟨rfl, rfl⟩ := hg
      obtain ⟨y8, c8⟩ := hcs (j * 15 + 8) (by omega)
      obtain ⟨y9, c9⟩ := hcs (j * 15 + 9) (by omega)
      obtain ⟨y10, c10⟩ := hcs (j * 15 + 10) (by omega)
      obtain ⟨y11, c11⟩ := hcs (j * 15 + 11) (by omega)
      obtain ⟨y12, c12⟩ := hcs (j * 15 + 12) (by omega)
      obtain ⟨y13, c13⟩ := hcs (j * 15 + 13) (by omega)
      obtain ⟨y14, c14⟩ := hcs (j * 15 + 14) (by omega)
      have HOF : Hid _ := of2
      have HLF : Hid _ := hf2
      clear of2 hf2 hcs
      go_wp2
      go_roundw
      case rel => exact ⟨j + 1, k2 + 7, by omega, by go_num, by first | rfl | go_num | (congr 1; omega), by show _ ≤ _; rw [hu1]; omega, ⟨_, fun i q hi => by simp only [upd, show i ≠ j by omega, false_and, if_false]; rw [HLF.out i q (by omega)]; exact HFF.out i q (by omega), (OwV.putB (OwV.putI (OwV.putI (OwV.putI (OwV.putB (OwV.putI (OwV.putI HOF.out 8 hlt (by omega) _) 9 hlt (by omega) _) 10 hlt (by omega) _) 11 hlt (by omega) _) 12 hlt (by omega) _) 13 hlt (by omega) _) 14 hlt (by omega) _)⟩, (HT2.out |>.set _ _ HSG.out |>.set _ _ HSG.out |>.set _ _ HSG.out |>.set _ _ HSG.out |>.set _ _ HSG.out |>.set _ _ HSG.out |>.set _ _ HSG.out)⟩
      case measure => simp [intOf]; omega
    · have hjn : j = n := by omega
      subst hjn
      go_wp2
      go_ret
      obtain ⟨F, _, ho⟩ := HO.out
      exact ⟨s, rfl, HS.out, ⟨_, ho⟩, HT.out⟩

end Go.Proofs.YtoaocjkapoemnaaGreat
