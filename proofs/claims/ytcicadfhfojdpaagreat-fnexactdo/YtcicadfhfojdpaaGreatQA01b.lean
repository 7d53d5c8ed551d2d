/- Joined: IC1 IC2 WOk WOk2 ImplT1 OpenT2 Ops2 Eqs WEq. -/
import Derived.Test.YtcicadfhfojdpaaGreatQA01
import Derived.Deep.QuietTactic
import Derived.BigQuiet
import Derived.Deep.RegionHeld3

namespace Go.Proofs.YtcicadfhfojdpaaGreat
open Go.RowKit
set_option linter.unusedVariables false
set_option linter.unusedSimpArgs false
set_option maxRecDepth 100000
section
set_option maxHeartbeats 4000000 in
theorem implCopyEn_any (v : Value) (l : List En) (S : Nat → Prop) (w : World) (r : RdV w S v (ensDt l)) (hl : szEns l ≤ 2097152) (hn : l.length ≤ 4000) :
    Calls Tryz.prog 83 #[v] w fun e w' => ∃ a n c, e = .returned (.slice a n c) ∧ OwV w' (fun b => w.heap.size ≤ b ∧ b < w'.heap.size) (.slice a n c) (ensDt l) ∧ Below w.heap.size w w' := by
  obtain ⟨a, cap, rfl, _⟩ := RdV.sliced r
  have HR : Hid (∀ W, Below w.heap.size w W → RdV W S (.slice a l.length cap) (ensDt l)) := fun W hW => r.step hW
  have HLN : Hid (∀ k, k < l.length → (l[k]?.getD en0).nm.length ≤ 2097152) := fun k hk => Nat.le_trans (szEns_at l k) hl
  clear r hl
  go_enter Tryz.func83, Tryz.ntmps83
  go_wp2
  go_loopw [3, 8] (fun o i wr => ∃ (k : Nat) (ga : Option Addr) (gn gc : Nat), k ≤ l.length ∧ i = .i k ∧ o = .slice ga gn gc ∧ Hid (OwV wr (fun b => w.heap.size ≤ b ∧ b < wr.heap.size) (.slice ga gn gc) (ensDt (l.take k))) ∧ Hid (Below w.heap.size w wr)) (fun _ i _ => l.length - (intOf i).toNat)
  case atStart => exact ⟨0, none, 0, 0, Nat.zero_le _, rfl, rfl, OwV.nilR _ _ _ _ _, Below.refl _ _⟩
  case round =>
    obtain ⟨k, ga, gn, gc, hk, rfl, rfl, HO, HB⟩ := hrel
    by_cases hlt : k < l.length
    · obtain ⟨b, off, rfl, hbl, hSb, hc⟩ := (HR.out w (Below.refl _ _)).at hlt
      obtain ⟨x0, q0, r0⟩ := hc 0 (by omega)
      obtain ⟨x1, q1, r1⟩ := hc 1 (by omega)
      obtain ⟨x2, q2, r2⟩ := hc 2 (by omega)
      obtain ⟨x3, q3, r3⟩ := hc 3 (by omega)
      have htk : l.take (k + 1) = l.take k ++ [l[k]?.getD en0] := by rw [List.take_succ_eq_append_getElem hlt]; simp [hlt]
      have hnm := HLN.out k hlt
      generalize l[k]?.getD en0 = e at r0 r1 r2 r3 htk hnm
      obtain ⟨nm, ⟨sh, ino, dr⟩⟩ := e
      obtain rfl : x1 = .i sh := r1
      obtain rfl : x2 = .i ino := r2
      obtain rfl : x3 = .bool dr := r3
      have r0' : RdV w S x0 (.bytes nm) := r0
      obtain ⟨a0, c0, rfl⟩ := r0'.sliceB
      have p0 := (HB.out.cell (p := ⟨b, off + k * 4 + 0, none⟩) hbl).trans q0
      have p1 := (HB.out.cell (p := ⟨b, off + k * 4 + 1, none⟩) hbl).trans q1
      have p2 := (HB.out.cell (p := ⟨b, off + k * 4 + 2, none⟩) hbl).trans q2
      have p3 := (HB.out.cell (p := ⟨b, off + k * 4 + 3, none⟩) hbl).trans q3
      rw [Nat.add_zero] at p0
      have HRB : Hid (∀ W, Below w.heap.size w W → Reads W a0 nm ∧ Headed a0 nm.length c0) := fun W hW => by
        obtain ⟨a', cap', he, hh, hr⟩ := (r0'.step hW).b.reads
        simp only [Value.slice.injEq, true_and] at he
        obtain ⟨rfl, rfl⟩ := he
        exact ⟨hr, hh⟩
      have HZ : Hid (isBytes nm) := r0'.b.1
      have hix : (k : Int) < (l.length : Int) := by omega
      have HTK : Hid _ := htk
      have hsw := HB.out.size
      clear r0 r0' hc htk q0 q1 q2 q3
      go_wp2
      obtain ⟨w4, hw4⟩ : ∃ W, W = wr.alloc (.cells #[.slice a0 nm.length c0, .i sh, .i ino, .bool dr] 81) := ⟨_, rfl⟩
      have b4 : Below wr.heap.size wr w4 := by rw [hw4]; exact Below.newH _
      have V4 : VarA w4 wr.heap.size 81 #[.slice a0 nm.length c0, .i sh, .i ino, .bool dr] := by rw [hw4]; exact VarA.new _ _ _
      rw [← hw4]
      clear hw4 p0 p1 p2 p3
      have HS : Hid (∀ W, Below w4.heap.size w4 W → W.cell? ⟨wr.heap.size, 0, none⟩ = some (.slice a0 nm.length c0) ∧ W.cell? ⟨wr.heap.size, 1, none⟩ = some (.i sh) ∧ W.cell? ⟨wr.heap.size, 2, none⟩ = some (.i ino) ∧ W.cell? ⟨wr.heap.size, 3, none⟩ = some (.bool dr)) := fun W hW => by
        have V := V4.step hW
        exact ⟨V.c 0 rfl, V.c 1 rfl, V.c 2 rfl, V.c 3 rfl⟩
      refine wp_region_noPanic ?_
      refine wp_region_held_drew (S := fun w' => w'.cell? ⟨wr.heap.size, 0, none⟩ = some (.slice a0 nm.length c0) ∧ w'.cell? ⟨wr.heap.size, 1, none⟩ = some (.i sh) ∧ w'.cell? ⟨wr.heap.size, 2, none⟩ = some (.i ino) ∧ w'.cell? ⟨wr.heap.size, 3, none⟩ = some (.bool dr)) (by kernel_rfl) (HS.out _ (Below.drew (Below.refl w4.heap.size w4))) (fun hHeld => ?_)
      refine tkh 0 ?_ rfl (by kernel_rfl) rfl (by assumption) ?_ ?_
      rotate_left
      · (intro _ h; (try dsimp only at h); go_simp; try with_reducible rfl)
      try simp only [Act.put, qz]
      refine tkh 1 ?_ rfl (by kernel_rfl) rfl (by assumption) ?_ ?_
      rotate_left
      · (intro _ h; (try dsimp only at h); go_simp; try with_reducible rfl)
      try simp only [Act.put, qz]
      refine tkh 2 ?_ rfl (by kernel_rfl) rfl (by assumption) ?_ ?_
      rotate_left
      · (intro _ h; (try dsimp only at h); go_simp; try with_reducible rfl)
      try simp only [Act.put, qz]
      refine tkh 4 ?_ rfl (by kernel_rfl) rfl (by assumption) ?_ ?_
      rotate_left
      · (intro _ h; (try dsimp only at h); go_simp; try with_reducible rfl)
      try simp only [Act.put, qz]
      refine tkh 5 ?_ rfl (by kernel_rfl) rfl (by assumption) ?_ ?_
      rotate_left
      · (intro _ h; (try dsimp only at h); go_simp; try with_reducible rfl)
      try simp only [Act.put, qz]
      refine doH 3 (by kernel_rfl) rfl fun K hK => ?_
      go_simp
      refine Calls.mono (joined_any none a0 [] nm 0 c0 w4.drew (reads_none _ _) (HRB.out _ (HB.out.trans ((b4.trans (Below.mono (Below.drew (Below.refl w4.heap.size w4)) b4.size)).mono HB.out.size))).1 (by simp) hnm) ?_
      rintro e6 w6 ⟨rfl, ho6, bb6, z6⟩
      rw [List.nil_append] at ho6
      dsimp only
      simp only [List.nil_append]
      have b46 : Below w4.heap.size w4 w6 := Below.trans (Below.drew (Below.refl w4.heap.size w4)) bb6
      have b6 : Below wr.heap.size wr w6 := b4.trans (b46.mono b4.size)
      have s6 := b46.size
      refine hK.out _ _ (HS.out _ b46) (fun hHeld => ?_)
      clear hK K
      try simp only [Act.put, qz]
      refine tkh 6 ?_ rfl (by kernel_rfl) rfl (by assumption) ?_ ?_
      rotate_left
      · (intro _ h; (try dsimp only at h); go_simp; try with_reducible rfl)
      try simp only [Act.put, qz]
      refine doH 7 (by kernel_rfl) rfl fun K hK => ?_
      go_simp
      have b47 : Below w4.heap.size w4 (w6.alloc (.cells #[.slice (some ⟨w4.heap.size, 0, none⟩) nm.length nm.length, .i sh, .i ino, .bool dr] 81)) := Below.alloc b46 b46.size _
      have b7 : Below wr.heap.size wr (w6.alloc (.cells #[.slice (some ⟨w4.heap.size, 0, none⟩) nm.length nm.length, .i sh, .i ino, .bool dr] 81)) := b4.trans (b47.mono b4.size)
      refine hK.out _ _ (HS.out _ b47) (fun hHeld => ?_)
      clear hK K
      try simp only [Act.put, qz]
      refine doH 8 (by kernel_rfl) rfl fun K hK => ?_
      refine step_appEn (w6.alloc (.cells #[.slice (some ⟨w4.heap.size, 0, none⟩) nm.length nm.length, .i sh, .i ino, .bool dr] 81)) rfl (.tmp 12) (.tmp 19) (by rfl) _ (by rfl) (l.take k) ⟨nm, (sh, ino, dr)⟩ (.slice (some ⟨w4.heap.size, 0, none⟩) nm.length nm.length) w.heap.size wr.heap.size w6.heap.size w6.heap.size (by rfl) rfl (0, 0) (heap_alloc_new _ _) (OwV.step HO.out b7) (OwV.step (OwV.mono (fun q hq => ⟨by have := b4.size; have := hq.1; simp at this; omega, hq.2⟩) (OwV.ofOwns HZ.out ho6)) (Below.newH _)) (by simp) (by have := b6.size; omega) (by omega) (by rw [List.length_take]; omega) ?_
      intro g8 n8 c8 w8 ho8 t8
      have s8 := t8.size
      rw [World.size_alloc] at s8
      have HB8 : Below w.heap.size w w8 := Turned.below (HB.out.trans (b7.mono HB.out.size)) t8 (by have := HB.out.size; have := b6.size; simp; omega) (fun i hi => hi.1)
      have V8 := (V4.step b47).turn t8 (fun e => by have e2 : wr.heap.size < wr.heap.size := e.2; omega)
      refine hK.out _ _ ⟨V8.c 0 rfl, V8.c 1 rfl, V8.c 2 rfl, V8.c 3 rfl⟩ (fun hHeld => ?_)
      clear hK K
      try simp only [Act.put, qz]
      refine tkh 9 ?_ rfl (by kernel_rfl) rfl (by assumption) ?_ ?_
      rotate_left
      · (intro _ h; (try dsimp only at h); go_simp; try with_reducible rfl)
      try simp only [Act.put, qz]
      refine wpAnyH_done (by kernel_rfl) (NoPanic.normal ?_) _
      clear hHeld
      rw [← HTK.out] at ho8
      have HO8 : Hid (OwV w8 (fun b => w.heap.size ≤ b ∧ b < w8.heap.size) (.slice g8 n8 c8) (ensDt (l.take (k + 1)))) := ho8
      have HB9 : Hid (Below w.heap.size w w8) := HB8
      clear ho8 HB8 t8 b4 b6 b7 ho6 bb6 V4
      go_wp2
      first
      | exact ⟨⟨k + 1, g8, n8, c8, by omega, by go_num, rfl, HO8, HB9⟩, by simp [intOf]; omega⟩
      | (go_roundw
         case rel => exact ⟨k + 1, g8, n8, c8, by omega, by go_num, rfl, HO8, HB9⟩
         case measure => simp [intOf]; omega)
    · have he : k = l.length := by omega
      subst he
      rw [List.take_length] at HO
      go_wp2
      go_ret
      exact ⟨_, _, _, rfl, HO.out, HB.out⟩
end
section
theorem OwV.snocNd {w w' : World} {lo hi hi2 g cap : Nat} {v u : Value} {l : List Nd} {e : Nd} (hown : OwV w (fun b => lo ≤ b ∧ b < hi) v (ndsDt l)) (hu : OwV w (fun b => hi ≤ b ∧ b < hi2) u (ensDt e.es)) (h2 : hi2 ≤ w.heap.size) (hh2 : hi ≤ hi2) (hlh : lo ≤ hi)
    (C : List Value) (hC : w.ownsRow 0 75 9 v l.length C) (V : Nat → Nat → Value) (Q : Nat → Nat → Nat → Prop) (hS : ∀ b, v.ownBlock = some b → lo ≤ b ∧ b < hi) (hV : ∀ i j, i < l.length → j < 9 → C[i * 9 + j]? = some (V i j)) (hQ : ∀ i j, i < l.length → j < 9 → OwV w (Q i j) (V i j) (ndCell (l[i]?.getD nd0) j))
    (hq1 : ∀ i j b, i < l.length → j < 9 → Q i j b → (lo ≤ b ∧ b < hi) ∧ v.ownBlock ≠ some b) (hq2 : ∀ i j i' j' b, i < l.length → j < 9 → i' < l.length → j' < 9 → Q i j b → Q i' j' b → i = i' ∧ j = j')
    (ho : w'.ownsRow 0 75 9 (.slice (some ⟨g, 0, none⟩) (l.length + 1) cap) (l.length + 1) (C ++ [.i e.h.sh, .i e.h.ino, .bool e.h.dir, .i e.par.sh, .i e.par.ino, .bool e.par.dir, .i e.links, .i e.val, u])) (hg : w.grownBy w' v.ownBlock) (hgg : v.ownBlock = some g ∨ g = w.heap.size) (hgl : g < w'.heap.size) :
    OwV w' (fun b => lo ≤ b ∧ b < w'.heap.size) (.slice (some ⟨g, 0, none⟩) (l.length + 1) cap) (ndsDt (l ++ [e])) := by
  have hsz := hg.size
  have hCl : C.length = l.length * 9 := hC.1
  have hkeep : ∀ (R : Nat → Prop), (∀ b, R b → v.ownBlock ≠ some b) → Keeps R w w' := fun R hR => ⟨hsz, fun b hb hlt => hg.block b hlt (fun h => hR b hb h.symm)⟩
  have hln : (l ++ [e]).length = l.length + 1 := by simp
  unfold ndsDt
  rw [hln]
  refine OwV.mkRows ⟨fun i j => if i < l.length then V i j else ndVal e u j, _, fun i j => if i < l.length then Q i j else if j = 8 then (fun b => hi ≤ b ∧ b < hi2) else (fun _ => False), ho, ?_, ?_, ?_, ?_, ?_⟩
  · intro b hb
    obtain rfl : g = b := by simpa [Value.ownBlock] using hb
    rcases hgg with h | h
    · exact ⟨(hS _ h).1, hgl⟩
    · exact ⟨by omega, hgl⟩
  · intro i j hi' hj
    by_cases hlt : i < l.length
    · simp only [hlt, if_true]
      rw [List.getElem?_append_left (by rw [hCl]; exact place_lt hlt hj)]
      exact hV i j hlt hj
    · obtain rfl : i = l.length := by omega
      simp only [Nat.lt_irrefl, if_false]
      rw [List.getElem?_append_right (by omega), hCl, show l.length * 9 + j - l.length * 9 = j by omega]
      match j, hj with
      | 0, _ => rfl
      | 1, _ => rfl
      | 2, _ => rfl
      | 3, _ => rfl
      | 4, _ => rfl
      | 5, _ => rfl
      | 6, _ => rfl
      | 7, _ => rfl
      | 8, _ => rfl
  · intro i j hi' hj
    by_cases hlt : i < l.length
    · simp only [hlt, if_true]
      rw [show (l ++ [e])[i]?.getD nd0 = l[i]?.getD nd0 by rw [List.getElem?_append_left hlt]]
      exact OwV.keep (hkeep _ (fun b hb => (hq1 i j b hlt hj hb).2)) (hQ i j hlt hj)
    · obtain rfl : i = l.length := by omega
      simp only [Nat.lt_irrefl, if_false]
      rw [show (l ++ [e])[l.length]?.getD nd0 = e by simp]
      match j, hj with
      | 0, _ => rfl
      | 1, _ => rfl
      | 2, _ => rfl
      | 3, _ => rfl
      | 4, _ => rfl
      | 5, _ => rfl
      | 6, _ => rfl
      | 7, _ => rfl
      | 8, _ => exact OwV.keep (hkeep (fun b => hi ≤ b ∧ b < hi2) (fun b hb h => by have := hS b h; omega)) hu
  · intro i j b hi' hj hb
    by_cases hlt : i < l.length
    · simp only [hlt, if_true] at hb
      have h1 := hq1 i j b hlt hj hb
      refine ⟨⟨h1.1.1, by omega⟩, ?_⟩
      intro h
      obtain rfl : g = b := by simpa [Value.ownBlock] using h
      rcases hgg with h3 | h3
      · exact h1.2 h3
      · omega
    · simp only [hlt, if_false] at hb
      by_cases hj0 : j = 8
      · simp only [hj0, if_true] at hb
        refine ⟨⟨by omega, by omega⟩, ?_⟩
        intro h
        obtain rfl : g = b := by simpa [Value.ownBlock] using h
        rcases hgg with h3 | h3
        · have := hS _ h3; omega
        · omega
      · simp only [hj0, if_false] at hb
  · intro i j i' j' b hi' hj hi2' hj' hb hb'
    by_cases hlt : i < l.length <;> by_cases hlt' : i' < l.length
    · simp only [hlt, hlt', if_true] at hb hb'
      exact hq2 i j i' j' b hlt hj hlt' hj' hb hb'
    · simp only [hlt, hlt', if_true, if_false] at hb hb'
      have h1 := hq1 i j b hlt hj hb
      by_cases hj0 : j' = 8
      · simp only [hj0, if_true] at hb'; omega
      · simp only [hj0, if_false] at hb'
    · simp only [hlt, hlt', if_true, if_false] at hb hb'
      have h1 := hq1 i' j' b hlt' hj' hb'
      by_cases hj0 : j = 8
      · simp only [hj0, if_true] at hb; omega
      · simp only [hj0, if_false] at hb
    · simp only [hlt, hlt', if_false] at hb hb'
      by_cases hj0 : j = 8 <;> by_cases hj0' : j' = 8
      · exact ⟨by omega, by omega⟩
      · simp only [hj0', if_false] at hb'
      · simp only [hj0, if_false] at hb
      · simp only [hj0, if_false] at hb
theorem wpList_appNdO {ops : Array Oper} {rest : List Oper} {o : Oper} {a : Act} {Q : Exit → Act → World → Prop} (w : World) (hgd : o.guard = none) (s x : Operand)
    (ho : o.op = .call { callee := .builtin .append, args := #[s, x], argTypes := #[23, 23] })
    (v : Value) (hs : a.eval s = v) (l : List Nd) (e : Nd) (u : Value) (lo hi hi2 q : Nat) (hx : a.eval x = .slice (some ⟨q, 0, none⟩) 1 1) (hone : u.oneCell' = true) (fr : Nat × Nat) (hq : w.heap[q]? = some (.cells #[.i e.h.sh, .i e.h.ino, .bool e.h.dir, .i e.par.sh, .i e.par.ino, .bool e.par.dir, .i e.links, .i e.val, u] 75 fr))
    (hown : OwV w (fun b => lo ≤ b ∧ b < hi) v (ndsDt l)) (hu : OwV w (fun b => hi ≤ b ∧ b < hi2) u (ensDt e.es)) (h2 : hi2 ≤ w.heap.size) (hh2 : hi ≤ hi2) (hlh : lo ≤ hi) (hl : l.length ≤ 4000)
    (h : ∀ g n cap w', OwV w' (fun b => lo ≤ b ∧ b < w'.heap.size) (.slice g n cap) (ndsDt (l ++ [e])) → Turned (fun b => lo ≤ b ∧ b < hi) w w' → wpList Tryz.prog ops Q rest (a.put o.dst (.slice g n cap)) w') : wpList Tryz.prog ops Q (o :: rest) a w := by
  obtain ⟨i0, hi0, hz0, hz1, hz2⟩ := info_parts Tryz.infoNd
  have hown' := hown
  unfold ndsDt at hown'
  obtain ⟨V, C, Qs, h1, hS, h3, h4, h5, h6⟩ := OwV.inv hown'
  refine wpList_append_lies w hgd s x 23 ho 0 75 i0 (.agg #[.i 0, .i 0, .bool false, .i 0, .i 0, .bool false, .i 0, .i 0, .slice none 0 0]) 9 88 Tryz.underlying23 hi0 hz0 hz1 hz2 rfl (by decide) v l.length C hs h1 ⟨q, 0, none⟩ 1 1 [.i e.h.sh, .i e.h.ino, .bool e.h.dir, .i e.par.sh, .i e.par.ino, .bool e.par.dir, .i e.links, .i e.val, u] hx rfl (World.news_of_block hq) (fun y hy => ?_) (by decide) (by unfold maxLen; omega) (by omega) (Nat.zero_le _) w.heap.size rfl ?_
  · simp only [List.mem_cons, List.not_mem_nil, or_false] at hy
    rcases hy with rfl | rfl | rfl | rfl | rfl | rfl | rfl | rfl | rfl
    · rfl
    · rfl
    · rfl
    · rfl
    · rfl
    · rfl
    · rfl
    · rfl
    · exact hone
  intro g cap w' ho' hg hgg hgl
  exact h _ _ _ w' (OwV.snocNd hown hu h2 hh2 hlh C h1 V Qs hS h3 h4 h5 h6 ho' hg hgg hgl) (Turned.ofGrown hg (fun k hk => hS k hk))
set_option maxHeartbeats 4000000 in
theorem implCopyNd_any (v : Value) (l : List Nd) (S : Nat → Prop) (w : World) (r : RdV w S v (ndsDt l)) (hl : szNds l ≤ 2097152) (hn : l.length ≤ 4000) (hes : ∀ i : Nat, (l[i]?.getD nd0).es.length ≤ 4000) :
    Calls Tryz.prog 36 #[v] w fun e w' => ∃ a n c, e = .returned (.slice a n c) ∧ OwV w' (fun b => w.heap.size ≤ b ∧ b < w'.heap.size) (.slice a n c) (ndsDt l) ∧ Below w.heap.size w w' := by
  obtain ⟨a, cap, rfl, _⟩ := RdV.sliced r
  have HR : Hid (∀ W, Below w.heap.size w W → RdV W S (.slice a l.length cap) (ndsDt l)) := fun W hW => r.step hW
  clear r
  go_enter Tryz.func36, Tryz.ntmps36
  go_wp2
  go_loopw [3, 8] (fun o i wr => ∃ (k : Nat) (ga : Option Addr) (gn gc : Nat), k ≤ l.length ∧ i = .i k ∧ o = .slice ga gn gc ∧ Hid (OwV wr (fun b => w.heap.size ≤ b ∧ b < wr.heap.size) (.slice ga gn gc) (ndsDt (l.take k))) ∧ Hid (Below w.heap.size w wr)) (fun _ i _ => l.length - (intOf i).toNat)
  case atStart => exact ⟨0, none, 0, 0, Nat.zero_le _, rfl, rfl, OwV.nilR _ _ _ _ _, Below.refl _ _⟩
  case round =>
    obtain ⟨k, ga, gn, gc, hk, rfl, rfl, HO, HB⟩ := hrel
    by_cases hlt : k < l.length
    · obtain ⟨b, off, rfl, hbl, hSb, hc⟩ := (HR.out w (Below.refl _ _)).at hlt
      have htk : l.take (k + 1) = l.take k ++ [l[k]?.getD nd0] := by rw [List.take_succ_eq_append_getElem hlt]; simp [hlt]
      have hel := hes k
      have hzn : szEns (l[k]?.getD nd0).es ≤ 2097152 := Nat.le_trans (szNds_at l k) hl
      obtain ⟨x0, cq0, r0⟩ := hc 0 (by omega)
      obtain ⟨x1, cq1, r1⟩ := hc 1 (by omega)
      obtain ⟨x2, cq2, r2⟩ := hc 2 (by omega)
      obtain ⟨x3, cq3, r3⟩ := hc 3 (by omega)
      obtain ⟨x4, cq4, r4⟩ := hc 4 (by omega)
      obtain ⟨x5, cq5, r5⟩ := hc 5 (by omega)
      obtain ⟨x6, cq6, r6⟩ := hc 6 (by omega)
      obtain ⟨x7, cq7, r7⟩ := hc 7 (by omega)
      obtain ⟨x8, cq8, r8⟩ := hc 8 (by omega)
      generalize l[k]?.getD nd0 = nd at r0 r1 r2 r3 r4 r5 r6 r7 r8 htk hel hzn
      obtain ⟨⟨p, q, d⟩, ⟨p2, q2, d2⟩, lk, vl, es⟩ := nd
      dsimp only at hel hzn
      obtain rfl : x0 = .i p := r0
      obtain rfl : x1 = .i q := r1
      obtain rfl : x2 = .bool d := r2
      obtain rfl : x3 = .i p2 := r3
      obtain rfl : x4 = .i q2 := r4
      obtain rfl : x5 = .bool d2 := r5
      obtain rfl : x6 = .i lk := r6
      obtain rfl : x7 = .i vl := r7
      have r8' : RdV w S x8 (ensDt es) := r8
      obtain ⟨xa, xc, rfl, _⟩ := RdV.sliced r8'
      have HCE : Hid (∀ W, Below w.heap.size w W → _) := fun W hW => implCopyEn_any _ es S W (r8'.step hW) hzn hel
      have p0_ := (HB.out.cell (p := ⟨b, off + k * 9 + 0, none⟩) hbl).trans cq0
      have p1_ := (HB.out.cell (p := ⟨b, off + k * 9 + 1, none⟩) hbl).trans cq1
      have p2_ := (HB.out.cell (p := ⟨b, off + k * 9 + 2, none⟩) hbl).trans cq2
      have p3_ := (HB.out.cell (p := ⟨b, off + k * 9 + 3, none⟩) hbl).trans cq3
      have p4_ := (HB.out.cell (p := ⟨b, off + k * 9 + 4, none⟩) hbl).trans cq4
      have p5_ := (HB.out.cell (p := ⟨b, off + k * 9 + 5, none⟩) hbl).trans cq5
      have p6_ := (HB.out.cell (p := ⟨b, off + k * 9 + 6, none⟩) hbl).trans cq6
      have p7_ := (HB.out.cell (p := ⟨b, off + k * 9 + 7, none⟩) hbl).trans cq7
      have p8_ := (HB.out.cell (p := ⟨b, off + k * 9 + 8, none⟩) hbl).trans cq8
      rw [Nat.add_zero] at p0_
      have HTK : Hid _ := htk
      have hix : (k : Int) < (l.length : Int) := by omega
      have hsw := HB.out.size
      clear r8 r8' hc htk
      generalize es.length = xn at *
      go_wp2_with fail
      obtain ⟨w4, hw4⟩ : ∃ W, W = wr.alloc (.cells #[.i p, .i q, .bool d, .i p2, .i q2, .bool d2, .i lk, .i vl, .slice xa xn xc] 75) := ⟨_, rfl⟩
      have b4 : Below wr.heap.size wr w4 := by rw [hw4]; exact Below.newH _
      have V4 : VarA w4 wr.heap.size 75 #[.i p, .i q, .bool d, .i p2, .i q2, .bool d2, .i lk, .i vl, .slice xa xn xc] := by rw [hw4]; exact VarA.new _ _ _
      rw [← hw4]
      have z4 : w4.heap.size = wr.heap.size + 1 := by rw [hw4]; simp
      clear hw4
      refine Calls.mono (HCE.out _ (HB.out.trans (b4.mono HB.out.size))) ?_
      rintro e5 w5 ⟨ea, en, ec, rfl, oe, b5⟩
      have V5 := V4.step b5
      have z5 := b5.size
      have HV5 : Hid (VarA w5 wr.heap.size 75 #[.i p, .i q, .bool d, .i p2, .i q2, .bool d2, .i lk, .i vl, .slice xa xn xc]) := V5
      have HE5 : Hid (OwV w5 (fun b => w4.heap.size ≤ b ∧ b < w5.heap.size) (.slice ea en ec) (ensDt es)) := oe
      have HB5 : Hid (Below wr.heap.size wr w5) := b4.trans (b5.mono b4.size)
      clear V4 V5 oe b5 b4 p0_ p1_ p2_ p3_ p4_ p5_ p6_ p7_ p8_ HCE
      go_wp2_with (first | ((with_reducible refine gS 32 ?_); refine wpList_storeG HV5.out rfl rfl rfl (by kernel_rfl) rfl (of_decide_eq_true rfl) rfl ?_; intro w6 v6 t6; have HV6 : Hid (VarA w6 wr.heap.size 75 #[.i p, .i q, .bool d, .i p2, .i q2, .bool d2, .i lk, .i vl, .slice ea en ec]) := v6; have HU6 : Hid (OwV w6 (fun b => wr.heap.size ≤ b ∧ b < w6.heap.size) (.slice ea en ec) (ensDt es)) := OwV.mono (fun x hx => ⟨by omega, Nat.lt_of_lt_of_le hx.2 t6.size⟩) (OwV.keep (t6.keeps (fun x hx e => by omega)) HE5.out); have HO6 : Hid (OwV w6 (fun b => w.heap.size ≤ b ∧ b < wr.heap.size) (.slice ga gn gc) (ndsDt (l.take k))) := OwV.keep (t6.keeps (fun x hx e => by omega)) (OwV.step HO.out HB5.out); obtain ⟨o0, o1, o2, o3, o4, o5, o6, o7, o8⟩ := v6.l9) | (at_builtin; go_must (refine wpList_appNdO (w6.alloc (.cells #[.i p, .i q, .bool d, .i p2, .i q2, .bool d2, .i lk, .i vl, .slice ea en ec] 75)) rfl (.tmp 16) (.tmp 18) rfl _ rfl (l.take k) ⟨(p, q, d), (p2, q2, d2), lk, vl, es⟩ (.slice ea en ec) w.heap.size wr.heap.size w6.heap.size w6.heap.size rfl rfl (0, 0) (heap_alloc_new _ _) (OwV.step HO6.out (Below.newH _)) (OwV.step HU6.out (Below.newH _)) (by simp) (by have := t6.size; omega) hsw (by rw [List.length_take]; omega) ?_; intro g8 n8 c8 w8 ho8 t8)))
      rw [← HTK.out] at ho8
      have HO8 : Hid (OwV w8 (fun b => w.heap.size ≤ b ∧ b < w8.heap.size) (.slice g8 n8 c8) (ndsDt (l.take (k + 1)))) := ho8
      have HB9 : Hid (Below w.heap.size w w8) := by
        have z6 := t6.size
        have z8 := t8.size
        have hb6 : Below w.heap.size w w6 := Turned.below (HB.out.trans (HB5.out.mono HB.out.size)) t6 (by have := HB5.out.size; omega) (fun i hi => by omega)
        exact Turned.below (hb6.alloc hb6.size _) t8 (by have := hb6.size; simp; omega) (fun i hi => hi.1)
      clear ho8 t8 t6 HO HO6 HU6 HE5 HB5 HV5 HV6 o0 o1 o2 o3 o4 o5 o6 o7 o8
      go_wp2
      first
      | exact ⟨⟨k + 1, g8, n8, c8, by omega, by go_num, rfl, HO8, HB9⟩, by simp [intOf]; omega⟩
      | (go_roundw
         case rel => exact ⟨k + 1, g8, n8, c8, by omega, by go_num, rfl, HO8, HB9⟩
         case measure => simp [intOf]; omega)
    · have he : k = l.length := by omega
      subst he
      rw [List.take_length] at HO
      go_wp2
      go_ret
      exact ⟨_, _, _, rfl, HO.out, HB.out⟩
end
section
def num (n : Int) : Bool := decide (0 ≤ n) && decide (n ≤ 2147483647)
def TOk (t : TxD) : Bool := (decide (0 ≤ t.1) && decide (t.1 < 4)) && (num t.2.1 && num t.2.2)
end
section
def POk (p : PtD) : Bool :=
 if p.kind = 0 then HOk p.h && (decide (p.asn.length = 0) && decide (p.to = hd0))
 else if p.kind = 1 then (HOk p.h && !p.h.dir) && (decide (p.asn.length = 0) && decide (p.to = hd0))
 else if p.kind = 2 then ((decide (0 ≤ p.h.sh) && decide (p.h.sh < 4)) && decide (p.h.ino = 0)) && (decide (p.asn.length = 0) && (HOk p.to && p.to.dir))
 else if p.kind = 3 then (HOk p.h && p.h.dir) && (isNm p.asn && HOk p.to)
 else if p.kind = 4 then (HOk p.h && p.h.dir) && (decide (p.asn.length = 0) && (HOk p.to && p.to.dir))
 else if p.kind = 5 then decide (p.h = hd0) && (decide (p.asn.length = 0) && decide (p.to = hd0))
 else false
end
section
def cmpI (a b : Int) : Int := if a < b then -1 else if b < a then 1 else 0
theorem isNaN_any (a : Int) (w : World) : Calls Tryz.prog 146 #[.i a] w fun e w' => e = .returned (.bool false) ∧ w' = w := by
 go_enter Tryz.func146, Tryz.ntmps146
 go_wp2
 go_ret
 exact ⟨by simp, rfl⟩
theorem compare_any (a b : Int) (w : World) : Calls Tryz.prog 123 #[.i a, .i b] w fun e w' => e = .returned (.i (cmpI a b)) ∧ w' = w := by
 have H1 : Hid (∀ W, _) := fun W => isNaN_any a W
 have H2 : Hid (∀ W, _) := fun W => isNaN_any b W
 go_enter Tryz.func123, Tryz.ntmps123
 go_wp2_with fail
 refine Calls.mono (H1.out _) ?_
 rintro e w2 ⟨rfl, rfl⟩
 go_wp2_with fail
 refine Calls.mono (H2.out _) ?_
 rintro e w2 ⟨rfl, rfl⟩
 go_wp2
 all_goals (go_ret; exact ⟨by unfold cmpI; first | (rw [if_pos (by omega)]; rfl) | (rw [if_neg (by omega), if_pos (by omega)]; rfl) | (rw [if_neg (by omega), if_neg (by omega)]; rfl), rfl⟩)
def orI (x y : Int) : Int := if x = 0 then y else x
theorem or_any (B : Nat) (x y : Int) (w : World) (h0 : w.cell? ⟨B, 0, none⟩ = some (.i x)) (h1 : w.cell? ⟨B, 1, none⟩ = some (.i y)) :
  Calls Tryz.prog 122 #[.slice (some ⟨B, 0, none⟩) 2 2] w fun e w' => e = .returned (.i (orI x y)) ∧ w' = w := by
 unfold orI
 by_cases hx : x = 0
 ·subst hx
  by_cases hy : y = 0
  ·subst hy
   go_enter Tryz.func122, Tryz.ntmps122
   go_wp2
   refine wp_loop_rounds 3 ?_
   rw [rounds_succ]
   go_wp2
   rw [rounds_succ]
   go_wp2
   rw [rounds_succ]
   go_wp2
   go_ret
   exact ⟨rfl, rfl⟩
  ·have hd : (y != 0) = true := by simpa using hy
   go_enter Tryz.func122, Tryz.ntmps122
   go_wp2
   refine wp_loop_rounds 2 ?_
   rw [rounds_succ]
   go_wp2
   rw [rounds_succ]
   go_wp2
   go_ret
   exact ⟨rfl, rfl⟩
 ·have hd : (x != 0) = true := by simpa using hx
  rw [if_neg hx]
  go_enter Tryz.func122, Tryz.ntmps122
  go_wp2
  refine wp_loop_rounds 1 ?_
  rw [rounds_succ]
  go_wp2
  go_ret
  exact ⟨rfl, rfl⟩
def byP (a b : Hd) : Int := if cmpI a.sh b.sh = 0 then cmpI a.ino b.ino else cmpI a.sh b.sh
theorem byP_less (a b : Hd) : decide (byP a b ≥ 0) = !lessH a b := by
 obtain ⟨s, i, d⟩ := a
 obtain ⟨s2, i2, d2⟩ := b
 simp only [byP, cmpI, lessH, Hd.sh, Hd.ino]
 by_cases h1 : s < s2
 ·simp [h1]
 ·by_cases h2 : s2 < s
  ·have h3 : s ≠ s2 := by omega
   simp [h1, h2, h3]
  ·have h3 : s = s2 := by omega
   subst h3
   by_cases h4 : i < i2
   ·simp [h4]
   ·by_cases h5 : i2 < i
    ·simp [h4, h5]
    ·simp [h4, h5]

set_option maxHeartbeats 400000 in
theorem byPlace_any (a b : Hd) (w : World) : Calls Tryz.prog 96 #[a.v, b.v] w fun e w' => e = .returned (.i (byP a b)) ∧ Below w.heap.size w w' := by
 obtain ⟨s, i, d⟩ := a
 obtain ⟨s2, i2, d2⟩ := b
 have HB : Hid (byP (s, i, d) (s2, i2, d2) = orI (cmpI s s2) (cmpI i i2)) := rfl
 rw [HB.out]
 clear HB
 go_enter Tryz.func96, Tryz.ntmps96
 go_wp2
 go_region_held3 (fun w' => w'.cell? ⟨w.heap.size, 0, none⟩ = some (.i s) ∧ w'.cell? ⟨w.heap.size, 1, none⟩ = some (.i i) ∧ w'.cell? ⟨w.heap.size + 1, 0, none⟩ = some (.i s2) ∧ w'.cell? ⟨w.heap.size + 1, 1, none⟩ = some (.i i2)) (first | go_keep) (first
  | (go_at_call 123; refine Calls.mono (compare_any _ _ _) ?_; rintro e w' ⟨rfl, rfl⟩)
  | (go_at_call 122; refine Calls.mono (or_any _ (cmpI s s2) (cmpI i i2) _ (by simp [go_sem]) (by simp [go_sem])) ?_; rintro e w' ⟨rfl, rfl⟩))
 all_goals go_wp2
 all_goals go_ret
 all_goals exact ⟨rfl, ((Below.newH2 (w := w) _ _).alloc (by simp; omega) _).drew⟩

def ascAt (l : List Nd) (i : Nat) : Bool := decide (i = 0) || lessH (l[i - 1]?.getD nd0).h (l[i]?.getD nd0).h
theorem range_all_nextT (f : Nat → Bool) (k : Nat) (h : (List.range k).all f = true) (hk : f k = true) : (List.range (k + 1)).all f = true := by rw [List.range_succ, List.all_append, h]; simp [hk]
theorem range_all_falseT (f : Nat → Bool) (n k : Nat) (hk : k < n) (h : f k = false) : (List.range n).all f = false := by
 rw [List.all_eq_false]
 exact ⟨k, by simpa using hk, by simp [h]⟩
def ascL (l : List Nd) : Bool := (List.range l.length).all (ascAt l)

set_option maxRecDepth 100000 in
set_option maxHeartbeats 2000000 in
theorem ascending_any (x : Value) (l : List Nd) (S : Nat → Prop) (w : World) (r : RdV w S x (ndsDt l)) (hl : l.length ≤ 2097152) :
  Calls Tryz.prog 48 #[x] w fun e w' => e = .returned (.bool (ascL l)) ∧ Below w.heap.size w w' := by
 obtain ⟨a, cap, rfl, _⟩ := RdV.sliced r
 have HR : Hid (∀ W, Below w.heap.size w W → RdV W S (.slice a l.length cap) (.rows 75 9 l.length (fun i j => ndCell (l[i]?.getD nd0) j))) := RdV.old r
 obtain ⟨n, hn⟩ : ∃ n, l.length = n := ⟨_, rfl⟩
 have HN : Hid _ := hn
 have HAS : Hid (ascL l = (List.range n).all (ascAt l)) := by show _ = _; unfold ascL; rw [hn]
 rw [hn] at hl HR ⊢
 rw [HAS.out]
 clear r hn HAS
 go_enter Tryz.func48, Tryz.ntmps48
 go_wp2
 go_loopw [3] (fun i wr => ∃ k : Nat, 1 ≤ k ∧ i = .i k ∧ k ≤ n + 1 ∧ Below w.heap.size w wr ∧ Hid ((List.range k).all (ascAt l) = true)) (fun i _ => n - (intOf i).toNat)
 case atStart => exact ⟨1, Nat.le_refl _, rfl, by omega, Below.refl _ _, by show _ = _; simp [ascAt]⟩
 case round =>
  obtain ⟨k, hk1, rfl, hk, hbel, HA⟩ := hrel
  by_cases hlt : k < n
  ·obtain ⟨j, rfl⟩ : ∃ j, k = j + 1 := ⟨k - 1, by omega⟩
   obtain ⟨b, off, rfl, hbl, _, hx⟩ := RdV.at (HR.out wr hbel) hlt
   obtain ⟨b9, off9, hbb, hbl9, _, hz⟩ := RdV.at (HR.out wr hbel) (show j < n by omega)
   simp only [Option.some.injEq, Addr.mk.injEq, and_true] at hbb
   obtain ⟨rfl, rfl⟩ := hbb
   obtain ⟨x0, g0, s0⟩ := hx 0 (by omega)
   obtain ⟨x1, g1, s1⟩ := hx 1 (by omega)
   obtain ⟨x2, g2, s2⟩ := hx 2 (by omega)
   obtain ⟨z0, u0, r0⟩ := hz 0 (by omega)
   obtain ⟨z1, u1, r1⟩ := hz 1 (by omega)
   obtain ⟨z2, u2, r2⟩ := hz 2 (by omega)
   have HAT : Hid (ascAt l (j + 1) = lessH (l[j]?.getD nd0).h (l[j + 1]?.getD nd0).h) := by show _ = _; simp [ascAt]
   generalize l[j]?.getD nd0 = ef at r0 r1 r2 HAT
   generalize l[j + 1]?.getD nd0 = eg at s0 s1 s2 HAT
   obtain ⟨⟨pp, qq, dp⟩, parf, lkf, vlf, esf⟩ := ef
   obtain ⟨⟨p, q, d⟩, parg, lkg, vlg, esg⟩ := eg
   obtain rfl : z0 = .i pp := r0
   obtain rfl : z1 = .i qq := r1
   obtain rfl : z2 = .bool dp := r2
   obtain rfl : x0 = .i p := s0
   obtain rfl : x1 = .i q := s1
   obtain rfl : x2 = .bool d := s2
   simp only [Nat.add_zero] at u0 g0
   dsimp only at HAT
   have HBP : Hid (∀ W, _) := fun W => byPlace_any (pp, qq, dp) (p, q, d) W
   have hbp := byP_less (pp, qq, dp) (p, q, d)
   generalize byP (pp, qq, dp) (p, q, d) = bp at HBP hbp
   haveI : Nonempty (Cls wr) := Cls.ne wr
   have k0 := Cls.cell hbl g0
   have k1 := Cls.cell hbl g1
   have k2 := Cls.cell hbl g2
   have j0 := Cls.cell hbl u0
   have j1 := Cls.cell hbl u1
   have j2 := Cls.cell hbl u2
   clear hx hz g0 g1 g2 u0 u1 u2 hbl9
   have i1 : (0 : Int) ≤ (j : Int) := by omega
   have i2 : (j : Int) < (n : Int) := by omega
   cases hbl : lessH (pp, qq, dp) (p, q, d) with
   | false =>
    rw [hbl] at HAT hbp
    have HF : Hid ((List.range n).all (ascAt l) = false) := range_all_falseT _ _ (j + 1) hlt HAT.out
    have hge : (0 : Int) ≤ bp := by simpa using hbp
    have hge2 : decide ((0 : Int) ≤ bp) = true := by simpa using hge
    clear hbp HAT HA
    go_wp2
    refine wp_region_cls (by kernel_rfl) (by kernel_rfl) ?_
    repeat (go_big_quiet_step (first | (go_at_call 96; exact Calls.cls (HBP.out _))))
    refine wpQuiet_nil ?_
    rintro w' ⟨⟨w', hb'⟩, rfl⟩
    go_wp2
    go_ret
    exact ⟨by rw [HF.out]; rfl, hbel.trans (hb'.mono hbel.size)⟩
   | true =>
    rw [hbl] at HAT hbp
    have HF : Hid ((List.range (j + 1 + 1)).all (ascAt l) = true) := range_all_nextT _ _ HA.out HAT.out
    have hge : bp < 0 := by simpa using hbp
    have hge2 : decide ((0 : Int) ≤ bp) = false := by simpa using hge
    clear hbp HAT HA
    go_wp2
    refine wp_region_cls (by kernel_rfl) (by kernel_rfl) ?_
    repeat (go_big_quiet_step (first | (go_at_call 96; exact Calls.cls (HBP.out _))))
    refine wpQuiet_nil ?_
    rintro w' ⟨⟨w', hb'⟩, rfl⟩
    go_wp2
    go_roundw
    case rel => exact ⟨j + 1 + 1, by omega, by go_num, by omega, hbel.trans (hb'.mono hbel.size), HF.out⟩
    case measure => simp [intOf]; omega
  ·have HF : Hid ((List.range n).all (ascAt l) = true) := by
    have := HA.out
    rw [List.all_eq_true] at this
    show _ = _
    rw [List.all_eq_true]
    exact fun i hi => this i (by simp at hi ⊢; omega)
   go_wp2
   go_ret
   exact ⟨by rw [HF.out]; rfl, hbel⟩
end
section
open Go.RowKit Go.Deep Go.ChangeShapes Go.WideShapes
section
variable {H : Type} {enc : TypeId × Value → H} {w : World} {held : Bool}

set_option maxRecDepth 100000 in
theorem open_entT (fuel : Nat) (cs : List Value) (x : DataW H × List MemPlace) (h : DataW.trod enc Tryz.prog w 0 (fun _ => true) held fuel 167 cs = some x) : ∃ e : En, ∀ j, j < 4 → RdV w (Old w) (cs[j]?.getD undef) (enCell e j) := by
 obtain ⟨hl, n, ⟨y0, h0⟩, ⟨y1, h1⟩⟩ := trod_fields2 Tryz.underlying167 h
 have k1 : Tryz.prog.cellsOf 45 = 3 := by kernel_rfl
 have k2 : Tryz.prog.cellsOf 22 = 1 := by kernel_rfl
 have k3 : Tryz.prog.cellsOf 167 = 4 := by kernel_rfl
 rw [k3] at hl
 match cs, hl with
 | [c0, c1, c2, c3], _ =>
  simp only [k1, k2, List.drop_zero, List.take_succ_cons, List.take_zero, List.drop_succ_cons] at h0 h1
  obtain ⟨zs, r0⟩ := open_bytesT h0
  obtain ⟨d, e1⟩ := open_handleT h1
  simp only [List.cons.injEq, and_true] at e1
  obtain ⟨rfl, rfl, rfl⟩ := e1
  refine ⟨⟨zs, d⟩, fun j hj => ?_⟩
  match j, hj with
  | 0, _ => exact r0
  | 1, _ => exact rfl
  | 2, _ => exact rfl
  | 3, _ => exact rfl
theorem open_ensT {fuel : Nat} {v : Value} {x : DataW H × List MemPlace} (h : DataW.trod enc Tryz.prog w 0 (fun _ => true) held fuel 120 [v] = some x) : ∃ l : List En, RdV w (Old w) v (ensDt l) :=
 open_rowsT (t := 81) (k := 4) en0 Tryz.underlying120 (by kernel_rfl) (by omega) enCell open_entT h
set_option maxRecDepth 100000 in
theorem open_ndT (fuel : Nat) (cs : List Value) (x : DataW H × List MemPlace) (h : DataW.trod enc Tryz.prog w 0 (fun _ => true) held fuel 122 cs = some x) : ∃ e : Nd, ∀ j, j < 9 → RdV w (Old w) (cs[j]?.getD undef) (ndCell e j) := by
 obtain ⟨hl, n, ⟨y0, h0⟩, ⟨y1, h1⟩, ⟨y2, h2⟩, ⟨y3, h3⟩, ⟨y4, h4⟩⟩ := trod_fields5 Tryz.underlying122 h
 have k0 : Tryz.prog.cellsOf 3 = 1 := by kernel_rfl
 have k1 : Tryz.prog.cellsOf 45 = 3 := by kernel_rfl
 have k2 : Tryz.prog.cellsOf 120 = 1 := by kernel_rfl
 have k3 : Tryz.prog.cellsOf 122 = 9 := by kernel_rfl
 rw [k3] at hl
 match cs, hl with
 | [c0, c1, c2, c3, c4, c5, c6, c7, c8], _ =>
  simp only [k0, k1, k2, List.drop_zero, List.take_succ_cons, List.take_zero, List.drop_succ_cons] at h0 h1 h2 h3 h4
  obtain ⟨d, e0⟩ := open_handleT h0
  obtain ⟨t, e1⟩ := open_handleT h1
  obtain ⟨p, e2, _, _⟩ := DataW.trod_int Tryz.underlying3 h2
  obtain ⟨q, e3, _, _⟩ := DataW.trod_int Tryz.underlying3 h3
  obtain ⟨es, r4⟩ := open_ensT h4
  simp only [List.cons.injEq, and_true] at e0 e1 e2 e3
  obtain ⟨rfl, rfl, rfl⟩ := e0
  obtain ⟨rfl, rfl, rfl⟩ := e1
  subst e2
  subst e3
  refine ⟨⟨d, t, p, q, es⟩, fun j hj => ?_⟩
  match j, hj with
  | 0, _ => exact rfl
  | 1, _ => exact rfl
  | 2, _ => exact rfl
  | 3, _ => exact rfl
  | 4, _ => exact rfl
  | 5, _ => exact rfl
  | 6, _ => exact rfl
  | 7, _ => exact rfl
  | 8, _ => exact r4
theorem open_ndsT {fuel : Nat} {v : Value} {x : DataW H × List MemPlace} (h : DataW.trod enc Tryz.prog w 0 (fun _ => true) held fuel 42 [v] = some x) : ∃ l : List Nd, RdV w (Old w) v (ndsDt l) :=
 open_rowsT (t := 75) (k := 9) nd0 Tryz.underlying42 (by kernel_rfl) (by omega) ndCell open_ndT h
set_option maxRecDepth 100000 in
theorem open_treeA {b0 : Nat} {r : Reach} {v : Value} {x : DataW H} {p : List MemPlace} (hv : Value.okWide Tryz.prog w r b0 44 v) (h : DataW.Trod enc Tryz.prog w 0 (fun _ => true) held 44 v x p) :
  ∃ l : List Nd, ∃ x, v = .agg #[x] ∧ RdV w (Old w) x (ndsDt l) := by
 obtain ⟨cs, rfl, hsz⟩ := okWide_struct Tryz.underlying44 hv
 obtain ⟨fuel, hf⟩ := h
 obtain ⟨hl, n, ⟨y0, h0⟩⟩ := trod_fields1 Tryz.underlying44 hf
 have k2 : Tryz.prog.cellsOf 42 = 1 := by kernel_rfl
 have k3 : Tryz.prog.cellsOf 44 = 1 := by kernel_rfl
 rw [k3] at hl
 obtain ⟨l⟩ := cs
 match l, hl with
 | [c0], _ =>
  simp only [k2, List.drop_zero, List.take_succ_cons, List.take_zero] at h0
  obtain ⟨es, r⟩ := open_ndsT h0
  exact ⟨es, c0, rfl, r⟩
end
end
section
theorem OwV.close2M {w w2 w' : World} {N M L : Nat} {v v2 : Value} {d d2 : Dt} (h1 : w.heap.size ≤ M) (h2 : M ≤ w2.heap.size) (B : Below w.heap.size w w2) (o : OwV w2 (fun b => N ≤ b ∧ b < M) v d) (o2 : OwV w2 (fun b => L ≤ b ∧ b < w2.heap.size) v2 d2) (hM : M ≤ L) (hN : w.heap.size ≤ N) (hL : N ≤ L) (t : Turned (fun b => w.heap.size ≤ b ∧ b < N) w2 w') :
  (w.heap.size ≤ M ∧ M ≤ w'.heap.size) ∧ OwV w' (fun b => w.heap.size ≤ b ∧ b < M) v d ∧ OwV w' (fun b => M ≤ b ∧ b < w'.heap.size) v2 d2 ∧ Below w.heap.size w w' := ⟨⟨h1, Nat.le_trans h2 t.size⟩, OwV.close2 B o o2 hM hN hL t⟩
set_option maxHeartbeats 2000000 in
theorem toOp_any (x y : Value) (o : OpD) (S : Nat → Prop) (w : World) (r : RdV w S x (.bytes o.nm)) (r2 : RdV w S y (.bytes o.asn)) (hl : o.nm.length ≤ 2097152) (hl2 : o.asn.length ≤ 2097152) :
  Calls Tryz.prog 17 #[opV o x y] w fun q w' => ∃ a n c a2 n2 c2 M, q = .returned (opV o (.slice a n c) (.slice a2 n2 c2)) ∧ (w.heap.size ≤ M ∧ M ≤ w'.heap.size) ∧ OwV w' (fun b => w.heap.size ≤ b ∧ b < M) (.slice a n c) (.bytes o.nm) ∧ OwV w' (fun b => M ≤ b ∧ b < w'.heap.size) (.slice a2 n2 c2) (.bytes o.asn) ∧ Below w.heap.size w w' := by
 obtain ⟨a, cap, rfl⟩ := r.sliceB
 obtain ⟨a2, cap2, rfl⟩ := r2.sliceB
 obtain ⟨kd, ⟨p, q, d⟩, nm, ⟨p2, q2, d2⟩, asn, vl⟩ := o
 have HR : Hid (∀ W, Below w.heap.size w W → _) := r.old
 have HR2 : Hid (∀ W, Below w.heap.size w W → _) := r2.old
 have HH : Hid (∀ W, _) := fun W => toHandle_any (p, q, d) W
 have HH2 : Hid (∀ W, _) := fun W => toHandle_any (p2, q2, d2) W
 have HL : Hid (nm.length ≤ 2097152) := hl
 have HL2 : Hid (asn.length ≤ 2097152) := hl2
 clear r r2 hl hl2
 dsimp only at HR HR2 ⊢
 generalize nm.length = n0 at HR
 generalize asn.length = n1 at HR2
 go_enter Tryz.func17, Tryz.ntmps17
 go_wp2_with fail
 refine Calls.mono (HH.out _) ?_
 rintro e w2 ⟨rfl, b_⟩
 have hs2 := b_.size
 simp at hs2
 have vA : VarA w2 w.heap.size 47 #[.i kd, .i p, .i q, .bool d, .slice a n0 cap, .i p2, .i q2, .bool d2, .slice a2 n1 cap2, .i vl] := VarA.step (((VarA.new w _ _).alloc _).alloc _) b_
 have vR : VarA w2 (w.heap.size + 1) 29 #[.i 0, .i 0, .i 0, .bool false, .slice none 0 0, .i 0, .i 0, .bool false, .slice none 0 0, .i 0] := by
  have := VarA.step ((VarA.new (w.alloc _) _ _).alloc _) b_
  simpa using this
 have vO : VarA w2 (w.heap.size + 1 + 1) 29 #[.i kd, .i 0, .i 0, .bool false, .slice none 0 0, .i 0, .i 0, .bool false, .slice none 0 0, .i 0] := by
  have := VarA.step (VarA.new ((w.alloc _).alloc _) _ _) b_
  simpa using this
 have HB : Hid (Below w.heap.size w w2) := ((((Below.refl _ _).alloc (Nat.le_refl _) _).alloc (by simp) _).alloc (by simp; omega) _).trans (b_.mono (by simp; omega))
 have HT : Hid (Turned (fun b => w.heap.size ≤ b ∧ b < w.heap.size + 3) w2 w2) := Turned.refl _ _
 have hz : w.heap.size + 3 ≤ w2.heap.size := by omega
 clear hs2 b_
 obtain ⟨a0_, a1_, a2_, a3_, a4_, a5_, a6_, a7_, a8_, a9_⟩ := vA.l10
 obtain ⟨o0_, o1_, o2_, o3_, o4_, o5_, o6_, o7_, o8_, o9_⟩ := vO.l10
 have fo_ := vO.fz
 go_wp2_with fail
 refine Calls.mono (toByteS_d _ nm S _ (HR.out _ (Turned.below HB.out (HT.out |>.set _ _ (by simp <;> omega) |>.set _ _ (by simp <;> omega) |>.set _ _ (by simp <;> omega)) HB.out.size (fun i hi => hi.1))) HL.out) ?_
 rintro e w3 ⟨ua, un, uc, rfl, o_, b_⟩
 clear a0_ a1_ a2_ a3_ a4_ a5_ a6_ a7_ a8_ a9_ o0_ o1_ o2_ o3_ o4_ o5_ o6_ o7_ o8_ o9_ fo_
 have vA_ := (vA |>.aside (p := ⟨w.heap.size + 1 + 1, 1, none⟩) (by dsimp only; omega) _ |>.aside (p := ⟨w.heap.size + 1 + 1, 2, none⟩) (by dsimp only; omega) _ |>.aside (p := ⟨w.heap.size + 1 + 1, 3, none⟩) (by dsimp only; omega) _).step b_
 have vR_ := (vR |>.aside (p := ⟨w.heap.size + 1 + 1, 1, none⟩) (by dsimp only; omega) _ |>.aside (p := ⟨w.heap.size + 1 + 1, 2, none⟩) (by dsimp only; omega) _ |>.aside (p := ⟨w.heap.size + 1 + 1, 3, none⟩) (by dsimp only; omega) _).step b_
 have vO_ : VarA w3 (w.heap.size + 1 + 1) 29 #[.i kd, .i p, .i q, .bool d, .slice none 0 0, .i 0, .i 0, .bool false, .slice none 0 0, .i 0] := (vO |>.set 1 _ |>.set 2 _ |>.set 3 _).step b_
 have t_ : Turned (fun b => w.heap.size ≤ b ∧ b < w.heap.size + 3) w2 w3 := (HT.out |>.set _ _ (by simp <;> omega) |>.set _ _ (by simp <;> omega) |>.set _ _ (by simp <;> omega)).andThen b_
 have HB_ : Hid (Below w.heap.size w w3) := Turned.below HB.out t_ HB.out.size (fun i hi => hi.1)
 have zs_ := t_.size
 have HO0 : Hid (OwV w3 (fun b => w2.heap.size ≤ b ∧ b < w3.heap.size) (.slice ua un uc) (.bytes nm)) := o_.mono (fun b h => by simpa using h)
 clear vA vR vO HT HB b_ t_ o_
 have HT : Hid (Turned (fun b => w.heap.size ≤ b ∧ b < w.heap.size + 3) w3 w3) := Turned.refl _ _
 have vA := vA_
 have vR := vR_
 have vO := vO_
 have HB := HB_
 clear vA_ vR_ vO_ HB_
 obtain ⟨a0_, a1_, a2_, a3_, a4_, a5_, a6_, a7_, a8_, a9_⟩ := vA.l10
 obtain ⟨o0_, o1_, o2_, o3_, o4_, o5_, o6_, o7_, o8_, o9_⟩ := vO.l10
 have fo_ := vO.fz
 go_wp2_with fail
 refine Calls.mono (HH2.out _) ?_
 rintro e w4 ⟨rfl, b_⟩
 clear a0_ a1_ a2_ a3_ a4_ a5_ a6_ a7_ a8_ a9_ o0_ o1_ o2_ o3_ o4_ o5_ o6_ o7_ o8_ o9_ fo_
 have vA_ := (vA |>.aside (p := ⟨w.heap.size + 1 + 1, 4, none⟩) (by dsimp only; omega) _).step b_
 have vR_ := (vR |>.aside (p := ⟨w.heap.size + 1 + 1, 4, none⟩) (by dsimp only; omega) _).step b_
 have vO_ : VarA w4 (w.heap.size + 1 + 1) 29 #[.i kd, .i p, .i q, .bool d, .slice ua un uc, .i 0, .i 0, .bool false, .slice none 0 0, .i 0] := (vO |>.set 4 _).step b_
 have t_ : Turned (fun b => w.heap.size ≤ b ∧ b < w.heap.size + 3) w3 w4 := (HT.out |>.set _ _ (by simp <;> omega)).andThen b_
 have HB_ : Hid (Below w.heap.size w w4) := Turned.below HB.out t_ HB.out.size (fun i hi => hi.1)
 have zs_ := t_.size
 have HO0_ : Hid (OwV w4 (fun b => _ ∧ b < _) (.slice ua un uc) (.bytes nm)) := HO0.out.keep (t_.keeps (fun b hb hs => by omega))
 clear vA vR vO HT HB b_ t_ HO0
 have HT : Hid (Turned (fun b => w.heap.size ≤ b ∧ b < w.heap.size + 3) w4 w4) := Turned.refl _ _
 have vA := vA_
 have vR := vR_
 have vO := vO_
 have HB := HB_
 have HO0 := HO0_
 clear vA_ vR_ vO_ HB_ HO0_
 obtain ⟨a0_, a1_, a2_, a3_, a4_, a5_, a6_, a7_, a8_, a9_⟩ := vA.l10
 obtain ⟨o0_, o1_, o2_, o3_, o4_, o5_, o6_, o7_, o8_, o9_⟩ := vO.l10
 have fo_ := vO.fz
 go_wp2_with fail
 refine Calls.mono (toByteS_d _ asn S _ (HR2.out _ (Turned.below HB.out (HT.out |>.set _ _ (by simp <;> omega) |>.set _ _ (by simp <;> omega) |>.set _ _ (by simp <;> omega)) HB.out.size (fun i hi => hi.1))) HL2.out) ?_
 rintro e w5 ⟨ya, yn, yc, rfl, o_, b_⟩
 clear a0_ a1_ a2_ a3_ a4_ a5_ a6_ a7_ a8_ a9_ o0_ o1_ o2_ o3_ o4_ o5_ o6_ o7_ o8_ o9_ fo_
 have vA_ := (vA |>.aside (p := ⟨w.heap.size + 1 + 1, 5, none⟩) (by dsimp only; omega) _ |>.aside (p := ⟨w.heap.size + 1 + 1, 6, none⟩) (by dsimp only; omega) _ |>.aside (p := ⟨w.heap.size + 1 + 1, 7, none⟩) (by dsimp only; omega) _).step b_
 have vR_ := (vR |>.aside (p := ⟨w.heap.size + 1 + 1, 5, none⟩) (by dsimp only; omega) _ |>.aside (p := ⟨w.heap.size + 1 + 1, 6, none⟩) (by dsimp only; omega) _ |>.aside (p := ⟨w.heap.size + 1 + 1, 7, none⟩) (by dsimp only; omega) _).step b_
 have vO_ : VarA w5 (w.heap.size + 1 + 1) 29 #[.i kd, .i p, .i q, .bool d, .slice ua un uc, .i p2, .i q2, .bool d2, .slice none 0 0, .i 0] := (vO |>.set 5 _ |>.set 6 _ |>.set 7 _).step b_
 have t_ : Turned (fun b => w.heap.size ≤ b ∧ b < w.heap.size + 3) w4 w5 := (HT.out |>.set _ _ (by simp <;> omega) |>.set _ _ (by simp <;> omega) |>.set _ _ (by simp <;> omega)).andThen b_
 have HB_ : Hid (Below w.heap.size w w5) := Turned.below HB.out t_ HB.out.size (fun i hi => hi.1)
 have zs_ := t_.size
 have HO0_ : Hid (OwV w5 (fun b => _ ∧ b < _) (.slice ua un uc) (.bytes nm)) := HO0.out.keep (t_.keeps (fun b hb hs => by omega))
 have HO1 : Hid (OwV w5 (fun b => w4.heap.size ≤ b ∧ b < w5.heap.size) (.slice ya yn yc) (.bytes asn)) := o_.mono (fun b h => by simpa using h)
 clear vA vR vO HT HB b_ t_ o_ HO0
 have HT : Hid (Turned (fun b => w.heap.size ≤ b ∧ b < w.heap.size + 3) w5 w5) := Turned.refl _ _
 have vA := vA_
 have vR := vR_
 have vO := vO_
 have HB := HB_
 have HO0 := HO0_
 clear vA_ vR_ vO_ HB_ HO0_
 obtain ⟨a0_, a1_, a2_, a3_, a4_, a5_, a6_, a7_, a8_, a9_⟩ := vA.l10
 obtain ⟨o0_, o1_, o2_, o3_, o4_, o5_, o6_, o7_, o8_, o9_⟩ := vO.l10
 have fo_ := vO.fz
 obtain ⟨r0_, r1_, r2_, r3_, r4_, r5_, r6_, r7_, r8_, r9_⟩ := vR.l10
 have fr_ := vR.fz
 clear vA vR vO
 go_wp2
 refine bodyPost_ret (v := .agg #[.i kd, .i p, .i q, .bool d, .slice ua un uc, .i p2, .i q2, .bool d2, .slice ya yn yc, .i vl]) (by simp [results, Tryz.results17, go_sem, r0_, r1_, r2_, r3_, r4_, r5_, r6_, r7_, r8_, r9_]) rfl ?_
 exact ⟨_, _, _, _, _, _, _, rfl, OwV.close2M (by omega) (by omega) HB.out (HO0.out.mono (fun b h => (⟨by omega, h.2⟩ : w.heap.size + 3 ≤ b ∧ _))) HO1.out (by omega) (by omega) (by omega) (HT.out |>.set _ _ (by simp <;> omega) |>.set _ _ (by simp <;> omega) |>.set _ _ (by simp <;> omega) |>.set _ _ (by simp <;> omega) |>.set _ _ (by simp <;> omega) |>.set _ _ (by simp <;> omega) |>.set _ _ (by simp <;> omega) |>.set _ _ (by simp <;> omega) |>.set _ _ (by simp <;> omega) |>.set _ _ (by simp <;> omega) |>.set _ _ (by simp <;> omega) |>.set _ _ (by simp <;> omega))⟩
end
section
theorem eqByteS_same (v u : Value) (zs : List Int) (S S2 : Nat → Prop) (w : World) (r : RdV w S v (.bytes zs)) (r2 : RdV w S2 u (.bytes zs)) (hl : zs.length ≤ 2097152) :
  Calls Tryz.prog 68 #[v, u] w fun e w' => e = .returned (.bool true) ∧ Below w.heap.size w w' := by
 obtain ⟨a, cap, rfl, hh, hr⟩ := r.b.reads
 obtain ⟨a2, cap2, rfl, hh2, hr2⟩ := r2.b.reads
 refine (eqByteS_any a a2 zs zs cap cap2 w hr hr2 hl hl).mono ?_
 rintro e w' ⟨rfl, n, rfl⟩
 exact ⟨by rw [beq_self_eq_true], below_drewN2 (Below.refl _ _) n⟩

set_option maxHeartbeats 1000000 in
theorem eqEntry_same (x y : Value) (e : En) (S S2 : Nat → Prop) (w : World) (r : RdV w S x (.bytes e.nm)) (r2 : RdV w S2 y (.bytes e.nm)) (hl : e.nm.length ≤ 2097152) :
  Calls Tryz.prog 110 #[enV x e.h, enV y e.h] w fun q w' => q = .returned (.bool true) ∧ Below w.heap.size w w' := by
 obtain ⟨a, cap, rfl⟩ := r.sliceB
 obtain ⟨a2, cap2, rfl⟩ := r2.sliceB
 obtain ⟨nm, ⟨p, q, d⟩⟩ := e
 have HR : Hid (∀ W, Below w.heap.size w W → _) := r.old
 have HR2 : Hid (∀ W, Below w.heap.size w W → _) := r2.old
 have HH : Hid (∀ W, _) := fun W => eqHandle_same (p, q, d) W
 have HL : Hid (nm.length ≤ 2097152) := hl
 clear r r2 hl
 dsimp only at HR HR2 ⊢
 generalize nm.length = n0 at HR HR2
 go_enter Tryz.func110, Tryz.ntmps110
 go_wp2_with fail
 refine Calls.mono (eqByteS_same _ _ nm S S2 _ (HR.out _ (Below.newH2 _ _)) (HR2.out _ (Below.newH2 _ _)) HL.out) ?_
 rintro e w2 ⟨rfl, b_⟩
 have vA : VarA w2 w.heap.size 81 #[.slice a n0 cap, .i p, .i q, .bool d] := VarA.step ((VarA.new w _ _).alloc _) b_
 have vB : VarA w2 (w.heap.size + 1) 81 #[.slice a2 n0 cap2, .i p, .i q, .bool d] := by
  have := VarA.step (VarA.new (w.alloc _) _ _) b_
  simpa using this
 have HB : Hid _ := (Below.newH2 (w := w) _ _).trans (b_.mono (by simp; omega))
 clear b_
 obtain ⟨a0_, a1_, a2_, a3_⟩ := vA.l4
 obtain ⟨b0_, b1_, b2_, b3_⟩ := vB.l4
 go_wp2_with fail
 refine Calls.mono (HH.out _) ?_
 rintro e w3 ⟨rfl, b_⟩
 have vA_ := vA.step b_
 have vB_ := vB.step b_
 have HB_ : Hid _ := HB.out.trans (b_.mono HB.out.size)
 clear vA vB HB b_ a0_ a1_ a2_ a3_ b0_ b1_ b2_ b3_
 have vA := vA_
 have vB := vB_
 have HB := HB_
 clear vA_ vB_ HB_
 obtain ⟨a0_, a1_, a2_, a3_⟩ := vA.l4
 obtain ⟨b0_, b1_, b2_, b3_⟩ := vB.l4
 go_wp2
 go_ret
 exact ⟨rfl, HB.out⟩

set_option maxHeartbeats 2000000 in
theorem eqEntryS_same (v u : Value) (l : List En) (S S2 : Nat → Prop) (w : World) (r : RdV w S v (ensDt l)) (r2 : RdV w S2 u (ensDt l)) (hl : szEns l ≤ 2097152) :
  Calls Tryz.prog 67 #[v, u] w fun e w' => e = .returned (.bool true) ∧ Below w.heap.size w w' := by
 obtain ⟨a, cap, rfl, _⟩ := RdV.sliced r
 obtain ⟨a2, cap2, rfl, _⟩ := RdV.sliced r2
 have HR : Hid (∀ W, Below w.heap.size w W → RdV W S (.slice a l.length cap) (ensDt l)) := r.old
 have HR2 : Hid (∀ W, Below w.heap.size w W → RdV W S2 (.slice a2 l.length cap2) (ensDt l)) := r2.old
 have HD : Hid (ensDt l = .rows 81 4 l.length (fun i j => enCell (l[i]?.getD en0) j)) := rfl
 have hnn : l.length ≤ 2097152 := by unfold szEns at hl; omega
 have HL : Hid _ := hl
 clear r r2 hl
 rw [HD.out] at HR HR2
 clear HD
 generalize l.length = n at hnn HR HR2 ⊢
 go_enter Tryz.func67, Tryz.ntmps67
 go_wp2
 go_loopw [5] (fun i wr => ∃ k : Nat, k ≤ n ∧ i = .i k ∧ Below w.heap.size w wr) (fun i _ => n - (intOf i).toNat)
 case atStart => exact ⟨0, Nat.zero_le _, rfl, Below.refl _ _⟩
 case round =>
  obtain ⟨k, hk, rfl, hbel⟩ := hrel
  by_cases hlt : k < n
  ·obtain ⟨b, off, rfl, hbl, _, hx⟩ := RdV.at (HR.out wr hbel) hlt
   obtain ⟨b2, off2, rfl, hbl2, _, hy⟩ := RdV.at (HR2.out wr hbel) hlt
   obtain ⟨e, he⟩ : ∃ e, l[k]?.getD en0 = e := ⟨_, rfl⟩
   obtain ⟨x0, c0, r0⟩ := hx 0 (by omega)
   obtain ⟨y0, dd0, s0⟩ := hy 0 (by omega)
   obtain ⟨x1, c1, r1⟩ := hx 1 (by omega)
   obtain ⟨y1, dd1, s1⟩ := hy 1 (by omega)
   obtain ⟨x2, c2, r2⟩ := hx 2 (by omega)
   obtain ⟨y2, dd2, s2⟩ := hy 2 (by omega)
   obtain ⟨x3, c3, r3⟩ := hx 3 (by omega)
   obtain ⟨y3, dd3, s3⟩ := hy 3 (by omega)
   rw [he] at r0 s0 r1 s1 r2 s2 r3 s3
   have HZ : Hid (e.nm.length ≤ 2097152) := by have h1 := szEns_at l k; rw [he] at h1; have h2 := HL.out; show _ ≤ _; omega
   clear hx hy he
   obtain ⟨nm, ⟨p, q, d⟩⟩ := e
   obtain rfl : x1 = .i p := r1
   obtain rfl : y1 = .i p := s1
   obtain rfl : x2 = .i q := r2
   obtain rfl : y2 = .i q := s2
   obtain rfl : x3 = .bool d := r3
   obtain rfl : y3 = .bool d := s3
   simp only [Nat.add_zero] at c0 dd0
   have RS : Hid (RdV wr S x0 (.bytes nm)) := r0
   have RS2 : Hid (RdV wr S2 y0 (.bytes nm)) := s0
   clear r0 s0
   obtain ⟨xa, xc, rfl⟩ := RdV.sliceB RS.out
   obtain ⟨ya, yc, rfl⟩ := RdV.sliceB RS2.out
   have RC : Hid _ := eqEntry_same _ _ ⟨nm, p, q, d⟩ S S2 wr.drew (RS.out.step (Below.drew (Below.refl _ _))) (RS2.out.step (Below.drew (Below.refl _ _))) HZ.out
   generalize nm.length = xn at RC c0 dd0
   have hws := hbel.size
   clear HZ RS RS2
   go_wp2
   go_region_held3 (fun w' => w'.cell? ⟨b, off + k * 4, none⟩ = some (.slice xa xn xc) ∧ w'.cell? ⟨b, off + k * 4 + 1, none⟩ = some (.i p) ∧ w'.cell? ⟨b, off + k * 4 + 2, none⟩ = some (.i q) ∧ w'.cell? ⟨b, off + k * 4 + 3, none⟩ = some (.bool d) ∧ w'.cell? ⟨b2, off2 + k * 4, none⟩ = some (.slice ya xn yc) ∧ w'.cell? ⟨b2, off2 + k * 4 + 1, none⟩ = some (.i p) ∧ w'.cell? ⟨b2, off2 + k * 4 + 2, none⟩ = some (.i q) ∧ w'.cell? ⟨b2, off2 + k * 4 + 3, none⟩ = some (.bool d)) (first | go_keep | (refine ⟨?_, ?_, ?_, ?_, ?_, ?_, ?_, ?_⟩ <;> assumption)) (first | (go_at_call 110; refine Calls.mono RC.out ?_; rintro e w' ⟨rfl, hbw⟩; have q0 := (hbw.cell (p := ⟨b, off + k * 4, none⟩) hbl).trans c0; have q1 := (hbw.cell (p := ⟨b, off + k * 4 + 1, none⟩) hbl).trans c1; have q2 := (hbw.cell (p := ⟨b, off + k * 4 + 2, none⟩) hbl).trans c2; have q3 := (hbw.cell (p := ⟨b, off + k * 4 + 3, none⟩) hbl).trans c3; have q4 := (hbw.cell (p := ⟨b2, off2 + k * 4, none⟩) hbl2).trans dd0; have q5 := (hbw.cell (p := ⟨b2, off2 + k * 4 + 1, none⟩) hbl2).trans dd1; have q6 := (hbw.cell (p := ⟨b2, off2 + k * 4 + 2, none⟩) hbl2).trans dd2; have q7 := (hbw.cell (p := ⟨b2, off2 + k * 4 + 3, none⟩) hbl2).trans dd3))
   go_wp2
   go_roundw
   case rel => exact ⟨k + 1, by omega, by go_num, hbel.drew.trans (hbw.mono hws)⟩
   case measure => simp [intOf]; omega
  ·have hkn : k = n := by omega
   subst hkn
   go_wp2
   go_ret
   exact ⟨rfl, hbel⟩

set_option maxHeartbeats 2000000 in
theorem eqNode_same (x y : Value) (n : Nd) (S S2 : Nat → Prop) (w : World) (r : RdV w S x (ensDt n.es)) (r2 : RdV w S2 y (ensDt n.es)) (hl : szEns n.es ≤ 2097152) :
  Calls Tryz.prog 109 #[ndV n x, ndV n y] w fun q w' => q = .returned (.bool true) ∧ Below w.heap.size w w' := by
 obtain ⟨a, cap, rfl, _⟩ := RdV.sliced r
 obtain ⟨a2, cap2, rfl, _⟩ := RdV.sliced r2
 obtain ⟨⟨p, q, d⟩, ⟨p2, q2, d2⟩, lk, vl, es⟩ := n
 have HR : Hid (∀ W, Below w.heap.size w W → _) := r.old
 have HR2 : Hid (∀ W, Below w.heap.size w W → _) := r2.old
 have HH : Hid (∀ W, _) := fun W => eqHandle_same (p, q, d) W
 have HH2 : Hid (∀ W, _) := fun W => eqHandle_same (p2, q2, d2) W
 have HL : Hid (szEns es ≤ 2097152) := hl
 clear r r2 hl
 dsimp only at HR HR2 ⊢
 generalize es.length = n0 at HR HR2
 go_enter Tryz.func109, Tryz.ntmps109
 go_wp2_with fail
 refine Calls.mono (HH.out _) ?_
 rintro e w2 ⟨rfl, b_⟩
 have vA : VarA w2 w.heap.size 75 #[.i p, .i q, .bool d, .i p2, .i q2, .bool d2, .i lk, .i vl, .slice a n0 cap] := VarA.step ((VarA.new w _ _).alloc _) b_
 have vB : VarA w2 (w.heap.size + 1) 75 #[.i p, .i q, .bool d, .i p2, .i q2, .bool d2, .i lk, .i vl, .slice a2 n0 cap2] := by
  have := VarA.step (VarA.new (w.alloc _) _ _) b_
  simpa using this
 have HB : Hid _ := (Below.newH2 (w := w) _ _).trans (b_.mono (by simp; omega))
 clear b_
 obtain ⟨a0_, a1_, a2_, a3_, a4_, a5_, a6_, a7_, a8_⟩ := vA.l9
 obtain ⟨b0_, b1_, b2_, b3_, b4_, b5_, b6_, b7_, b8_⟩ := vB.l9
 go_wp2_with fail
 refine Calls.mono (HH2.out _) ?_
 rintro e w3 ⟨rfl, b_⟩
 have vA_ := vA.step b_
 have vB_ := vB.step b_
 have HB_ : Hid _ := HB.out.trans (b_.mono HB.out.size)
 clear vA vB HB b_ a0_ a1_ a2_ a3_ a4_ a5_ a6_ a7_ a8_ b0_ b1_ b2_ b3_ b4_ b5_ b6_ b7_ b8_
 have vA := vA_
 have vB := vB_
 have HB := HB_
 clear vA_ vB_ HB_
 obtain ⟨a0_, a1_, a2_, a3_, a4_, a5_, a6_, a7_, a8_⟩ := vA.l9
 obtain ⟨b0_, b1_, b2_, b3_, b4_, b5_, b6_, b7_, b8_⟩ := vB.l9
 go_wp2_with fail
 refine Calls.mono (eqEntryS_same _ _ es S S2 _ (HR.out _ HB.out) (HR2.out _ HB.out) HL.out) ?_
 rintro e w4 ⟨rfl, b_⟩
 have vA_ := vA.step b_
 have vB_ := vB.step b_
 have HB_ : Hid _ := HB.out.trans (b_.mono HB.out.size)
 clear vA vB HB b_ a0_ a1_ a2_ a3_ a4_ a5_ a6_ a7_ a8_ b0_ b1_ b2_ b3_ b4_ b5_ b6_ b7_ b8_
 have vA := vA_
 have vB := vB_
 have HB := HB_
 clear vA_ vB_ HB_
 obtain ⟨a0_, a1_, a2_, a3_, a4_, a5_, a6_, a7_, a8_⟩ := vA.l9
 obtain ⟨b0_, b1_, b2_, b3_, b4_, b5_, b6_, b7_, b8_⟩ := vB.l9
 go_wp2
 go_ret
 exact ⟨rfl, HB.out⟩

set_option maxHeartbeats 2000000 in
theorem eqNodeS_same (v u : Value) (l : List Nd) (S S2 : Nat → Prop) (w : World) (r : RdV w S v (ndsDt l)) (r2 : RdV w S2 u (ndsDt l)) (hl : szNds l ≤ 2097152) :
  Calls Tryz.prog 65 #[v, u] w fun e w' => e = .returned (.bool true) ∧ Below w.heap.size w w' := by
 obtain ⟨a, cap, rfl, _⟩ := RdV.sliced r
 obtain ⟨a2, cap2, rfl, _⟩ := RdV.sliced r2
 have HR : Hid (∀ W, Below w.heap.size w W → RdV W S (.slice a l.length cap) (ndsDt l)) := r.old
 have HR2 : Hid (∀ W, Below w.heap.size w W → RdV W S2 (.slice a2 l.length cap2) (ndsDt l)) := r2.old
 have HD : Hid (ndsDt l = .rows 75 9 l.length (fun i j => ndCell (l[i]?.getD nd0) j)) := rfl
 have hnn : l.length ≤ 2097152 := by unfold szNds at hl; omega
 have HL : Hid _ := hl
 clear r r2 hl
 rw [HD.out] at HR HR2
 clear HD
 generalize l.length = n at hnn HR HR2 ⊢
 go_enter Tryz.func65, Tryz.ntmps65
 go_wp2
 go_loopw [5] (fun i wr => ∃ k : Nat, k ≤ n ∧ i = .i k ∧ Below w.heap.size w wr) (fun i _ => n - (intOf i).toNat)
 case atStart => exact ⟨0, Nat.zero_le _, rfl, Below.refl _ _⟩
 case round =>
  obtain ⟨k, hk, rfl, hbel⟩ := hrel
  by_cases hlt : k < n
  ·obtain ⟨b, off, rfl, hbl, _, hx⟩ := RdV.at (HR.out wr hbel) hlt
   obtain ⟨b2, off2, rfl, hbl2, _, hy⟩ := RdV.at (HR2.out wr hbel) hlt
   obtain ⟨e, he⟩ : ∃ e, l[k]?.getD nd0 = e := ⟨_, rfl⟩
   obtain ⟨x0, c0, r0⟩ := hx 0 (by omega)
   obtain ⟨y0, dd0, s0⟩ := hy 0 (by omega)
   obtain ⟨x1, c1, r1⟩ := hx 1 (by omega)
   obtain ⟨y1, dd1, s1⟩ := hy 1 (by omega)
   obtain ⟨x2, c2, r2⟩ := hx 2 (by omega)
   obtain ⟨y2, dd2, s2⟩ := hy 2 (by omega)
   obtain ⟨x3, c3, r3⟩ := hx 3 (by omega)
   obtain ⟨y3, dd3, s3⟩ := hy 3 (by omega)
   obtain ⟨x4, c4, r4⟩ := hx 4 (by omega)
   obtain ⟨y4, dd4, s4⟩ := hy 4 (by omega)
   obtain ⟨x5, c5, r5⟩ := hx 5 (by omega)
   obtain ⟨y5, dd5, s5⟩ := hy 5 (by omega)
   obtain ⟨x6, c6, r6⟩ := hx 6 (by omega)
   obtain ⟨y6, dd6, s6⟩ := hy 6 (by omega)
   obtain ⟨x7, c7, r7⟩ := hx 7 (by omega)
   obtain ⟨y7, dd7, s7⟩ := hy 7 (by omega)
   obtain ⟨x8, c8, r8⟩ := hx 8 (by omega)
   obtain ⟨y8, dd8, s8⟩ := hy 8 (by omega)
   rw [he] at r0 s0 r1 s1 r2 s2 r3 s3 r4 s4 r5 s5 r6 s6 r7 s7 r8 s8
   have HZ : Hid (szEns e.es ≤ 2097152) := by have h1 := szNds_at l k; rw [he] at h1; have h2 := HL.out; show _ ≤ _; omega
   clear hx hy he
   obtain ⟨⟨p, q, d⟩, ⟨p2, q2, d2⟩, lk, vl, es⟩ := e
   obtain rfl : x0 = .i p := r0
   obtain rfl : y0 = .i p := s0
   obtain rfl : x1 = .i q := r1
   obtain rfl : y1 = .i q := s1
   obtain rfl : x2 = .bool d := r2
   obtain rfl : y2 = .bool d := s2
   obtain rfl : x3 = .i p2 := r3
   obtain rfl : y3 = .i p2 := s3
   obtain rfl : x4 = .i q2 := r4
   obtain rfl : y4 = .i q2 := s4
   obtain rfl : x5 = .bool d2 := r5
   obtain rfl : y5 = .bool d2 := s5
   obtain rfl : x6 = .i lk := r6
   obtain rfl : y6 = .i lk := s6
   obtain rfl : x7 = .i vl := r7
   obtain rfl : y7 = .i vl := s7
   simp only [Nat.add_zero] at c0 dd0
   have RS : Hid (RdV wr S x8 (ensDt es)) := r8
   have RS2 : Hid (RdV wr S2 y8 (ensDt es)) := s8
   clear r8 s8
   obtain ⟨xa, xc, rfl, _⟩ := RdV.sliced RS.out
   obtain ⟨ya, yc, rfl, _⟩ := RdV.sliced RS2.out
   have RC : Hid _ := eqNode_same _ _ ⟨(p, q, d), (p2, q2, d2), lk, vl, es⟩ S S2 wr.drew (RS.out.step (Below.drew (Below.refl _ _))) (RS2.out.step (Below.drew (Below.refl _ _))) HZ.out
   generalize es.length = xn at RC c8 dd8
   have hws := hbel.size
   clear HZ RS RS2
   go_wp2
   go_region_held3 (fun w' => w'.cell? ⟨b, off + k * 9, none⟩ = some (.i p) ∧ w'.cell? ⟨b, off + k * 9 + 1, none⟩ = some (.i q) ∧ w'.cell? ⟨b, off + k * 9 + 2, none⟩ = some (.bool d) ∧ w'.cell? ⟨b, off + k * 9 + 3, none⟩ = some (.i p2) ∧ w'.cell? ⟨b, off + k * 9 + 4, none⟩ = some (.i q2) ∧ w'.cell? ⟨b, off + k * 9 + 5, none⟩ = some (.bool d2) ∧ w'.cell? ⟨b, off + k * 9 + 6, none⟩ = some (.i lk) ∧ w'.cell? ⟨b, off + k * 9 + 7, none⟩ = some (.i vl) ∧ w'.cell? ⟨b, off + k * 9 + 8, none⟩ = some (.slice xa xn xc) ∧ w'.cell? ⟨b2, off2 + k * 9, none⟩ = some (.i p) ∧ w'.cell? ⟨b2, off2 + k * 9 + 1, none⟩ = some (.i q) ∧ w'.cell? ⟨b2, off2 + k * 9 + 2, none⟩ = some (.bool d) ∧ w'.cell? ⟨b2, off2 + k * 9 + 3, none⟩ = some (.i p2) ∧ w'.cell? ⟨b2, off2 + k * 9 + 4, none⟩ = some (.i q2) ∧ w'.cell? ⟨b2, off2 + k * 9 + 5, none⟩ = some (.bool d2) ∧ w'.cell? ⟨b2, off2 + k * 9 + 6, none⟩ = some (.i lk) ∧ w'.cell? ⟨b2, off2 + k * 9 + 7, none⟩ = some (.i vl) ∧ w'.cell? ⟨b2, off2 + k * 9 + 8, none⟩ = some (.slice ya xn yc)) (first | go_keep | (refine ⟨?_, ?_, ?_, ?_, ?_, ?_, ?_, ?_, ?_, ?_, ?_, ?_, ?_, ?_, ?_, ?_, ?_, ?_⟩ <;> assumption)) (first | (go_at_call 109; refine Calls.mono RC.out ?_; rintro e w' ⟨rfl, hbw⟩; have q0 := (hbw.cell (p := ⟨b, off + k * 9, none⟩) hbl).trans c0; have q1 := (hbw.cell (p := ⟨b, off + k * 9 + 1, none⟩) hbl).trans c1; have q2 := (hbw.cell (p := ⟨b, off + k * 9 + 2, none⟩) hbl).trans c2; have q3 := (hbw.cell (p := ⟨b, off + k * 9 + 3, none⟩) hbl).trans c3; have q4 := (hbw.cell (p := ⟨b, off + k * 9 + 4, none⟩) hbl).trans c4; have q5 := (hbw.cell (p := ⟨b, off + k * 9 + 5, none⟩) hbl).trans c5; have q6 := (hbw.cell (p := ⟨b, off + k * 9 + 6, none⟩) hbl).trans c6; have q7 := (hbw.cell (p := ⟨b, off + k * 9 + 7, none⟩) hbl).trans c7; have q8 := (hbw.cell (p := ⟨b, off + k * 9 + 8, none⟩) hbl).trans c8; have q9 := (hbw.cell (p := ⟨b2, off2 + k * 9, none⟩) hbl2).trans dd0; have q10 := (hbw.cell (p := ⟨b2, off2 + k * 9 + 1, none⟩) hbl2).trans dd1; have q11 := (hbw.cell (p := ⟨b2, off2 + k * 9 + 2, none⟩) hbl2).trans dd2; have q12 := (hbw.cell (p := ⟨b2, off2 + k * 9 + 3, none⟩) hbl2).trans dd3; have q13 := (hbw.cell (p := ⟨b2, off2 + k * 9 + 4, none⟩) hbl2).trans dd4; have q14 := (hbw.cell (p := ⟨b2, off2 + k * 9 + 5, none⟩) hbl2).trans dd5; have q15 := (hbw.cell (p := ⟨b2, off2 + k * 9 + 6, none⟩) hbl2).trans dd6; have q16 := (hbw.cell (p := ⟨b2, off2 + k * 9 + 7, none⟩) hbl2).trans dd7; have q17 := (hbw.cell (p := ⟨b2, off2 + k * 9 + 8, none⟩) hbl2).trans dd8))
   go_wp2
   go_roundw
   case rel => exact ⟨k + 1, by omega, by go_num, hbel.drew.trans (hbw.mono hws)⟩
   case measure => simp [intOf]; omega
  ·have hkn : k = n := by omega
   subst hkn
   go_wp2
   go_ret
   exact ⟨rfl, hbel⟩

set_option maxHeartbeats 1000000 in
theorem eqTree_same (x y : Value) (l : List Nd) (S S2 : Nat → Prop) (w : World) (r : RdV w S x (ndsDt l)) (r2 : RdV w S2 y (ndsDt l)) (hl : szNds l ≤ 2097152) :
  Calls Tryz.prog 19 #[.agg #[x], .agg #[y]] w fun q w' => q = .returned (.bool true) ∧ Below w.heap.size w w' := by
 obtain ⟨a, cap, rfl, _⟩ := RdV.sliced r
 obtain ⟨a2, cap2, rfl, _⟩ := RdV.sliced r2
 have HR : Hid (∀ W, Below w.heap.size w W → _) := r.old
 have HR2 : Hid (∀ W, Below w.heap.size w W → _) := r2.old
 have HL : Hid (szNds l ≤ 2097152) := hl
 clear r r2 hl
 generalize l.length = n0 at HR HR2
 go_enter Tryz.func19, Tryz.ntmps19
 go_wp2_with fail
 refine Calls.mono (eqNodeS_same _ _ l S S2 _ (HR.out _ (Below.newH2 _ _)) (HR2.out _ (Below.newH2 _ _)) HL.out) ?_
 rintro e w2 ⟨rfl, b_⟩
 have vA : VarA w2 w.heap.size 25 #[.slice a n0 cap] := VarA.step ((VarA.new w _ _).alloc _) b_
 have vB : VarA w2 (w.heap.size + 1) 25 #[.slice a2 n0 cap2] := by
  have := VarA.step (VarA.new (w.alloc _) _ _) b_
  simpa using this
 have HB : Hid _ := (Below.newH2 (w := w) _ _).trans (b_.mono (by simp; omega))
 clear b_
 have a0_ := vA.l1
 have b0_ := vB.l1
 go_wp2
 go_ret
 exact ⟨rfl, HB.out⟩

set_option maxHeartbeats 2000000 in
theorem eqOp_same (x y x2 y2 : Value) (o : OpD) (S S2 : Nat → Prop) (w : World) (r : RdV w S x (.bytes o.nm)) (r2 : RdV w S2 x2 (.bytes o.nm)) (s : RdV w S y (.bytes o.asn)) (s2 : RdV w S2 y2 (.bytes o.asn)) (hl : o.nm.length ≤ 2097152) (hl2 : o.asn.length ≤ 2097152) :
  Calls Tryz.prog 21 #[opV o x y, opV o x2 y2] w fun q w' => q = .returned (.bool true) ∧ Below w.heap.size w w' := by
 obtain ⟨a, cap, rfl⟩ := r.sliceB
 obtain ⟨a2, cap2, rfl⟩ := r2.sliceB
 obtain ⟨b, cbp, rfl⟩ := s.sliceB
 obtain ⟨b2, cbp2, rfl⟩ := s2.sliceB
 obtain ⟨kd, ⟨p, q, d⟩, nm, ⟨p2, q2, d2⟩, asn, vl⟩ := o
 have HR : Hid (∀ W, Below w.heap.size w W → _) := r.old
 have HR2 : Hid (∀ W, Below w.heap.size w W → _) := r2.old
 have HS1 : Hid (∀ W, Below w.heap.size w W → _) := s.old
 have HS2_ : Hid (∀ W, Below w.heap.size w W → _) := s2.old
 have HH : Hid (∀ W, _) := fun W => eqHandle_same (p, q, d) W
 have HH2 : Hid (∀ W, _) := fun W => eqHandle_same (p2, q2, d2) W
 have HL : Hid (nm.length ≤ 2097152) := hl
 have HL2 : Hid (asn.length ≤ 2097152) := hl2
 clear r r2 s s2 hl hl2
 dsimp only at HR HR2 HS1 HS2_ ⊢
 generalize nm.length = n0 at HR HR2
 generalize asn.length = n1 at HS1 HS2_
 go_enter Tryz.func21, Tryz.ntmps21
 go_wp2_with fail
 refine Calls.mono (HH.out _) ?_
 rintro e w2 ⟨rfl, b_⟩
 have vA : VarA w2 w.heap.size 29 #[.i kd, .i p, .i q, .bool d, .slice a n0 cap, .i p2, .i q2, .bool d2, .slice b n1 cbp, .i vl] := VarA.step ((VarA.new w _ _).alloc _) b_
 have vB : VarA w2 (w.heap.size + 1) 29 #[.i kd, .i p, .i q, .bool d, .slice a2 n0 cap2, .i p2, .i q2, .bool d2, .slice b2 n1 cbp2, .i vl] := by
  have := VarA.step (VarA.new (w.alloc _) _ _) b_
  simpa using this
 have HB : Hid _ := (Below.newH2 (w := w) _ _).trans (b_.mono (by simp; omega))
 clear b_
 obtain ⟨a0_, a1_, a2_, a3_, a4_, a5_, a6_, a7_, a8_, a9_⟩ := vA.l10
 obtain ⟨b0_, b1_, b2_, b3_, b4_, b5_, b6_, b7_, b8_, b9_⟩ := vB.l10
 go_wp2_with fail
 refine Calls.mono (eqByteS_same _ _ nm S S2 _ (HR.out _ HB.out) (HR2.out _ HB.out) HL.out) ?_
 rintro e w3 ⟨rfl, b_⟩
 have vA_ := vA.step b_
 have vB_ := vB.step b_
 have HB_ : Hid _ := HB.out.trans (b_.mono HB.out.size)
 clear vA vB HB b_ a0_ a1_ a2_ a3_ a4_ a5_ a6_ a7_ a8_ a9_ b0_ b1_ b2_ b3_ b4_ b5_ b6_ b7_ b8_ b9_
 have vA := vA_
 have vB := vB_
 have HB := HB_
 clear vA_ vB_ HB_
 obtain ⟨a0_, a1_, a2_, a3_, a4_, a5_, a6_, a7_, a8_, a9_⟩ := vA.l10
 obtain ⟨b0_, b1_, b2_, b3_, b4_, b5_, b6_, b7_, b8_, b9_⟩ := vB.l10
 go_wp2_with fail
 refine Calls.mono (HH2.out _) ?_
 rintro e w4 ⟨rfl, b_⟩
 have vA_ := vA.step b_
 have vB_ := vB.step b_
 have HB_ : Hid _ := HB.out.trans (b_.mono HB.out.size)
 clear vA vB HB b_ a0_ a1_ a2_ a3_ a4_ a5_ a6_ a7_ a8_ a9_ b0_ b1_ b2_ b3_ b4_ b5_ b6_ b7_ b8_ b9_
 have vA := vA_
 have vB := vB_
 have HB := HB_
 clear vA_ vB_ HB_
 obtain ⟨a0_, a1_, a2_, a3_, a4_, a5_, a6_, a7_, a8_, a9_⟩ := vA.l10
 obtain ⟨b0_, b1_, b2_, b3_, b4_, b5_, b6_, b7_, b8_, b9_⟩ := vB.l10
 go_wp2_with fail
 refine Calls.mono (eqByteS_same _ _ asn S S2 _ (HS1.out _ HB.out) (HS2_.out _ HB.out) HL2.out) ?_
 rintro e w5 ⟨rfl, b_⟩
 have vA_ := vA.step b_
 have vB_ := vB.step b_
 have HB_ : Hid _ := HB.out.trans (b_.mono HB.out.size)
 clear vA vB HB b_ a0_ a1_ a2_ a3_ a4_ a5_ a6_ a7_ a8_ a9_ b0_ b1_ b2_ b3_ b4_ b5_ b6_ b7_ b8_ b9_
 have vA := vA_
 have vB := vB_
 have HB := HB_
 clear vA_ vB_ HB_
 obtain ⟨a0_, a1_, a2_, a3_, a4_, a5_, a6_, a7_, a8_, a9_⟩ := vA.l10
 obtain ⟨b0_, b1_, b2_, b3_, b4_, b5_, b6_, b7_, b8_, b9_⟩ := vB.l10
 go_wp2
 go_ret
 exact ⟨rfl, HB.out⟩
end
section
set_option maxHeartbeats 2000000 in
theorem eqReply_same (x y : Value) (o : RpD) (S S2 : Nat → Prop) (w : World) (r : RdV w S x (ensDt o.list)) (r2 : RdV w S2 y (ensDt o.list)) (hl : szEns o.list ≤ 2097152) :
  Calls Tryz.prog 20 #[rpV o x, rpV o y] w fun q w' => q = .returned (.bool true) ∧ Below w.heap.size w w' := by
 obtain ⟨a, cap, rfl, _⟩ := RdV.sliced r
 obtain ⟨a2, cap2, rfl, _⟩ := RdV.sliced r2
 obtain ⟨kd, ⟨p, q, d⟩, vl, es⟩ := o
 have HR : Hid (∀ W, Below w.heap.size w W → _) := r.old
 have HR2 : Hid (∀ W, Below w.heap.size w W → _) := r2.old
 have HH : Hid (∀ W, _) := fun W => eqHandle_same (p, q, d) W
 have HL : Hid (szEns es ≤ 2097152) := hl
 clear r r2 hl
 dsimp only at HR HR2 ⊢
 generalize es.length = n0 at HR HR2
 go_enter Tryz.func20, Tryz.ntmps20
 go_wp2_with fail
 refine Calls.mono (HH.out _) ?_
 rintro e w2 ⟨rfl, b_⟩
 have vA : VarA w2 w.heap.size 34 #[.i kd, .i p, .i q, .bool d, .i vl, .slice a n0 cap] := VarA.step ((VarA.new w _ _).alloc _) b_
 have vB : VarA w2 (w.heap.size + 1) 34 #[.i kd, .i p, .i q, .bool d, .i vl, .slice a2 n0 cap2] := by
  have := VarA.step (VarA.new (w.alloc _) _ _) b_
  simpa using this
 have HB : Hid _ := (Below.newH2 (w := w) _ _).trans (b_.mono (by simp; omega))
 clear b_
 obtain ⟨a0_, a1_, a2_, a3_, a4_, a5_⟩ := vA.l6
 obtain ⟨b0_, b1_, b2_, b3_, b4_, b5_⟩ := vB.l6
 go_wp2_with fail
 refine Calls.mono (eqEntryS_same _ _ es S S2 _ (HR.out _ HB.out) (HR2.out _ HB.out) HL.out) ?_
 rintro e w3 ⟨rfl, b_⟩
 have vA_ := vA.step b_
 have vB_ := vB.step b_
 have HB_ : Hid _ := HB.out.trans (b_.mono HB.out.size)
 clear vA vB HB b_ a0_ a1_ a2_ a3_ a4_ a5_ b0_ b1_ b2_ b3_ b4_ b5_
 have vA := vA_
 have vB := vB_
 have HB := HB_
 clear vA_ vB_ HB_
 obtain ⟨a0_, a1_, a2_, a3_, a4_, a5_⟩ := vA.l6
 obtain ⟨b0_, b1_, b2_, b3_, b4_, b5_⟩ := vB.l6
 go_wp2
 go_ret
 exact ⟨rfl, HB.out⟩
end
end Go.Proofs.YtcicadfhfojdpaaGreat
