/- The program's WriteSector as a plain function of its arguments; it leans on the package's three errors. No condition of ours. -/
import Derived.Test.YtdpigkcdfjnpdaaDoorImplWrite
import Derived.Test.YtdpigkcdfjnpdaaDoorReads2
namespace Go.Proofs.YtdpigkcdfjnpdaaDoor
open Go.RowKit
set_option linter.unusedVariables false

/-- May this be written? -/
def writeOk (d : Dk) (p : Int) (zs : List Int) : Bool := decide (0 ≤ p) && decide (p < (d.1.length : Int)) && decide (zs.length = 32) && decide (d.2.length < 2000)
def writeD (d : Dk) (p : Int) (zs : List Int) : Dk × Bool := if okD d then (if writeOk d p zs then ((d.1, d.2 ++ [(p, zs)]), true) else (d, false)) else (([], []), false)

set_option maxHeartbeats 400000 in
theorem write_out (b n c : Nat) (xa : Option Addr) (p : Int) (a : Addr) (sl : Value) (w : World) (c0 : w.cell? ⟨b, 0, none⟩ = some (.slice xa n c)) (hg : Glob w a) (hp : p < 0 ∨ (n : Int) ≤ p) (hn : n ≤ 9223372036854775807) :
    Calls Tryd.prog 42 #[.pointer (some ⟨b, 0, none⟩), .int .i64 p, sl] w fun e w' => e = .returned (errV a) ∧ ∃ m, w' = w.drewN m := by
  have HSA : Hid _ := safeAt_out b n c xa p a w c0 hg hp hn
  clear hg hp
  go_enter Tryd.func42, Tryd.ntmps42
  go_wp2_with fail
  refine Calls.mono HSA.out ?_
  rintro e w2 ⟨rfl, m, hw2⟩
  have HW2 : Hid _ := hw2
  clear hw2
  go_wp2
  go_ret
  exact ⟨rfl, _, HW2.out⟩
set_option maxHeartbeats 400000 in
theorem write_len (b g off k n c sn sc : Nat) (x : Value) (sa : Option Addr) (a : Addr) (w : World) (c0 : w.cell? ⟨b, 0, none⟩ = some (.slice (some ⟨g, off, none⟩) n c)) (c1 : w.cell? ⟨g, off + k, none⟩ = some x) (hk : k < n) (hn : n ≤ 9223372036854775807)
    (h1 : w.cell? ⟨1, 0, none⟩ = some (errV a)) (hs : sn ≠ 32) (hsm : sn ≤ 9223372036854775807) :
    Calls Tryd.prog 42 #[.pointer (some ⟨b, 0, none⟩), .int .i64 k, .slice sa sn sc] w fun e w' => e = .returned (errV a) ∧ w' = w := by
  have HSA : Hid _ := safeAt_in b g off k n c x w c0 c1 hk hn
  have hd : ((sn : Int) == 32) = false := by simp; omega
  have h1' : w.cell? ⟨1, 0, none⟩ = some (.iface 112 (.pointer (some a))) := h1
  clear c1 h1 hs
  go_enter Tryd.func42, Tryd.ntmps42
  go_wp2_with fail
  refine Calls.mono HSA.out ?_
  rintro e w2 ⟨rfl, hw2⟩
  subst hw2
  go_wp2
  go_ret
  exact ⟨rfl, rfl⟩
set_option maxHeartbeats 400000 in
theorem write_many (b g off k n c m yc sc : Nat) (x : Value) (sa ya : Option Addr) (a : Addr) (w : World) (c0 : w.cell? ⟨b, 0, none⟩ = some (.slice (some ⟨g, off, none⟩) n c)) (c1 : w.cell? ⟨g, off + k, none⟩ = some x) (hk : k < n) (hn : n ≤ 9223372036854775807)
    (cw : w.cell? ⟨b, 1, none⟩ = some (.slice ya m yc)) (hm : 2000 ≤ m) (hmm : m ≤ 9223372036854775807) (h2 : w.cell? ⟨2, 0, none⟩ = some (errV a)) :
    Calls Tryd.prog 42 #[.pointer (some ⟨b, 0, none⟩), .int .i64 k, .slice sa 32 sc] w fun e w' => e = .returned (errV a) ∧ w' = w := by
  have HSA : Hid _ := safeAt_in b g off k n c x w c0 c1 hk hn
  have hd : decide ((2000 : Int) ≤ (m : Int)) = true := by simp; omega
  have h2' : w.cell? ⟨2, 0, none⟩ = some (.iface 112 (.pointer (some a))) := h2
  clear c1 h2 hm
  go_enter Tryd.func42, Tryd.ntmps42
  go_wp2_with fail
  refine Calls.mono HSA.out ?_
  rintro e w2 ⟨rfl, hw2⟩
  subst hw2
  go_wp2
  go_ret
  exact ⟨rfl, rfl⟩

theorem OwX.drewN {w : World} {l h : Nat} {v : Value} {zss : List (List Int)} {vs : List Value} (o : OwX w l h v zss vs) (m : Nat) : OwX (w.drewN m) l h v zss vs := o.keep (fun _ _ => rfl) (fun _ _ => rfl)
theorem OwY.drewN {w : World} {l h : Nat} {v : Value} {ws : List Wt} {xs : List Value} (o : OwY w l h v ws xs) (m : Nat) : OwY (w.drewN m) l h v ws xs := o.keep (fun _ _ => rfl)

def afterW (d : Dk) (p : Int) (zs : List Int) : List Wt := if writeOk d p zs then d.2 ++ [(p, zs)] else d.2

set_option maxHeartbeats 1000000 in
theorem write_all (b : Nat) (x y : Value) (d : Dk) (vs xs : List Value) (l h : Nat) (p : Int) (sl : Value) (zs : List Int) (l' h' : Nat) (w : World) (a a1 a2 : Addr) (hv : VarD w b x y) (o1 : OwX w l h x d.1 vs) (o2 : OwY w l h y d.2 xs) (ha : ∀ q, Blk vs q → ¬ Blk xs q)
    (hh : h ≤ w.heap.size) (hlb : l ≤ w.heap.size) (hok : okD d = true) (r : RdB w l' h' sl zs) (hh' : h' ≤ w.heap.size) (hbl : h ≤ b) (hg : Glob w a) (h1 : w.cell? ⟨1, 0, none⟩ = some (errV a1)) (h2 : w.cell? ⟨2, 0, none⟩ = some (errV a2)) :
    Calls Tryd.prog 42 #[.pointer (some ⟨b, 0, none⟩), .int .i64 p, sl] w fun e w' => ∃ ev y' xs', e = .returned ev ∧ ((ev = .nilIface ∧ writeOk d p zs = true) ∨ ((∃ a', ev = errV a') ∧ writeOk d p zs = false)) ∧ OwX w' l w'.heap.size x d.1 vs ∧ OwY w' l w'.heap.size y' (afterW d p zs) xs' ∧
      (∀ q, Blk vs q → ¬ Blk xs' q) ∧ VarD w' b x y' ∧ (∀ k, k < w.heap.size → k ≠ b → y.ownBlock ≠ some k → w'.heap[k]? = w.heap[k]?) ∧ (w'.os = w.os ∧ w'.tape = w.tape ∧ w'.output = w.output ∧ w.heap.size ≤ w'.heap.size) := by
  have hok' := hok
  unfold okD at hok'
  simp only [Bool.and_eq_true, decide_eq_true_eq] at hok'
  obtain ⟨⟨⟨hn2, hm2⟩, _⟩, _⟩ := hok'
  have same : ∀ m, (∃ a', (errV a') = errV a') → writeOk d p zs = false → ∀ (ev : Value) (a' : Addr), ev = errV a' → ∃ ev' y' xs', Ending.returned ev = .returned ev' ∧ ((ev' = .nilIface ∧ writeOk d p zs = true) ∨ ((∃ a', ev' = errV a') ∧ writeOk d p zs = false)) ∧ OwX (w.drewN m) l (w.drewN m).heap.size x d.1 vs ∧ OwY (w.drewN m) l (w.drewN m).heap.size y' (afterW d p zs) xs' ∧
      (∀ q, Blk vs q → ¬ Blk xs' q) ∧ VarD (w.drewN m) b x y' ∧ (∀ k, k < w.heap.size → k ≠ b → y.ownBlock ≠ some k → (w.drewN m).heap[k]? = w.heap[k]?) ∧ ((w.drewN m).os = w.os ∧ (w.drewN m).tape = w.tape ∧ (w.drewN m).output = w.output ∧ w.heap.size ≤ (w.drewN m).heap.size) := fun m _ hf ev a' hev => by
    refine ⟨ev, y, xs, rfl, .inr ⟨⟨a', hev⟩, hf⟩, (o1.drewN m).wide (Nat.le_refl _) hh, ?_, ha, hv, fun _ _ _ _ => rfl, rfl, rfl, rfl, Nat.le_refl _⟩
    have e : afterW d p zs = d.2 := by unfold afterW; rw [hf]; rfl
    rw [e]
    exact (o2.drewN m).wide (Nat.le_refl _) hh
  obtain ⟨xa, n, xc, us, hxe, hnx, _, hcx, _⟩ := o1.bb.rd
  obtain ⟨sa, sn, sc, hse⟩ := r.sliced
  have hsl : sn = zs.length ∧ sn ≤ 9223372036854775807 := by obtain ⟨_, a', n', c', he', hl', hd', _⟩ := r; rw [hse] at he'; simp only [Value.slice.injEq] at he'; obtain ⟨_, rfl, rfl⟩ := he'; exact ⟨hl', by have h3 := hd'.1; have h4 := hd'.2.1; unfold maxLen at h4; omega⟩
  by_cases hin : 0 ≤ p ∧ p < (d.1.length : Int)
  · obtain ⟨q, rfl⟩ : ∃ q : Nat, p = (q : Int) := ⟨p.toNat, by omega⟩
    have hqn : q < n := by omega
    obtain ⟨gx, ox, hxa, _, _, hcc⟩ := hcx.resolve_left (by omega)
    have c0 := hv.c0
    rw [hxe, hxa] at c0
    by_cases h32 : zs.length = 32
    · by_cases hfull : d.2.length < 2000
      · have hw : writeOk d q zs = true := by unfold writeOk; simp [h32, hfull]; omega
        have ea : afterW d q zs = d.2 ++ [((q : Int), zs)] := by unfold afterW; rw [hw]; rfl
        have hyr := o2
        obtain ⟨C, _, hyo, hyb, _⟩ := hyr
        refine (write_in b q x y d vs xs l h sl zs l' h' w hv o1 o2 ha hh hlb r hh' (by omega) hn2 hfull h32 (fun k hk => by have := hyb k hk; omega) (.inr hbl)).mono ?_
        rintro e w' ⟨he, y', xs', p1, p2, p3, p4, p5, p6⟩
        exact ⟨_, y', xs', he, .inl ⟨rfl, hw⟩, p1, by rw [ea]; exact p2, p3, p4, p5, p6⟩
      · have hw : writeOk d q zs = false := by unfold writeOk; simp [hfull]
        obtain ⟨ya, m, yc, us2, hye, hmx, hyd, _⟩ := o2.ww.rd
        have c1 := hv.c1
        rw [hye] at c1
        have hsn : sn = 32 := by omega
        subst hsn
        rw [hse]
        refine (write_many b gx ox q n xc m yc sc (us q) sa ya a2 w c0 (hcc q hqn) hqn (by omega) c1 (by omega) (by have h3 := hyd.1; have h4 := hyd.2.1; unfold maxLen at h4; omega) h2).mono ?_
        rintro e w' ⟨he, hw'⟩
        rw [he, hw']
        exact same 0 ⟨a, rfl⟩ hw _ a2 rfl
    · have hw : writeOk d q zs = false := by unfold writeOk; simp [h32]
      rw [hse]
      refine (write_len b gx ox q n xc sn sc (us q) sa a1 w c0 (hcc q hqn) hqn (by omega) h1 (by omega) hsl.2).mono ?_
      rintro e w' ⟨he, hw'⟩
      rw [he, hw']
      exact same 0 ⟨a, rfl⟩ hw _ a1 rfl
  · have hw : writeOk d p zs = false := by
      unfold writeOk
      by_cases h0 : 0 ≤ p
      · have : ¬ p < (d.1.length : Int) := fun h => hin ⟨h0, h⟩
        simp [this]
      · simp [h0]
    have c0 := hv.c0
    rw [hxe] at c0
    refine (write_out b n xc xa p a sl w c0 hg (by omega) (by omega)).mono ?_
    rintro e w' ⟨he, m, hw'⟩
    rw [he, hw']
    exact same m ⟨a, rfl⟩ hw _ a rfl
end Go.Proofs.YtdpigkcdfjnpdaaDoor
