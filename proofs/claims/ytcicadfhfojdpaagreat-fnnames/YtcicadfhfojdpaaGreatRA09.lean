/- What the walks of FnTrees and FnNames share: the variables of the drawn tree, operation and handle, and of what was done; no condition. -/
import Derived.Test.YtcicadfhfojdpaaGreatRDD1
import Derived.Test.YtcicadfhfojdpaaGreatRA02
import Derived.Test.YtcicadfhfojdpaaGreatRTP5
import Derived.Test.YtcicadfhfojdpaaGreatRA07
import Derived.Test.YtcicadfhfojdpaaGreatRImplT10
import Derived.Test.YtcicadfhfojdpaaGreatRA05
import Derived.Test.YtcicadfhfojdpaaGreatRA01
import Derived.WalkKit
import Derived.ProofKit
import Derived.OpenShut
import Derived.ShutString
import Derived.ChangeOld
import Derived.Below
namespace Go.Proofs.YtcicadfhfojdpaaGreat
open Go.RowKit
set_option linter.unusedVariables false

theorem hide {P : Prop} (h : P) : Hid P := h
theorem es_len {l : List Nd} (h : treeOk l = true) (i : Nat) (hi : i < l.length) : (l[i]?.getD nd0).es.length ≤ 1048576 := Nat.le_trans (es_ok (nodeT_parts (treeOk_at h hi)).1).1 (by decide)
theorem sliced_len {w : World} {S : Nat → Prop} {a : Option Addr} {n c : Nat} {l : List Nd} (r : RdV w S (.slice a n c) (ndsDt l)) : n = l.length := by
 obtain ⟨a', cap, e, _⟩ := RdV.sliced r
 injection e
structure F3 (w1 W : World) (x : Value) (O F : Array Value) : Prop where
 t : VarA W w1.heap.size 25 #[x]
 o : VarA W (w1.heap.size + 1) 29 O
 f : VarA W (w1.heap.size + 2) 27 F
 b : Below w1.heap.size w1 W
theorem F3.new (w1 : World) (x : Value) (O F : Array Value) : F3 w1 (((w1.alloc (.cells #[x] 25)).alloc (.cells O 29)).alloc (.cells F 27)) x O F :=
 ⟨((VarA.new w1 _ _).alloc _).alloc _, by have := (VarA.new (w1.alloc (.cells #[x] 25)) 29 O).alloc (.cells F 27); simpa using this, by have := VarA.new ((w1.alloc (.cells #[x] 25)).alloc (.cells O 29)) 27 F; simpa using this, (((Below.refl _ _).alloc (Nat.le_refl _) _).alloc (by simp) _).alloc (by simp; omega) _⟩
theorem F3.step {w1 W W' : World} {x : Value} {O F : Array Value} (h : F3 w1 W x O F) (b : Below W.heap.size W W') : F3 w1 W' x O F := ⟨h.t.step b, h.o.step b, h.f.step b, h.b.trans (b.mono h.b.size)⟩
theorem F3.two {w1 W W' : World} {x : Value} {O F : Array Value} (h : F3 w1 W x O F) {a c : Obj} (b : Below ((W.alloc a).alloc c).heap.size ((W.alloc a).alloc c) W') : F3 w1 W' x O F := (h.step (Below.newH2 _ _)).step b
theorem F3.b2 {w1 W : World} {x : Value} {O F : Array Value} (h : F3 w1 W x O F) {a c : Obj} : Below w1.heap.size w1 ((W.alloc a).alloc c) := (h.step (Below.newH2 _ _)).b
structure F2 (w3 W : World) (x : Value) (R : Array Value) : Prop where
 x : VarA W w3.heap.size 25 #[x]
 r : VarA W (w3.heap.size + 1) 34 R
 b : Below w3.heap.size w3 W
theorem F2.new {w3 W : World} {x : Value} {R : Array Value} (b : Below ((w3.alloc (.cells #[x] 25)).alloc (.cells R 34)).heap.size ((w3.alloc (.cells #[x] 25)).alloc (.cells R 34)) W) : F2 w3 W x R :=
 ⟨((VarA.new w3 _ _).alloc _).step b, by have h := (VarA.new (w3.alloc (.cells #[x] 25)) 34 R).step b; simpa using h, (Below.newH2 _ _).trans (b.mono (by simp; omega))⟩
theorem F2.step {w3 W W' : World} {x : Value} {R : Array Value} (h : F2 w3 W x R) (b : Below W.heap.size W W') : F2 w3 W' x R := ⟨h.x.step b, h.r.step b, h.b.trans (b.mono h.b.size)⟩
theorem F2.two {w3 W W' : World} {x : Value} {R : Array Value} (h : F2 w3 W x R) {a c : Obj} (b : Below ((W.alloc a).alloc c).heap.size ((W.alloc a).alloc c) W') : F2 w3 W' x R := (h.step (Below.newH2 _ _)).step b
theorem F2.b2 {w3 W : World} {x : Value} {R : Array Value} (h : F2 w3 W x R) {a c : Obj} : Below w3.heap.size w3 ((W.alloc a).alloc c) := (h.step (Below.newH2 _ _)).b
end Go.Proofs.YtcicadfhfojdpaaGreat
