/-
 Several of my texts in one: FrN, FrK, FrP, ShF.
-/
import Derived.Test.YtjjfomokecngoaaGreatDoorGb
import Derived.Test.YtjjfomokecngoaaGreatDoorGc
import Derived.Deep.DeepCutAuto
namespace Go.Proofs.YtjjfomokecngoaaGreatDoor
section
open Go.RowKit
set_option linter.unusedSimpArgs false
set_option linter.unusedVariables false

theorem pkGe0 {P : Prop} (h : P := by repeat (first | assumption | exact Below.refl _ _ | refine Below.setCell ?_ (by first | omega | (simp <;> omega)) _ | refine Below.alloc ?_ (by first | omega | (simp <;> omega)) _ | refine bstep ?_ (by assumption) | refine Below.drew ?_)) : P := h
theorem pkGe1 {P : Prop} (h : P := by repeat (first | exact Below.refl _ _ | refine Below.setCell ?_ (by first | omega | (simp <;> omega)) _ | refine Below.alloc ?_ (by first | omega | (simp <;> omega)) _ | refine bstep ?_ (by assumption) | refine Below.drew ?_)) : P := h
theorem pkGe2 {P : Prop} (h : P := by repeat (first | assumption | with_reducible refine Kq.alloc ?_ _ | with_reducible refine Kq.drew ?_ | with_reducible refine Kq.call ?_ (by assumption))) : P := h
theorem pkGe3 {P : Prop} (h : P := by repeat (first | assumption | with_reducible refine Kg.alloc ?_ _ | with_reducible refine Kg.drew ?_ | with_reducible refine Kg.call ?_ (by assumption))) : P := h
def planeT (f : Int) : TypeId := if f = 0 then 179 else 180
def normF (f : Int) : Nat := if f = 0 then 324 else 325
theorem planeT_0 : planeT 0 = 179 := rfl
theorem planeT_1 : planeT 1 = 180 := rfl
theorem normF_0 : normF 0 = 324 := rfl
theorem normF_1 : normF 1 = 325 := rfl
theorem mid_mul {a b : Int} (ha : midI a) (hb : midI b) : -1000000000000 ≤ a * b ∧ a * b ≤ 1000000000000 := by
 have h1 : a.natAbs ≤ 1000000 := by unfold midI at ha; omega
 have h2 : b.natAbs ≤ 1000000 := by unfold midI at hb; omega
 have h3 : (a * b).natAbs ≤ 1000000 * 1000000 := by
  rw [Int.natAbs_mul]; exact Nat.mul_le_mul h1 h2
 omega
theorem nrm_big {f x y : Int} (hf : frB f = true) (hx : midI x) (hy : midI y) : 0 ≤ nrmI f x y ∧ nrmI f x y ≤ 3000000000000 := by
 refine ⟨nrm_nn hf x y, ?_⟩
 have h1 := mid_mul hx hx
 have h2 := mid_mul hy hy
 have h3 := mid_mul hx hy
 rcases frB_iff.1 hf with rfl | rfl <;> (unfold nrmI; omega)

set_option maxHeartbeats 1000000 in
theorem norm0_any (x y : Int) (w : World) (hx : midI x) (hy : midI y) :
  Calls Tryz.prog 324 #[.agg #[], .agg #[.int .i64 x, .int .i64 y]] w fun e w' => e = .returned (.int .i64 (nrmI 0 x y)) ∧ Below w.heap.size w w' := by
 obtain ⟨b1, b2⟩ := mid_mul hx hx
 obtain ⟨b3, b4⟩ := mid_mul hy hy
 clear hx hy
 go_enter Tryz.func324, Tryz.ntmps324
 go_wp2
 go_ret
 refine ⟨ret_int (by simp [nrmI]), ?_⟩
 exact pkGe1
set_option maxHeartbeats 1000000 in
theorem norm1_any (x y : Int) (w : World) (hx : midI x) (hy : midI y) :
  Calls Tryz.prog 325 #[.agg #[], .agg #[.int .i64 x, .int .i64 y]] w fun e w' => e = .returned (.int .i64 (nrmI 1 x y)) ∧ Below w.heap.size w w' := by
 obtain ⟨b1, b2⟩ := mid_mul hx hx
 obtain ⟨b3, b4⟩ := mid_mul hy hy
 obtain ⟨b5, b6⟩ := mid_mul hx hy
 clear hx hy
 go_enter Tryz.func325, Tryz.ntmps325
 go_wp2
 go_ret
 refine ⟨ret_int (by simp [nrmI]; omega), ?_⟩
 exact pkGe1
theorem norm_any (f x y : Int) (w : World) (hf : frB f = true) (hx : midI x) (hy : midI y) :
  Calls Tryz.prog (normF f) #[.agg #[], .agg #[.int .i64 x, .int .i64 y]] w fun e w' => e = .returned (.int .i64 (nrmI f x y)) ∧ Below w.heap.size w w' := by
 rcases frB_iff.1 hf with rfl | rfl
 ·rw [normF_0]; exact norm0_any x y w hx hy
 ·rw [normF_1]; exact norm1_any x y w hx hy
set_option maxHeartbeats 1000000 in
theorem l04Norm_any (f x y : Int) (w : World) (hf : frB f = true) (hx : midI x) (hy : midI y) :
  Calls Tryz.prog 145 #[.int .i64 f, .agg #[.int .i64 x, .int .i64 y]] w fun e w' => e = .returned (.int .i64 (nrmI f x y)) ∧ Below w.heap.size w w' := by
 obtain ⟨b1, b2⟩ := mid_mul hx hx
 obtain ⟨b3, b4⟩ := mid_mul hy hy
 obtain ⟨b5, b6⟩ := mid_mul hx hy
 clear hx hy
 rcases frB_iff.1 hf with rfl | rfl
 ·go_enter Tryz.func145, Tryz.ntmps145
  go_wp2
  go_ret
  refine ⟨ret_int (by simp [nrmI]), ?_⟩
  exact pkGe1
 ·go_enter Tryz.func145, Tryz.ntmps145
  go_wp2
  go_ret
  refine ⟨ret_int (by simp [nrmI]), ?_⟩
  exact pkGe1

set_option maxHeartbeats 1000000 in
theorem planeOf_yes (f : Int) (w : World) (h : frB f = true) :
  Calls Tryz.prog 66 #[.int .i64 f] w fun e w' => e = .returned (.tuple #[.iface (planeT f) (.agg #[]), .bool true]) ∧ Below w.heap.size w w' := by
 rcases frB_iff.1 h with rfl | rfl
 ·go_enter Tryz.func66, Tryz.ntmps66
  go_wp2
  go_ret2
  refine ⟨rfl, ?_⟩
  repeat (first | exact Below.refl _ _ | refine Below.alloc ?_ (by first | omega | (simp <;> omega)) _)
 ·go_enter Tryz.func66, Tryz.ntmps66
  go_wp2
  go_ret2
  refine ⟨rfl, ?_⟩
  repeat (first | exact Below.refl _ _ | refine Below.alloc ?_ (by first | omega | (simp <;> omega)) _)
set_option maxHeartbeats 1000000 in
theorem planeOf_no (f : Int) (w : World) (h : frB f = false) :
  Calls Tryz.prog 66 #[.int .i64 f] w fun e w' => e = .returned (.tuple #[.nilIface, .bool false]) ∧ Below w.heap.size w w' := by
 obtain ⟨h0, h1⟩ := frB_not.1 h
 have g0 : (f == 0) = false := by simpa using h0
 have g1 : (f == 1) = false := by simpa using h1
 go_enter Tryz.func66, Tryz.ntmps66
 go_wp2
 go_ret2
 exact ⟨rfl, Below.refl _ _⟩
set_option maxHeartbeats 1000000 in
theorem implIsFrame_any (f : Int) (w : World) :
  Calls Tryz.prog 133 #[.int .i64 f] w fun e w' => e = .returned (.bool (frB f)) ∧ Below w.heap.size w w' := by
 rcases h : frB f with _ | _
 ·go_enter Tryz.func133, Tryz.ntmps133
  go_wp2_with fail
  refine (planeOf_no f _ h).mono ?_
  rintro e w1 ⟨rfl, hb1⟩
  go_wp2
  go_ret
  exact ⟨rfl, hb1⟩
 ·go_enter Tryz.func133, Tryz.ntmps133
  go_wp2_with fail
  refine (planeOf_yes f _ h).mono ?_
  rintro e w1 ⟨rfl, hb1⟩
  go_wp2
  go_ret
  exact ⟨rfl, hb1⟩
/- norms -/
theorem meth_f {f : Int} (hf : frB f = true) : ∀ w, (method 456 (planeT f) (.agg #[]) "loop.example/g00943/impl.norm").run Tryz.prog w = .ok (normF f, .agg #[]) w := by
 rcases frB_iff.1 hf with rfl | rfl
 ·intro w; rw [planeT_0, normF_0]; kernel_rfl
 ·intro w; rw [planeT_1, normF_1]; kernel_rfl
theorem ent_f {f : Int} (hf : frB f = true) : ∀ args w, (callFunc (normF f) args).run Tryz.prog w = .ok (.enter (normF f) args) w := by
 -- Tryz.func324 has a body
 rcases frB_iff.1 hf with rfl | rfl
 ·intro args w; rw [normF_0]; kernel_rfl
 ·intro args w; rw [normF_1]; kernel_rfl
end
end Go.Proofs.YtjjfomokecngoaaGreatDoor

namespace Go.Proofs.YtjjfomokecngoaaGreatDoor
section
open Go.RowKit
set_option linter.unusedSimpArgs false
set_option linter.unusedVariables false

theorem ahead_f {f : Int} (hf : frB f = true) : ∀ w, (nilAhead 456 (planeT f) (.agg #[]) "loop.example/g00943/impl.norm").run Tryz.prog w = .ok (some false) w := by
 rcases frB_iff.1 hf with rfl | rfl
 ·intro w; rw [planeT_0]; kernel_rfl
 ·intro w; rw [planeT_1]; kernel_rfl
def keepB (f a b c d : Int) : Bool := nrmI f a c == 1 && (nrmI f b d == 1 && nrmI f (a + b) (c + d) == 2 + f)
theorem lim_mid {a b c d : Int} (h : limB a b c d = true) : (midI a ∧ midI b ∧ midI c ∧ midI d) ∧ (midI (a + b) ∧ midI (c + d)) := by
 have := limB_bd h
 unfold midI; omega
theorem nrm_10 (f : Int) : nrmI f 1 0 = 1 := by simp [nrmI]
theorem nrm_01 (f : Int) : nrmI f 0 1 = 1 := by simp [nrmI]
theorem nrm_11 (f : Int) : nrmI f 1 1 = 2 + f := by unfold nrmI; omega
theorem app10 (a b c d : Int) (w : World) (h : limB a b c d = true) :
  Calls Tryz.prog 107 #[.agg #[.int .i64 a, .int .i64 b, .int .i64 c, .int .i64 d], .agg #[.int .i64 1, .int .i64 0]] w fun e w' => e = .returned (.agg #[.int .i64 a, .int .i64 c]) ∧ Below w.heap.size w w' := by
 have := apply_any a b c d 1 0 w h (by decide)
 simpa using this
theorem norm10 (f : Int) (w : World) (hf : frB f = true) :
  Calls Tryz.prog (normF f) #[.agg #[], .agg #[.int .i64 1, .int .i64 0]] w fun e w' => e = .returned (.int .i64 (1)) ∧ Below w.heap.size w w' := by
 have := norm_any f 1 0 w hf (by unfold midI; omega) (by unfold midI; omega)
 rwa [nrm_10] at this
theorem app01 (a b c d : Int) (w : World) (h : limB a b c d = true) :
  Calls Tryz.prog 107 #[.agg #[.int .i64 a, .int .i64 b, .int .i64 c, .int .i64 d], .agg #[.int .i64 0, .int .i64 1]] w fun e w' => e = .returned (.agg #[.int .i64 b, .int .i64 d]) ∧ Below w.heap.size w w' := by
 have := apply_any a b c d 0 1 w h (by decide)
 simpa using this
theorem norm01 (f : Int) (w : World) (hf : frB f = true) :
  Calls Tryz.prog (normF f) #[.agg #[], .agg #[.int .i64 0, .int .i64 1]] w fun e w' => e = .returned (.int .i64 (1)) ∧ Below w.heap.size w w' := by
 have := norm_any f 0 1 w hf (by unfold midI; omega) (by unfold midI; omega)
 rwa [nrm_01] at this
theorem app11 (a b c d : Int) (w : World) (h : limB a b c d = true) :
  Calls Tryz.prog 107 #[.agg #[.int .i64 a, .int .i64 b, .int .i64 c, .int .i64 d], .agg #[.int .i64 1, .int .i64 1]] w fun e w' => e = .returned (.agg #[.int .i64 (a + b), .int .i64 (c + d)]) ∧ Below w.heap.size w w' := by
 have := apply_any a b c d 1 1 w h (by decide)
 simpa using this
theorem norm11 (f : Int) (w : World) (hf : frB f = true) :
  Calls Tryz.prog (normF f) #[.agg #[], .agg #[.int .i64 1, .int .i64 1]] w fun e w' => e = .returned (.int .i64 (2 + f)) ∧ Below w.heap.size w w' := by
 have := norm_any f 1 1 w hf (by unfold midI; omega) (by unfold midI; omega)
 rwa [nrm_11] at this
def KeepAt (f a b c d k : Int) : Prop :=
 k = 0 ∨ (k = 1 ∧ (nrmI f a c == 1) = true) ∨ (k = 2 ∧ (nrmI f a c == 1) = true ∧ (nrmI f b d == 1) = true) ∨ (k = 3 ∧ keepB f a b c d = true)
set_option maxHeartbeats 4000000 in
theorem keeps_any (f a b c d : Int) (w : World) (hf : frB f = true) (h : limB a b c d = true) :
  Calls Tryz.prog 250 #[.iface (planeT f) (.agg #[]), .agg #[.int .i64 a, .int .i64 b, .int .i64 c, .int .i64 d]] w fun e w' => e = .returned (.bool (keepB f a b c d)) ∧ Below w.heap.size w w' := by
 have hm := meth_f hf
 have he := ent_f hf
 have hah := ahead_f hf
 have HL := Lib.hid (lim_mid h)
 have hf01 : f = 0 ∨ f = 1 := frB_iff.1 hf
 go_enter Tryz.func250, Tryz.ntmps250
 go_wp2_with fail
 go_loopw [11] (fun i W => ∃ k : Int, i = .int .i64 k ∧ Hid (KeepAt f a b c d k) ∧ Kq w.heap.size a b c d W ∧ Below w.heap.size w W) (fun i _ => (3 - intOf i).toNat)
 case atStart => exact ⟨0, rfl, .inl rfl, Kq.at _ rfl, (Below.refl _ _).alloc (Nat.le_refl _) _⟩
 case round =>
  obtain ⟨k, rfl, hk, hK, hB⟩ := hrel
  have hz := hB.size
  have zk := hK.1
  rcases hk.out with rfl | ⟨rfl, h0⟩ | ⟨rfl, h0, h1⟩ | ⟨rfl, h0⟩
  ·clear hk
   have ix : ∀ w : World, (Instr.index 300 (.agg #[.int .i64 1, .int .i64 0, .int .i64 0, .int .i64 1, .int .i64 1, .int .i64 1]) (.int .i64 0)).run Tryz.prog w = .ok (.agg #[.int .i64 1, .int .i64 0]) w := fun _ => by kernel_rfl
   have K1 : Kq w.heap.size a b c d (wr.alloc (.cells #[.int .i64 1, .int .i64 0] 63)) := hK.alloc _
   have V1 : Kg wr.heap.size 1 0 (wr.alloc (.cells #[.int .i64 1, .int .i64 0] 63)) := Kg.at2 _ rfl
   have B1 : Below w.heap.size w (wr.alloc (.cells #[.int .i64 1, .int .i64 0] 63)) := hB.alloc hz _
   clear hK hB
   have HX : ∀ hx : Bool, (nrmI f a c == 1) = hx → (nrmI f a c != 1) = !hx := by rintro hx rfl; rfl
   rcases hx : (nrmI f a c == 1) with _ | _
   ·have hq := HX _ hx
    have HX1 := Lib.hid hx
    clear hx HX
    simp only [Bool.not_false, Bool.not_true] at hq
    go_wp2_with fail
    go_region_held3 (fun W => (W.cell? ⟨w.heap.size, 0, none⟩ = some (.int .i64 a) ∧ W.cell? ⟨w.heap.size, 1, none⟩ = some (.int .i64 b) ∧ W.cell? ⟨w.heap.size, 2, none⟩ = some (.int .i64 c) ∧ W.cell? ⟨w.heap.size, 3, none⟩ = some (.int .i64 d)) ∧ (W.cell? ⟨wr.heap.size, 0, none⟩ = some (.int .i64 1) ∧ W.cell? ⟨wr.heap.size, 1, none⟩ = some (.int .i64 0))) ((refine ⟨Kq.cells ?_, Kg.cells ?_⟩; (exact pkGe2); (exact pkGe3)))
     (first
      | (go_at_call 107; refine (app10 a b c d _ h).mono ?_; rintro e u1 ⟨rfl, hb1⟩; have K2 : Kq w.heap.size a b c d u1 := (by exact pkGe2); have V2 : Kg wr.heap.size 1 0 u1 := (by exact pkGe3); have B2 : Below w.heap.size w u1 := (by exact pkGe0))
      | (with_reducible refine (norm10 f _ hf).mono ?_; rintro e u3 ⟨rfl, hb3⟩; have K4 : Kq w.heap.size a b c d u3 := (by exact pkGe2); have V4 : Kg wr.heap.size 1 0 u3 := (by exact pkGe3); have B4 : Below w.heap.size w u3 := (by exact pkGe0))
      | (with_reducible refine (norm_any f _ _ _ hf (HL.out.1.1) (HL.out.1.2.2.1)).mono ?_; rintro e u2 ⟨rfl, hb2⟩; have K3 : Kq w.heap.size a b c d u2 := (by exact pkGe2); have V3 : Kg wr.heap.size 1 0 u2 := (by exact pkGe3); have B3 : Below w.heap.size w u2 := (by exact pkGe0)))
    all_goals
     have hx := HX1.out
     go_wp2
     go_ret
     refine ⟨ret_bool (Eq.symm (show keepB f a b c d = false by simp [keepB, hx])), ?_⟩
     exact pkGe0
   ·have hq := HX _ hx
    have HX1 := Lib.hid hx
    clear hx HX
    simp only [Bool.not_false, Bool.not_true] at hq
    go_wp2_with fail
    go_region_held3 (fun W => (W.cell? ⟨w.heap.size, 0, none⟩ = some (.int .i64 a) ∧ W.cell? ⟨w.heap.size, 1, none⟩ = some (.int .i64 b) ∧ W.cell? ⟨w.heap.size, 2, none⟩ = some (.int .i64 c) ∧ W.cell? ⟨w.heap.size, 3, none⟩ = some (.int .i64 d)) ∧ (W.cell? ⟨wr.heap.size, 0, none⟩ = some (.int .i64 1) ∧ W.cell? ⟨wr.heap.size, 1, none⟩ = some (.int .i64 0))) ((refine ⟨Kq.cells ?_, Kg.cells ?_⟩; (exact pkGe2); (exact pkGe3)))
     (first
      | (go_at_call 107; refine (app10 a b c d _ h).mono ?_; rintro e u1 ⟨rfl, hb1⟩; have K2 : Kq w.heap.size a b c d u1 := (by exact pkGe2); have V2 : Kg wr.heap.size 1 0 u1 := (by exact pkGe3); have B2 : Below w.heap.size w u1 := (by exact pkGe0))
      | (with_reducible refine (norm10 f _ hf).mono ?_; rintro e u3 ⟨rfl, hb3⟩; have K4 : Kq w.heap.size a b c d u3 := (by exact pkGe2); have V4 : Kg wr.heap.size 1 0 u3 := (by exact pkGe3); have B4 : Below w.heap.size w u3 := (by exact pkGe0))
      | (with_reducible refine (norm_any f _ _ _ hf (HL.out.1.1) (HL.out.1.2.2.1)).mono ?_; rintro e u2 ⟨rfl, hb2⟩; have K3 : Kq w.heap.size a b c d u2 := (by exact pkGe2); have V3 : Kg wr.heap.size 1 0 u2 := (by exact pkGe3); have B3 : Below w.heap.size w u2 := (by exact pkGe0)))
    all_goals
     have hx := HX1.out
     go_wp2
     go_roundw
     case rel => exact ⟨1, rfl, .inr (.inl ⟨rfl, hx⟩), by assumption, by assumption⟩
     case measure => simp [intOf]
  ·clear hk
   have ix : ∀ w : World, (Instr.index 300 (.agg #[.int .i64 1, .int .i64 0, .int .i64 0, .int .i64 1, .int .i64 1, .int .i64 1]) (.int .i64 1)).run Tryz.prog w = .ok (.agg #[.int .i64 0, .int .i64 1]) w := fun _ => by kernel_rfl
   have K1 : Kq w.heap.size a b c d (wr.alloc (.cells #[.int .i64 0, .int .i64 1] 63)) := hK.alloc _
   have V1 : Kg wr.heap.size 0 1 (wr.alloc (.cells #[.int .i64 0, .int .i64 1] 63)) := Kg.at2 _ rfl
   have B1 : Below w.heap.size w (wr.alloc (.cells #[.int .i64 0, .int .i64 1] 63)) := hB.alloc hz _
   clear hK hB
   have HX : ∀ hx : Bool, (nrmI f b d == 1) = hx → (nrmI f b d != 1) = !hx := by rintro hx rfl; rfl
   rcases hx : (nrmI f b d == 1) with _ | _
   ·have hq := HX _ hx
    have HX1 := Lib.hid hx
    clear hx HX
    simp only [Bool.not_false, Bool.not_true] at hq
    go_wp2_with fail
    go_region_held3 (fun W => (W.cell? ⟨w.heap.size, 0, none⟩ = some (.int .i64 a) ∧ W.cell? ⟨w.heap.size, 1, none⟩ = some (.int .i64 b) ∧ W.cell? ⟨w.heap.size, 2, none⟩ = some (.int .i64 c) ∧ W.cell? ⟨w.heap.size, 3, none⟩ = some (.int .i64 d)) ∧ (W.cell? ⟨wr.heap.size, 0, none⟩ = some (.int .i64 0) ∧ W.cell? ⟨wr.heap.size, 1, none⟩ = some (.int .i64 1))) ((refine ⟨Kq.cells ?_, Kg.cells ?_⟩; (exact pkGe2); (exact pkGe3)))
     (first
      | (go_at_call 107; refine (app01 a b c d _ h).mono ?_; rintro e u1 ⟨rfl, hb1⟩; have K2 : Kq w.heap.size a b c d u1 := (by exact pkGe2); have V2 : Kg wr.heap.size 0 1 u1 := (by exact pkGe3); have B2 : Below w.heap.size w u1 := (by exact pkGe0))
      | (with_reducible refine (norm01 f _ hf).mono ?_; rintro e u3 ⟨rfl, hb3⟩; have K4 : Kq w.heap.size a b c d u3 := (by exact pkGe2); have V4 : Kg wr.heap.size 0 1 u3 := (by exact pkGe3); have B4 : Below w.heap.size w u3 := (by exact pkGe0))
      | (with_reducible refine (norm_any f _ _ _ hf (HL.out.1.2.1) (HL.out.1.2.2.2)).mono ?_; rintro e u2 ⟨rfl, hb2⟩; have K3 : Kq w.heap.size a b c d u2 := (by exact pkGe2); have V3 : Kg wr.heap.size 0 1 u2 := (by exact pkGe3); have B3 : Below w.heap.size w u2 := (by exact pkGe0)))
    all_goals
     have hx := HX1.out
     go_wp2
     go_ret
     refine ⟨ret_bool (Eq.symm (show keepB f a b c d = false by simp [keepB, hx])), ?_⟩
     exact pkGe0
   ·have hq := HX _ hx
    have HX1 := Lib.hid hx
    clear hx HX
    simp only [Bool.not_false, Bool.not_true] at hq
    go_wp2_with fail
    go_region_held3 (fun W => (W.cell? ⟨w.heap.size, 0, none⟩ = some (.int .i64 a) ∧ W.cell? ⟨w.heap.size, 1, none⟩ = some (.int .i64 b) ∧ W.cell? ⟨w.heap.size, 2, none⟩ = some (.int .i64 c) ∧ W.cell? ⟨w.heap.size, 3, none⟩ = some (.int .i64 d)) ∧ (W.cell? ⟨wr.heap.size, 0, none⟩ = some (.int .i64 0) ∧ W.cell? ⟨wr.heap.size, 1, none⟩ = some (.int .i64 1))) ((refine ⟨Kq.cells ?_, Kg.cells ?_⟩; (exact pkGe2); (exact pkGe3)))
     (first
      | (go_at_call 107; refine (app01 a b c d _ h).mono ?_; rintro e u1 ⟨rfl, hb1⟩; have K2 : Kq w.heap.size a b c d u1 := (by exact pkGe2); have V2 : Kg wr.heap.size 0 1 u1 := (by exact pkGe3); have B2 : Below w.heap.size w u1 := (by exact pkGe0))
      | (with_reducible refine (norm01 f _ hf).mono ?_; rintro e u3 ⟨rfl, hb3⟩; have K4 : Kq w.heap.size a b c d u3 := (by exact pkGe2); have V4 : Kg wr.heap.size 0 1 u3 := (by exact pkGe3); have B4 : Below w.heap.size w u3 := (by exact pkGe0))
      | (with_reducible refine (norm_any f _ _ _ hf (HL.out.1.2.1) (HL.out.1.2.2.2)).mono ?_; rintro e u2 ⟨rfl, hb2⟩; have K3 : Kq w.heap.size a b c d u2 := (by exact pkGe2); have V3 : Kg wr.heap.size 0 1 u2 := (by exact pkGe3); have B3 : Below w.heap.size w u2 := (by exact pkGe0)))
    all_goals
     have hx := HX1.out
     go_wp2
     go_roundw
     case rel => exact ⟨2, rfl, .inr (.inr (.inl ⟨rfl, h0, hx⟩)), by assumption, by assumption⟩
     case measure => simp [intOf]
  ·clear hk
   have ix : ∀ w : World, (Instr.index 300 (.agg #[.int .i64 1, .int .i64 0, .int .i64 0, .int .i64 1, .int .i64 1, .int .i64 1]) (.int .i64 2)).run Tryz.prog w = .ok (.agg #[.int .i64 1, .int .i64 1]) w := fun _ => by kernel_rfl
   have K1 : Kq w.heap.size a b c d (wr.alloc (.cells #[.int .i64 1, .int .i64 1] 63)) := hK.alloc _
   have V1 : Kg wr.heap.size 1 1 (wr.alloc (.cells #[.int .i64 1, .int .i64 1] 63)) := Kg.at2 _ rfl
   have B1 : Below w.heap.size w (wr.alloc (.cells #[.int .i64 1, .int .i64 1] 63)) := hB.alloc hz _
   clear hK hB
   have HX : ∀ hx : Bool, (nrmI f (a + b) (c + d) == 2 + f) = hx → (nrmI f (a + b) (c + d) != 2 + f) = !hx := by rintro hx rfl; rfl
   rcases hx : (nrmI f (a + b) (c + d) == 2 + f) with _ | _
   ·have hq := HX _ hx
    have HX1 := Lib.hid hx
    clear hx HX
    simp only [Bool.not_false, Bool.not_true] at hq
    go_wp2_with fail
    go_region_held3 (fun W => (W.cell? ⟨w.heap.size, 0, none⟩ = some (.int .i64 a) ∧ W.cell? ⟨w.heap.size, 1, none⟩ = some (.int .i64 b) ∧ W.cell? ⟨w.heap.size, 2, none⟩ = some (.int .i64 c) ∧ W.cell? ⟨w.heap.size, 3, none⟩ = some (.int .i64 d)) ∧ (W.cell? ⟨wr.heap.size, 0, none⟩ = some (.int .i64 1) ∧ W.cell? ⟨wr.heap.size, 1, none⟩ = some (.int .i64 1))) ((refine ⟨Kq.cells ?_, Kg.cells ?_⟩; (exact pkGe2); (exact pkGe3)))
     (first
      | (go_at_call 107; refine (app11 a b c d _ h).mono ?_; rintro e u1 ⟨rfl, hb1⟩; have K2 : Kq w.heap.size a b c d u1 := (by exact pkGe2); have V2 : Kg wr.heap.size 1 1 u1 := (by exact pkGe3); have B2 : Below w.heap.size w u1 := (by exact pkGe0))
      | (with_reducible refine (norm11 f _ hf).mono ?_; rintro e u3 ⟨rfl, hb3⟩; have K4 : Kq w.heap.size a b c d u3 := (by exact pkGe2); have V4 : Kg wr.heap.size 1 1 u3 := (by exact pkGe3); have B4 : Below w.heap.size w u3 := (by exact pkGe0))
      | (with_reducible refine (norm_any f _ _ _ hf (HL.out.2.1) (HL.out.2.2)).mono ?_; rintro e u2 ⟨rfl, hb2⟩; have K3 : Kq w.heap.size a b c d u2 := (by exact pkGe2); have V3 : Kg wr.heap.size 1 1 u2 := (by exact pkGe3); have B3 : Below w.heap.size w u2 := (by exact pkGe0)))
    all_goals
     have hx := HX1.out
     go_wp2
     go_ret
     refine ⟨ret_bool (Eq.symm (show keepB f a b c d = false by simp only [keepB, hx, Bool.and_false])), ?_⟩
     exact pkGe0
   ·have hq := HX _ hx
    have HX1 := Lib.hid hx
    clear hx HX
    simp only [Bool.not_false, Bool.not_true] at hq
    go_wp2_with fail
    go_region_held3 (fun W => (W.cell? ⟨w.heap.size, 0, none⟩ = some (.int .i64 a) ∧ W.cell? ⟨w.heap.size, 1, none⟩ = some (.int .i64 b) ∧ W.cell? ⟨w.heap.size, 2, none⟩ = some (.int .i64 c) ∧ W.cell? ⟨w.heap.size, 3, none⟩ = some (.int .i64 d)) ∧ (W.cell? ⟨wr.heap.size, 0, none⟩ = some (.int .i64 1) ∧ W.cell? ⟨wr.heap.size, 1, none⟩ = some (.int .i64 1))) ((refine ⟨Kq.cells ?_, Kg.cells ?_⟩; (exact pkGe2); (exact pkGe3)))
     (first
      | (go_at_call 107; refine (app11 a b c d _ h).mono ?_; rintro e u1 ⟨rfl, hb1⟩; have K2 : Kq w.heap.size a b c d u1 := (by exact pkGe2); have V2 : Kg wr.heap.size 1 1 u1 := (by exact pkGe3); have B2 : Below w.heap.size w u1 := (by exact pkGe0))
      | (with_reducible refine (norm11 f _ hf).mono ?_; rintro e u3 ⟨rfl, hb3⟩; have K4 : Kq w.heap.size a b c d u3 := (by exact pkGe2); have V4 : Kg wr.heap.size 1 1 u3 := (by exact pkGe3); have B4 : Below w.heap.size w u3 := (by exact pkGe0))
      | (with_reducible refine (norm_any f _ _ _ hf (HL.out.2.1) (HL.out.2.2)).mono ?_; rintro e u2 ⟨rfl, hb2⟩; have K3 : Kq w.heap.size a b c d u2 := (by exact pkGe2); have V3 : Kg wr.heap.size 1 1 u2 := (by exact pkGe3); have B3 : Below w.heap.size w u2 := (by exact pkGe0)))
    all_goals
     have hx := HX1.out
     go_wp2
     go_roundw
     case rel => exact ⟨3, rfl, .inr (.inr (.inr ⟨rfl, by simp only [keepB, h0, h1, hx]; rfl⟩)), by assumption, by assumption⟩
     case measure => simp [intOf]
  ·have HX1 := Lib.hid h0
   clear h0 hk
   go_wp2
   go_ret
   exact ⟨ret_bool HX1.out.symm, hB⟩
end
end Go.Proofs.YtjjfomokecngoaaGreatDoor

namespace Go.Proofs.YtjjfomokecngoaaGreatDoor
section
open Go.RowKit
set_option linter.unusedSimpArgs false
set_option linter.unusedVariables false

theorem keepB_4 {f a b c d : Int} (h0 : (nrmI f a c == 1) = true) (h1 : (nrmI f b d == 1) = true) (h : (nrmI f (a + b) (c + d) == 2 + f) = true) : keepB f a b c d = true := by simp only [keepB, h0, h1, h]; rfl
/- point matrices -/
def pmB (f a b c d : Int) : Bool := frB f && matB a b c d && keepB f a b c d
end
end Go.Proofs.YtjjfomokecngoaaGreatDoor

namespace Go.Proofs.YtjjfomokecngoaaGreatDoor
section
open Go.RowKit
set_option linter.unusedVariables false
set_option linter.unusedSimpArgs false

theorem snocInd {α : Type} {motive : List α → Prop} (nil : motive []) (snoc : ∀ L v, motive L → motive (L ++ [v])) (L : List α) : motive L := by
 rw [← List.reverse_reverse L]
 induction L.reverse with
 | nil => simpa using nil
 | cons v T ih => rw [List.reverse_cons]; exact snoc _ _ ih
def nrmV (f : Int) (v : Int × Int) : Int := nrmI f v.1 v.2
/- the vectors with the least norm, collected from the left -/
def shStep (f : Int) (S : List (Int × Int)) (v : Int × Int) : List (Int × Int) :=
 match S with
 | [] => [v]
 | h :: T => if nrmV f h < nrmV f v then h :: T else if nrmV f v < nrmV f h then [v] else (h :: T) ++ [v]
def shortL (f : Int) (L : List (Int × Int)) : List (Int × Int) := L.foldl (shStep f) []
theorem shortL_snoc (f : Int) (L : List (Int × Int)) (v : Int × Int) : shortL f (L ++ [v]) = shStep f (shortL f L) v := by simp [shortL]
theorem shortL_len (f : Int) (L : List (Int × Int)) : (shortL f L).length ≤ L.length := by
 induction L using snocInd with
 | nil => simp [shortL]
 | snoc L v ih =>
  rw [shortL_snoc]
  generalize shortL f L = S at *
  cases S with
  | nil => simp [shStep]
  | cons h T =>
   simp only [shStep]
   split
   ·simp at *; omega
   ·split
    ·simp
    ·simp at *; omega
theorem shortL_spec (f : Int) (L : List (Int × Int)) : (L = [] ∧ shortL f L = []) ∨ ∃ m : Int, (∀ w ∈ L, m ≤ nrmV f w) ∧ (∃ w ∈ L, nrmV f w = m) ∧ shortL f L = L.filter (fun w => decide (nrmV f w = m)) := by
 induction L using snocInd with
 | nil => left; exact ⟨rfl, rfl⟩
 | snoc L v ih =>
  right
  rw [shortL_snoc]
  rcases ih with ⟨rfl, h⟩ | ⟨m, h1, ⟨w0, h2, h2'⟩, h3⟩
  ·refine ⟨nrmV f v, by simp, ⟨v, by simp, rfl⟩, ?_⟩
   rw [h]; simp [shStep]
  ·have hne : ∃ h T, shortL f L = h :: T ∧ nrmV f h = m := by
    cases hs : shortL f L with
    | nil =>
     rw [hs] at h3
     have : w0 ∈ L.filter (fun w => decide (nrmV f w = m)) := by simp [h2, h2']
     rw [← h3] at this
     simp at this
    | cons h T =>
     refine ⟨h, T, rfl, ?_⟩
     have : h ∈ L.filter (fun w => decide (nrmV f w = m)) := by rw [← h3, hs]; simp
     simpa using (List.mem_filter.1 this).2
   obtain ⟨h, T, hs, hm⟩ := hne
   rw [hs]
   simp only [shStep]
   rw [hm]
   by_cases c1 : m < nrmV f v
   ·rw [if_pos c1]
    refine ⟨m, ?_, ⟨w0, by simp [h2], h2'⟩, ?_⟩
    ·intro w hw
     rw [List.mem_append] at hw
     rcases hw with hw | hw
     ·exact h1 w hw
     ·simp at hw; subst hw; omega
    ·rw [List.filter_append, ← h3, hs]
     have : ¬ nrmV f v = m := by omega
     simp [this]
   ·rw [if_neg c1]
    by_cases c2 : nrmV f v < m
    ·rw [if_pos c2]
     refine ⟨nrmV f v, ?_, ⟨v, by simp, rfl⟩, ?_⟩
     ·intro w hw
      rw [List.mem_append] at hw
      rcases hw with hw | hw
      ·have := h1 w hw; omega
      ·simp at hw; subst hw; omega
     ·rw [List.filter_append]
      have : L.filter (fun w => decide (nrmV f w = nrmV f v)) = [] := by
       rw [List.filter_eq_nil_iff]
       intro w hw
       have := h1 w hw
       simp; omega
      rw [this]; simp
    ·rw [if_neg c2]
     refine ⟨m, ?_, ⟨w0, by simp [h2], h2'⟩, ?_⟩
     ·intro w hw
      rw [List.mem_append] at hw
      rcases hw with hw | hw
      ·exact h1 w hw
      ·simp at hw; subst hw; omega
     ·rw [List.filter_append, ← h3, hs]
      have : nrmV f v = m := by omega
      simp [this]
theorem shortL_mem {f : Int} {L : List (Int × Int)} {v : Int × Int} : v ∈ shortL f L ↔ v ∈ L ∧ ∀ w ∈ L, nrmV f v ≤ nrmV f w := by
 rcases shortL_spec f L with ⟨rfl, h⟩ | ⟨m, h1, ⟨w0, h2, h2'⟩, h3⟩
 ·rw [h]; simp
 ·rw [h3, List.mem_filter]
  constructor
  ·rintro ⟨hv, hm⟩
   have hm := of_decide_eq_true hm
   exact ⟨hv, fun w hw => by rw [hm]; exact h1 w hw⟩
  ·rintro ⟨hv, hm⟩
   have e1 := h1 v hv
   have e2 := hm w0 h2
   exact ⟨hv, decide_eq_true (by omega)⟩
theorem shortL_sorted {f : Int} {L : List (Int × Int)} (h : L.Pairwise lexlt) : (shortL f L).Pairwise lexlt := by
 rcases shortL_spec f L with ⟨rfl, h'⟩ | ⟨m, _, _, h3⟩
 ·rw [h']; exact List.Pairwise.nil
 ·rw [h3]; exact List.Pairwise.filter _ h
theorem shortL_ne {f : Int} {L : List (Int × Int)} (h : L ≠ []) : shortL f L ≠ [] := by
 rcases shortL_spec f L with ⟨rfl, h'⟩ | ⟨m, _, ⟨w0, h2, h2'⟩, h3⟩
 ·exact absurd rfl h
 ·intro e
  have : w0 ∈ shortL f L := by rw [h3, List.mem_filter]; exact ⟨h2, decide_eq_true h2'⟩
  rw [e] at this
  simp at this
theorem last_max : ∀ {L : List (Int × Int)} (h : L ≠ []), L.Pairwise lexlt → ∀ w ∈ L, w = L.getLast h ∨ lexlt w (L.getLast h)
 | [a], _, _, w, hw => by simp at hw; left; simpa using hw
 | a :: b :: L, _, hp, w, hw => by
  rw [List.pairwise_cons] at hp
  rw [List.getLast_cons (by simp)]
  rw [List.mem_cons] at hw
  rcases hw with rfl | hw
  ·right; exact hp.1 _ (List.getLast_mem _)
  ·exact last_max (by simp) hp.2 w hw

/- the shortest vectors of a lattice -/
def isShort (f A B C : Int) (w : Int × Int) : Prop := inL A B C w.1 w.2 ∧ ¬ (w.1 = 0 ∧ w.2 = 0) ∧ ∀ x y : Int, inL A B C x y → ¬ (x = 0 ∧ y = 0) → nrmV f w ≤ nrmI f x y
def leastStep (f A B C : Int) (m : Int) (v : Int × Int) : Int := if 0 < nrmV f v ∧ nrmV f v < m ∧ hasB A B C v.1 v.2 = true then nrmV f v else m
def leastF (f A B C : Int) (L : List (Int × Int)) : Int := L.foldl (leastStep f A B C) (A * A)
def fits (f A B C m : Int) (v : Int × Int) : Bool := decide (nrmV f v = m) && hasB A B C v.1 v.2
def shortM (f A B C : Int) : List (Int × Int) := (nearL f (A * A) 128).filter (fits f A B C (leastF f A B C (nearL f (A * A) 128)))
theorem leastF_snoc (f A B C : Int) (L : List (Int × Int)) (v : Int × Int) : leastF f A B C (L ++ [v]) = leastStep f A B C (leastF f A B C L) v := by simp [leastF]
theorem leastF_spec (f A B C : Int) (L : List (Int × Int)) : leastF f A B C L ≤ A * A ∧ (∀ v ∈ L, 0 < nrmV f v → hasB A B C v.1 v.2 = true → leastF f A B C L ≤ nrmV f v) ∧
  (leastF f A B C L = A * A ∨ ∃ v ∈ L, nrmV f v = leastF f A B C L ∧ 0 < nrmV f v ∧ hasB A B C v.1 v.2 = true) := by
 induction L using snocInd with
 | nil => exact ⟨Int.le_refl _, by simp, .inl rfl⟩
 | snoc L v ih =>
  obtain ⟨h1, h2, h3⟩ := ih
  rw [leastF_snoc]
  unfold leastStep
  by_cases c : 0 < nrmV f v ∧ nrmV f v < leastF f A B C L ∧ hasB A B C v.1 v.2 = true
  ·rw [if_pos c]
   obtain ⟨c1, c2, c3⟩ := c
   refine ⟨by omega, ?_, .inr ⟨v, by simp, rfl, c1, c3⟩⟩
   intro w hw hw1 hw2
   rw [List.mem_append] at hw
   rcases hw with hw | hw
   ·have := h2 w hw hw1 hw2; omega
   ·simp at hw; subst hw; omega
  ·rw [if_neg c]
   refine ⟨h1, ?_, ?_⟩
   ·intro w hw hw1 hw2
    rw [List.mem_append] at hw
    rcases hw with hw | hw
    ·exact h2 w hw hw1 hw2
    ·simp at hw; subst hw
     by_cases c2 : nrmV f w < leastF f A B C L
     ·exact absurd ⟨hw1, c2, hw2⟩ c
     ·omega
   ·rcases h3 with h3 | ⟨w, hw, h4⟩
    ·exact .inl h3
    ·exact .inr ⟨w, by simp [hw], h4⟩
theorem hasB_inL {A B C : Int} (h : latI A B C) (x y : Int) : hasB A B C x y = true ↔ inL A B C x y := by
 rw [hasB_iff]
 exact inL_iff (by have := h.2.1; omega) x y
theorem nrm_A0 (f A : Int) : nrmI f A 0 = A * A := by unfold nrmI; simp
theorem shortM_mem {f A B C : Int} (hf : frB f = true) (h : latI A B C) {w : Int × Int} : w ∈ shortM f A B C ↔ isShort f A B C w := by
 have hA := h.1
 have hA2 : A ≤ 64 := by have := Int.mul_le_mul_of_nonneg_left h.2.1 (show 0 ≤ A by omega); have := h.2.2.2.2; omega
 have hAA : A * A ≤ 64 * 64 := Int.mul_le_mul hA2 hA2 (by omega) (by omega)
 have hAA1 : 1 * 1 ≤ A * A := Int.mul_le_mul hA hA (by omega) (by omega)
 obtain ⟨l1, l2, l3⟩ := leastF_spec f A B C (nearL f (A * A) 128)
 have near : ∀ x y : Int, nrmI f x y ≤ A * A → (x, y) ∈ nearL f (A * A) 128 := by
  intro x y hxy
  rw [nearL_mem]
  exact ⟨nrm_box (k := 128) hf (by omega) hxy (by omega), hxy⟩
 unfold shortM
 rw [List.mem_filter]
 unfold fits
 generalize leastF f A B C (nearL f (A * A) 128) = m at *
 have hm0 : 0 < m := by rcases l3 with e | ⟨v, _, e, e', _⟩ <;> omega
 constructor
 ·rintro ⟨h1, h2⟩
  simp only [Bool.and_eq_true, decide_eq_true_eq] at h2
  obtain ⟨h2, h3⟩ := h2
  refine ⟨(hasB_inL h _ _).1 h3, ?_, ?_⟩
  ·rintro ⟨e1, e2⟩
   unfold nrmV at h2
   rw [e1, e2] at h2
   simp [nrmI] at h2
   omega
  ·intro x y hxy hne
   rw [h2]
   by_cases c : nrmI f x y ≤ A * A
   ·exact l2 (x, y) (near x y c) (nrm_pos hf hne) ((hasB_inL h _ _).2 hxy)
   ·omega
 ·rintro ⟨h1, h2, h3⟩
  have e1 := h3 A 0 ⟨1, 0, by simp, by simp⟩ (by omega)
  rw [nrm_A0] at e1
  have hw := near w.1 w.2 e1
  refine ⟨hw, ?_⟩
  have hb := (hasB_inL h w.1 w.2).2 h1
  have e2 := l2 w hw (nrm_pos hf h2) hb
  simp only [Bool.and_eq_true, decide_eq_true_eq]
  refine ⟨?_, hb⟩
  rcases l3 with e | ⟨v, _, e, e', e''⟩
  ·omega
  ·have := h3 v.1 v.2 ((hasB_inL h _ _).1 e'') (by rintro ⟨z1, z2⟩; unfold nrmV at e'; rw [z1, z2] at e'; simp [nrmI] at e')
   unfold nrmV at *
   omega
theorem shortM_sorted (f A B C : Int) : (shortM f A B C).Pairwise lexlt := List.Pairwise.filter _ (nearL_sorted _ _ _)

/- the eight neighbours -/
def nbC : List (Int × Int) := [(1, 0), (-1, 0), (0, 1), (0, -1), (1, 1), (-1, -1), (1, -1), (-1, 1)]
def cmb (ux uy vx vy : Int) (c : Int × Int) : Int × Int := (c.1 * ux + c.2 * vx, c.1 * uy + c.2 * vy)
def nbL (ux uy vx vy : Int) : List (Int × Int) := nbC.map (cmb ux uy vx vy)
theorem nbC_mem {a b : Int} : (a, b) ∈ nbC ↔ ((-1 ≤ a ∧ a ≤ 1) ∧ (-1 ≤ b ∧ b ≤ 1)) ∧ ¬ (a = 0 ∧ b = 0) := by
 simp only [nbC, List.mem_cons, Prod.mk.injEq, List.not_mem_nil, or_false]
 omega
theorem nb_mem {ux uy vx vy : Int} {w : Int × Int} : w ∈ nbL ux uy vx vy ↔ ∃ a b : Int, (((-1 ≤ a ∧ a ≤ 1) ∧ (-1 ≤ b ∧ b ≤ 1)) ∧ ¬ (a = 0 ∧ b = 0)) ∧ w = (a * ux + b * vx, a * uy + b * vy) := by
 unfold nbL
 rw [List.mem_map]
 constructor
 ·rintro ⟨⟨a, b⟩, h1, rfl⟩
  exact ⟨a, b, nbC_mem.1 h1, rfl⟩
 ·rintro ⟨a, b, h1, rfl⟩
  exact ⟨(a, b), nbC_mem.2 h1, rfl⟩
theorem comb_inj {ux uy vx vy a b a' b' : Int} (hd : ux * vy - uy * vx ≠ 0) (h1 : a * ux + b * vx = a' * ux + b' * vx) (h2 : a * uy + b * vy = a' * uy + b' * vy) : a = a' ∧ b = b' := by
 constructor
 ·exact Int.eq_of_mul_eq_mul_left hd (by grind)
 ·exact Int.eq_of_mul_eq_mul_left hd (by grind)
theorem nb_nodup {ux uy vx vy : Int} (hd : ux * vy - uy * vx ≠ 0) : (nbL ux uy vx vy).Pairwise (· ≠ ·) := by
 unfold nbL
 rw [List.pairwise_map]
 refine List.Pairwise.imp ?_ (show nbC.Pairwise (· ≠ ·) by decide)
 rintro ⟨a, b⟩ ⟨a', b'⟩ hne e
 unfold cmb at e
 rw [Prod.mk.injEq] at e
 obtain ⟨e1, e2⟩ := comb_inj hd e.1 e.2
 simp only at e1 e2
 exact hne (by rw [e1, e2])
structure Gau (f A B C ux uy vx vy : Int) : Prop where
 bas : Bas A B C ux uy vx vy
 red : Red f ux uy vx vy
 small : nrmI f vx vy ≤ 12288
theorem latI_ne {A B C : Int} (h : latI A B C) : A * C ≠ 0 := by
 have := Int.mul_le_mul h.1 h.2.1 (by omega) (by have := h.1; omega)
 omega
theorem Bas.det {A B C ux uy vx vy : Int} (h0 : A * C ≠ 0) (h : Bas A B C ux uy vx vy) : ux * vy - uy * vx ≠ 0 := by
 rcases h.hd with e | e <;> omega
theorem Bas.une {A B C ux uy vx vy : Int} (h0 : A * C ≠ 0) (h : Bas A B C ux uy vx vy) : ¬ (ux = 0 ∧ uy = 0) := by
 rintro ⟨rfl, rfl⟩
 have := h.det h0
 simp at this
/- a short sum of multiples is one of the eight, or a multiple of the first vector -/
theorem Gau.short {f A B C ux uy vx vy a b : Int} (hf : frB f = true) (h0 : A * C ≠ 0) (h : Gau f A B C ux uy vx vy) (hw : nrmI f (a * ux + b * vx) (a * uy + b * vy) ≤ nrmI f vx vy) :
  b = 0 ∨ ((-1 ≤ a ∧ a ≤ 1) ∧ (-1 ≤ b ∧ b ≤ 1)) := by
 rw [nrm_comb] at hw
 exact small_comb (nrm_pos hf (h.bas.une h0)) h.red.hpq h.red.lo h.red.hi hw
theorem Gau.nb_in {f A B C ux uy vx vy : Int} (h0 : A * C ≠ 0) (h : Gau f A B C ux uy vx vy) {w : Int × Int} (hw : w ∈ nbL ux uy vx vy) : inL A B C w.1 w.2 ∧ ¬ (w.1 = 0 ∧ w.2 = 0) := by
 obtain ⟨a, b, ⟨_, hne⟩, rfl⟩ := nb_mem.1 hw
 refine ⟨inL_comb h.bas.hu h.bas.hv a b, ?_⟩
 rintro ⟨e1, e2⟩
 exact hne (comb_inj (h.bas.det h0) (a' := 0) (b' := 0) (by simpa using e1) (by simpa using e2))
theorem nb_u {ux uy vx vy : Int} : (ux, uy) ∈ nbL ux uy vx vy := nb_mem.2 ⟨1, 0, by omega, by simp⟩
theorem Gau.le_short {f A B C ux uy vx vy : Int} (hf : frB f = true) (h0 : A * C ≠ 0) (h : Gau f A B C ux uy vx vy) {m : Int} (hm : ∀ w ∈ nbL ux uy vx vy, m ≤ nrmV f w) {x y : Int} (hw : inL A B C x y) (hne : ¬ (x = 0 ∧ y = 0)) : m ≤ nrmI f x y := by
 have hu : m ≤ nrmI f ux uy := hm (ux, uy) nb_u
 have hpq := h.red.hpq
 by_cases c : nrmI f x y ≤ nrmI f vx vy
 ·obtain ⟨a, b, rfl, rfl⟩ := h.bas.span h0 hw
  rcases h.short hf h0 c with rfl | hs
  ·have ha : a ≠ 0 := by rintro rfl; exact hne (by simp)
   have h1 := sq_ge (a := a) (k := 1) (by omega) (by omega)
   have h2 := Int.mul_le_mul_of_nonneg_right h1 (nrm_nn hf ux uy)
   rw [nrm_comb]
   simp only [Int.mul_zero, Int.zero_mul, Int.add_zero]
   omega
  ·by_cases hz : a = 0 ∧ b = 0
   ·obtain ⟨rfl, rfl⟩ := hz
    exact absurd (by simp) hne
   ·exact hm _ (nb_mem.2 ⟨a, b, ⟨hs, hz⟩, rfl⟩)
 ·omega
theorem Gau.short_mem {f A B C ux uy vx vy : Int} (hf : frB f = true) (h0 : A * C ≠ 0) (h : Gau f A B C ux uy vx vy) {L : List (Int × Int)} (hL : ∀ w, w ∈ L ↔ w ∈ nbL ux uy vx vy) {w : Int × Int} : w ∈ shortL f L ↔ isShort f A B C w := by
 rw [shortL_mem]
 constructor
 ·rintro ⟨h1, h2⟩
  have h1' := (hL w).1 h1
  obtain ⟨i1, i2⟩ := h.nb_in h0 h1'
  exact ⟨i1, i2, fun x y hxy hne => h.le_short hf h0 (fun w' hw' => h2 w' ((hL w').2 hw')) hxy hne⟩
 ·rintro ⟨h1, h2, h3⟩
  refine ⟨(hL w).2 ?_, ?_⟩
  ·have hu := h3 ux uy h.bas.hu (h.bas.une h0)
   have hp := nrm_pos hf (h.bas.une h0)
   have hpq := h.red.hpq
   obtain ⟨x, y⟩ := w
   obtain ⟨a, b, e1, e2⟩ := h.bas.span h0 h1
   simp only at e1 e2
   subst e1 e2
   simp only [nrmV] at hu h2
   rw [nb_mem]
   rcases h.short hf h0 (Int.le_trans hu hpq) with rfl | hs
   ·rw [nrm_comb] at hu
    simp only [Int.mul_zero, Int.zero_mul, Int.add_zero] at hu
    have ha : -1 ≤ a ∧ a ≤ 1 := by
     by_cases c : -1 ≤ a ∧ a ≤ 1
     ·exact c
     ·have e1 := sq_ge (a := a) (k := 2) (by omega) (by omega)
      have e2 := Int.mul_le_mul_of_nonneg_right e1 (show 0 ≤ nrmI f ux uy by omega)
      omega
    refine ⟨a, 0, ⟨⟨ha, by omega⟩, ?_⟩, rfl⟩
    rintro ⟨rfl, _⟩
    exact h2 (by simp)
   ·refine ⟨a, b, ⟨hs, ?_⟩, rfl⟩
    rintro ⟨rfl, rfl⟩
    exact h2 (by simp)
  ·intro w' hw'
   obtain ⟨i1, i2⟩ := h.nb_in h0 ((hL w').1 hw')
   exact h3 _ _ i1 i2
theorem Gau.shorts {f A B C ux uy vx vy : Int} (hf : frB f = true) (hl : latI A B C) (h : Gau f A B C ux uy vx vy) {L : List (Int × Int)} (hS : L.Pairwise lexlt) (hL : ∀ w, w ∈ L ↔ w ∈ nbL ux uy vx vy) : shortL f L = shortM f A B C := by
 refine sorted_ext (shortL_sorted hS) (shortM_sorted _ _ _ _) (fun w => ?_)
 rw [shortM_mem hf hl]
 exact h.short_mem hf (latI_ne hl) hL

/- there is a reduced basis -/
theorem Bas.reduce {f A B C : Int} (hf : frB f = true) (h0 : A * C ≠ 0) : ∀ (n : Nat) (ux uy vx vy : Int), (nrmI f ux uy).toNat ≤ n → Bas A B C ux uy vx vy → nrmI f ux uy ≤ 12288 → nrmI f vx vy ≤ 12288 →
  ∃ ux uy vx vy, Gau f A B C ux uy vx vy := by
 intro n
 induction n with
 | zero =>
  intro ux uy vx vy hn hb _ _
  have := nrm_pos hf (hb.une h0)
  omega
 | succ n ih =>
  intro ux uy vx vy hn hb h1 h2
  have hp := nrm_pos hf (hb.une h0)
  obtain ⟨t1, t2, t3⟩ := round_t (t := tI f ux uy vx vy) hp rfl
  generalize (nrmI f ux uy + tI f ux uy vx vy) / (2 * nrmI f ux uy) = k at *
  obtain ⟨e1, e2⟩ := nrm_shift f ux uy vx vy k
  have hb' := hb.add (-k)
  by_cases c : nrmI f ux uy ≤ nrmI f (vx + ux * -k) (vy + uy * -k)
  ·exact ⟨ux, uy, _, _, ⟨hb', ⟨c, by omega, by omega⟩, by omega⟩⟩
  ·exact ih _ _ _ _ (by omega) hb'.swap (by omega) (by omega)
theorem Gau.ex {f A B C : Int} (hf : frB f = true) (h : latI A B C) : ∃ ux uy vx vy, Gau f A B C ux uy vx vy := by
 have hA := h.1
 have hA2 : A ≤ 64 := by have := Int.mul_le_mul_of_nonneg_left h.2.1 (show 0 ≤ A by omega); have := h.2.2.2.2; omega
 have hC2 : C ≤ 64 := by have := Int.mul_le_mul_of_nonneg_right h.1 (show 0 ≤ C by have := h.2.1; omega); have := h.2.2.2.2; omega
 have hC := h.2.1
 have hB := h.2.2.1
 have hB2 := h.2.2.2.1
 have e1 : A * A ≤ 64 * 64 := Int.mul_le_mul hA2 hA2 (by omega) (by omega)
 have e2 : B * B ≤ 64 * 64 := Int.mul_le_mul (by omega) (by omega) (by omega) (by omega)
 have e3 : C * C ≤ 64 * 64 := Int.mul_le_mul (by omega) (by omega) (by omega) (by omega)
 have e4 : B * C ≤ 64 * 64 := Int.mul_le_mul (by omega) (by omega) (by omega) (by omega)
 have e5 : 0 ≤ B * C := Int.mul_nonneg (by omega) (by omega)
 refine Bas.reduce hf (latI_ne h) _ A 0 B C (Nat.le_refl _) Bas.start (by rw [nrm_A0]; omega) ?_
 rcases frB_iff.1 hf with rfl | rfl <;> (unfold nrmI; omega)

/- the second vector of the reduced basis -/
def isBest (f A B C : Int) (u v : Int × Int) : Prop := (inL A B C v.1 v.2 ∧ u.1 * v.2 - u.2 * v.1 = A * C) ∧
 ∀ w : Int × Int, inL A B C w.1 w.2 → u.1 * w.2 - u.2 * w.1 = A * C → nrmV f v < nrmV f w ∨ nrmV f v = nrmV f w ∧ (w = v ∨ lexlt w v)
/- of the eight there is one that does with the first vector, and every one that does as well is among the eight -/
theorem Gau.cand {f A B C ux uy vx vy : Int} (hf : frB f = true) (h0 : A * C ≠ 0) (h : Gau f A B C ux uy vx vy) {u : Int × Int} (hu : u ∈ nbL ux uy vx vy) :
  (∃ v ∈ nbL ux uy vx vy, u.1 * v.2 - u.2 * v.1 = A * C ∧ nrmV f v ≤ nrmI f vx vy) ∧
  ∀ w : Int × Int, inL A B C w.1 w.2 → u.1 * w.2 - u.2 * w.1 = A * C → nrmV f w ≤ nrmI f vx vy → w ∈ nbL ux uy vx vy := by
 obtain ⟨a, b, ⟨⟨ha, hb⟩, hne⟩, rfl⟩ := nb_mem.1 hu
 have hpq := h.red.hpq
 constructor
 ·obtain ⟨s, hs, hd⟩ : ∃ s : Int, (s = 1 ∨ s = -1) ∧ ux * vy - uy * vx = s * (A * C) := by
   rcases h.bas.hd with e | e
   ·exact ⟨1, .inl rfl, by omega⟩
   ·exact ⟨-1, .inr rfl, by omega⟩
  have hss : s * s = 1 := by rcases hs with rfl | rfl <;> rfl
  by_cases hb0 : b = 0
  ·subst hb0
   have haa : a * a = 1 := by
    have : a = 1 ∨ a = -1 := by omega
    rcases this with rfl | rfl <;> rfl
   refine ⟨_, nb_mem.2 ⟨0, s * a, ⟨⟨by omega, ?_⟩, ?_⟩, rfl⟩, ?_, ?_⟩
   ·rcases hs with rfl | rfl <;> omega
   ·rintro ⟨_, e⟩
    have : s * a * (s * a) = 1 := by grind
    rw [e] at this
    omega
   ·simp only
    grind
   ·simp only [nrmV]
    rw [nrm_comb]
    have : s * a * (s * a) = 1 := by grind
    rw [this]
    simp
  ·have hbb : b * b = 1 := by
    have : b = 1 ∨ b = -1 := by omega
    rcases this with rfl | rfl <;> rfl
   refine ⟨_, nb_mem.2 ⟨-(s * b), 0, ⟨⟨?_, by omega⟩, ?_⟩, rfl⟩, ?_, ?_⟩
   ·rcases hs with rfl | rfl <;> omega
   ·rintro ⟨e, _⟩
    have : s * b * (s * b) = 1 := by grind
    rw [show s * b = 0 by omega] at this
    omega
   ·simp only
    grind
   ·simp only [nrmV]
    rw [nrm_comb]
    have : -(s * b) * -(s * b) = 1 := by grind
    rw [this]
    simp
    omega
 ·rintro ⟨x, y⟩ hw hd hn
  obtain ⟨c, d, e1, e2⟩ := h.bas.span h0 hw
  simp only at e1 e2 hd
  subst e1 e2
  have hsm := h.short hf h0 hn
  have hk : (a * d - b * c) * (ux * vy - uy * vx) = A * C := by rw [← hd]; grind
  have hz : ¬ (c = 0 ∧ d = 0) := by
   rintro ⟨rfl, rfl⟩
   simp at hk
   exact h0 hk.symm
  rcases hsm with rfl | hs
  ·have hbc : b * c = 1 ∨ b * c = -1 := by
    rcases h.bas.hd with e | e
    ·right; exact Int.eq_of_mul_eq_mul_left h0 (by grind)
    ·left; exact Int.eq_of_mul_eq_mul_left h0 (by grind)
   have hc : -1 ≤ c ∧ c ≤ 1 := by
    have : b = 0 ∨ b = 1 ∨ b = -1 := by omega
    rcases this with rfl | rfl | rfl <;> omega
   exact nb_mem.2 ⟨c, 0, ⟨⟨hc, by omega⟩, hz⟩, rfl⟩
  ·exact nb_mem.2 ⟨c, d, ⟨hs, hz⟩, rfl⟩
theorem Gau.best {f A B C ux uy vx vy : Int} (hf : frB f = true) (h0 : A * C ≠ 0) (h : Gau f A B C ux uy vx vy) {L : List (Int × Int)} (hS : L.Pairwise lexlt) (hL : ∀ w, w ∈ L ↔ w ∈ nbL ux uy vx vy) {u : Int × Int} (hu : u ∈ L)
  {P : Int × Int → Bool} (hP : ∀ v ∈ L, P v = true ↔ u.1 * v.2 - u.2 * v.1 = A * C) : ∃ hne : shortL f (L.filter P) ≠ [], isBest f A B C u ((shortL f (L.filter P)).getLast hne) := by
 obtain ⟨⟨v0, hv0, hd0, hn0⟩, hall⟩ := h.cand hf h0 ((hL u).1 hu)
 have hm0 : v0 ∈ L.filter P := List.mem_filter.2 ⟨(hL _).2 hv0, (hP _ ((hL _).2 hv0)).2 hd0⟩
 have hne : shortL f (L.filter P) ≠ [] := shortL_ne (by intro e; rw [e] at hm0; simp at hm0)
 refine ⟨hne, ?_⟩
 have hl := last_max hne (shortL_sorted (List.Pairwise.filter P hS))
 have hlm := List.getLast_mem hne
 generalize (shortL f (L.filter P)).getLast hne = v at *
 obtain ⟨hv1, hv2⟩ := shortL_mem.1 hlm
 obtain ⟨hv3, hv4⟩ := List.mem_filter.1 hv1
 refine ⟨⟨(h.nb_in h0 ((hL _).1 hv3)).1, (hP _ hv3).1 hv4⟩, ?_⟩
 intro w hw hd
 by_cases c : nrmV f w ≤ nrmI f vx vy
 ·have hwL := (hL _).2 (hall w hw hd c)
  have hwF : w ∈ L.filter P := List.mem_filter.2 ⟨hwL, (hP _ hwL).2 hd⟩
  have := hv2 w hwF
  by_cases c2 : nrmV f v < nrmV f w
  ·exact .inl c2
  ·right
   refine ⟨by omega, hl w ?_⟩
   rw [shortL_mem]
   refine ⟨hwF, fun w' hw' => ?_⟩
   have := hv2 w' hw'
   omega
 ·left
  have := hv2 v0 hm0
  omega
/- as the model finds it -/
/- the model's second vector is the best one -/
theorem shortM_ne {f A B C : Int} (hf : frB f = true) (hl : latI A B C) : shortM f A B C ≠ [] := by
 obtain ⟨ux, uy, vx, vy, g⟩ := Gau.ex hf hl
 have hn : shortL f (nbL ux uy vx vy) ≠ [] := shortL_ne (by simp [nbL, nbC])
 intro e
 obtain ⟨w, T, hT⟩ := List.exists_cons_of_ne_nil hn
 have hw : w ∈ shortL f (nbL ux uy vx vy) := by rw [hT]; simp
 have := (shortM_mem hf hl).2 ((g.short_mem hf (latI_ne hl) (fun _ => Iff.rfl)).1 hw)
 rw [e] at this
 simp at this
/- the program's second vector is the model's -/
end
end Go.Proofs.YtjjfomokecngoaaGreatDoor

