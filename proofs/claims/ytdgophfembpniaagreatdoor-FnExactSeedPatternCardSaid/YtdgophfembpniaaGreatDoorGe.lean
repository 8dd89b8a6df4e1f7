/-
 Several of my texts in one: FrN, FrK, FrP, ShF.
-/
import Derived.Test.YtdgophfembpniaaGreatDoorGb
import Derived.Test.YtdgophfembpniaaGreatDoorGc
import Derived.Deep.DeepCutAuto
namespace Go.Proofs.YtdgophfembpniaaGreatDoor
section
open Go.RowKit
set_option linter.unusedSimpArgs false
set_option linter.unusedVariables false

def planeT (f : Int) : TypeId := if f = 0 then 207 else 208
def normF (f : Int) : Nat := if f = 0 then 217 else 218
theorem planeT_0 : planeT 0 = 207 := rfl
theorem planeT_1 : planeT 1 = 208 := rfl
theorem normF_0 : normF 0 = 217 := rfl
theorem normF_1 : normF 1 = 218 := rfl
theorem mid_mul {a b : Int} (ha : midI a) (hb : midI b) : -1000000000000 ≤ a * b ∧ a * b ≤ 1000000000000 := by
 have h1 : a.natAbs ≤ 1000000 := by unfold midI at ha; omega
 have h2 : b.natAbs ≤ 1000000 := by unfold midI at hb; omega
 have h3 : (a * b).natAbs ≤ 1000000 * 1000000 := by
  rw [Int.natAbs_mul]; exact Nat.mul_le_mul h1 h2
 omega
set_option maxHeartbeats 1000000 in
theorem norm0_any (x y : Int) (w : World) (hx : midI x) (hy : midI y) :
  Calls Tryz.prog 217 #[.agg #[], .agg #[.int .i64 x, .int .i64 y]] w fun e w' => e = .returned (.int .i64 (nrmI 0 x y)) ∧ Below w.heap.size w w' := by
 obtain ⟨b1, b2⟩ := mid_mul hx hx
 obtain ⟨b3, b4⟩ := mid_mul hy hy
 clear hx hy
 go_enter Tryz.func217, Tryz.ntmps217
 go_wp2
 go_ret
 refine ⟨ret_int (by simp [nrmI]), ?_⟩
 repeat (first | exact Below.refl _ _ | refine Below.setCell ?_ (by first | omega | (simp <;> omega)) _ | refine Below.alloc ?_ (by first | omega | (simp <;> omega)) _ | refine bstep ?_ (by assumption) | refine Below.drew ?_)
set_option maxHeartbeats 1000000 in
theorem norm1_any (x y : Int) (w : World) (hx : midI x) (hy : midI y) :
  Calls Tryz.prog 218 #[.agg #[], .agg #[.int .i64 x, .int .i64 y]] w fun e w' => e = .returned (.int .i64 (nrmI 1 x y)) ∧ Below w.heap.size w w' := by
 obtain ⟨b1, b2⟩ := mid_mul hx hx
 obtain ⟨b3, b4⟩ := mid_mul hy hy
 obtain ⟨b5, b6⟩ := mid_mul hx hy
 clear hx hy
 go_enter Tryz.func218, Tryz.ntmps218
 go_wp2
 go_ret
 refine ⟨ret_int (by simp [nrmI]; omega), ?_⟩
 repeat (first | exact Below.refl _ _ | refine Below.setCell ?_ (by first | omega | (simp <;> omega)) _ | refine Below.alloc ?_ (by first | omega | (simp <;> omega)) _ | refine bstep ?_ (by assumption) | refine Below.drew ?_)
theorem norm_any (f x y : Int) (w : World) (hf : frB f = true) (hx : midI x) (hy : midI y) :
  Calls Tryz.prog (normF f) #[.agg #[], .agg #[.int .i64 x, .int .i64 y]] w fun e w' => e = .returned (.int .i64 (nrmI f x y)) ∧ Below w.heap.size w w' := by
 rcases frB_iff.1 hf with rfl | rfl
 ·rw [normF_0]; exact norm0_any x y w hx hy
 ·rw [normF_1]; exact norm1_any x y w hx hy
set_option maxHeartbeats 1000000 in
theorem l04Norm_any (f x y : Int) (w : World) (hf : frB f = true) (hx : midI x) (hy : midI y) :
  Calls Tryz.prog 177 #[.int .i64 f, .agg #[.int .i64 x, .int .i64 y]] w fun e w' => e = .returned (.int .i64 (nrmI f x y)) ∧ Below w.heap.size w w' := by
 obtain ⟨b1, b2⟩ := mid_mul hx hx
 obtain ⟨b3, b4⟩ := mid_mul hy hy
 obtain ⟨b5, b6⟩ := mid_mul hx hy
 clear hx hy
 rcases frB_iff.1 hf with rfl | rfl
 ·go_enter Tryz.func177, Tryz.ntmps177
  go_wp2
  go_ret
  refine ⟨ret_int (by simp [nrmI]), ?_⟩
  repeat (first | exact Below.refl _ _ | refine Below.setCell ?_ (by first | omega | (simp <;> omega)) _ | refine Below.alloc ?_ (by first | omega | (simp <;> omega)) _ | refine bstep ?_ (by assumption) | refine Below.drew ?_)
 ·go_enter Tryz.func177, Tryz.ntmps177
  go_wp2
  go_ret
  refine ⟨ret_int (by simp [nrmI]), ?_⟩
  repeat (first | exact Below.refl _ _ | refine Below.setCell ?_ (by first | omega | (simp <;> omega)) _ | refine Below.alloc ?_ (by first | omega | (simp <;> omega)) _ | refine bstep ?_ (by assumption) | refine Below.drew ?_)

set_option maxHeartbeats 1000000 in
theorem planeOf_yes (f : Int) (w : World) (h : frB f = true) :
  Calls Tryz.prog 143 #[.int .i64 f] w fun e w' => e = .returned (.tuple #[.iface (planeT f) (.agg #[]), .bool true]) ∧ Below w.heap.size w w' := by
 rcases frB_iff.1 h with rfl | rfl
 ·go_enter Tryz.func143, Tryz.ntmps143
  go_wp2
  go_ret2
  refine ⟨rfl, ?_⟩
  repeat (first | exact Below.refl _ _ | refine Below.alloc ?_ (by first | omega | (simp <;> omega)) _)
 ·go_enter Tryz.func143, Tryz.ntmps143
  go_wp2
  go_ret2
  refine ⟨rfl, ?_⟩
  repeat (first | exact Below.refl _ _ | refine Below.alloc ?_ (by first | omega | (simp <;> omega)) _)
set_option maxHeartbeats 1000000 in
theorem planeOf_no (f : Int) (w : World) (h : frB f = false) :
  Calls Tryz.prog 143 #[.int .i64 f] w fun e w' => e = .returned (.tuple #[.nilIface, .bool false]) ∧ Below w.heap.size w w' := by
 obtain ⟨h0, h1⟩ := frB_not.1 h
 have g0 : (f == 0) = false := by simpa using h0
 have g1 : (f == 1) = false := by simpa using h1
 go_enter Tryz.func143, Tryz.ntmps143
 go_wp2
 go_ret2
 exact ⟨rfl, Below.refl _ _⟩
set_option maxHeartbeats 1000000 in
theorem implIsFrame_any (f : Int) (w : World) :
  Calls Tryz.prog 113 #[.int .i64 f] w fun e w' => e = .returned (.bool (frB f)) ∧ Below w.heap.size w w' := by
 rcases h : frB f with _ | _
 ·go_enter Tryz.func113, Tryz.ntmps113
  go_wp2_with fail
  refine (planeOf_no f _ h).mono ?_
  rintro e w1 ⟨rfl, hb1⟩
  go_wp2
  go_ret
  exact ⟨rfl, hb1⟩
 ·go_enter Tryz.func113, Tryz.ntmps113
  go_wp2_with fail
  refine (planeOf_yes f _ h).mono ?_
  rintro e w1 ⟨rfl, hb1⟩
  go_wp2
  go_ret
  exact ⟨rfl, hb1⟩
set_option maxHeartbeats 1000000 in
theorem specIsFrame_any (f : Int) (w : World) :
  Calls Tryz.prog 130 #[.int .i64 f] w fun e w' => e = .returned (.bool (frB f)) ∧ w = w' := by
 by_cases h0 : f = 0
 ·subst h0
  go_enter Tryz.func130, Tryz.ntmps130
  go_wp2
  go_ret
  exact ⟨rfl, rfl⟩
 ·have g0 : (f == 0) = false := by simpa using h0
  by_cases h1 : f = 1
  ·subst h1
   go_enter Tryz.func130, Tryz.ntmps130
   go_wp2
   go_ret
   exact ⟨rfl, rfl⟩
  ·have g1 : (f == 1) = false := by simpa using h1
   have h := frB_not.2 ⟨h0, h1⟩
   go_enter Tryz.func130, Tryz.ntmps130
   go_wp2
   go_ret
   exact ⟨ret_bool (by rw [h]), rfl⟩
/- norms -/
theorem meth_f {f : Int} (hf : frB f = true) : ∀ w, (method 363 (planeT f) (.agg #[]) "loop.example/g00943/impl.norm").run Tryz.prog w = .ok (normF f, .agg #[]) w := by
 rcases frB_iff.1 hf with rfl | rfl
 ·intro w; rw [planeT_0, normF_0]; kernel_rfl
 ·intro w; rw [planeT_1, normF_1]; kernel_rfl
theorem ent_f {f : Int} (hf : frB f = true) : ∀ args w, (callFunc (normF f) args).run Tryz.prog w = .ok (.enter (normF f) args) w := by
 -- Tryz.func217 has a body
 rcases frB_iff.1 hf with rfl | rfl
 ·intro args w; rw [normF_0]; kernel_rfl
 ·intro args w; rw [normF_1]; kernel_rfl
end
end Go.Proofs.YtdgophfembpniaaGreatDoor

namespace Go.Proofs.YtdgophfembpniaaGreatDoor
section
open Go.RowKit
set_option linter.unusedSimpArgs false
set_option linter.unusedVariables false

theorem ahead_f {f : Int} (hf : frB f = true) : ∀ w, (nilAhead 363 (planeT f) (.agg #[]) "loop.example/g00943/impl.norm").run Tryz.prog w = .ok (some false) w := by
 rcases frB_iff.1 hf with rfl | rfl
 ·intro w; rw [planeT_0]; kernel_rfl
 ·intro w; rw [planeT_1]; kernel_rfl
def keepB (f a b c d : Int) : Bool := nrmI f a c == 1 && (nrmI f b d == 1 && nrmI f (a + b) (c + d) == 2 + f)
theorem lim_mid {a b c d : Int} (h : limB a b c d = true) : (midI a ∧ midI b ∧ midI c ∧ midI d) ∧ (midI (a + b) ∧ midI (c + d)) := by
 have := limB_bd h
 unfold midI; omega
theorem nrm_10 (f : Int) : nrmI f 1 0 = 1 := by simp [nrmI]
theorem nrm_01 (f : Int) : nrmI f 0 1 = 1 := by simp [nrmI]
theorem nrm_11 (f : Int) : nrmI f 1 1 = 2 + f := by unfold nrmI; omega
theorem app10 (a b c d : Int) (w : World) (h : limB a b c d = true) :
  Calls Tryz.prog 156 #[.agg #[.int .i64 a, .int .i64 b, .int .i64 c, .int .i64 d], .agg #[.int .i64 1, .int .i64 0]] w fun e w' => e = .returned (.agg #[.int .i64 a, .int .i64 c]) ∧ Below w.heap.size w w' := by
 have := apply_any a b c d 1 0 w h (by decide)
 simpa using this
theorem norm10 (f : Int) (w : World) (hf : frB f = true) :
  Calls Tryz.prog (normF f) #[.agg #[], .agg #[.int .i64 1, .int .i64 0]] w fun e w' => e = .returned (.int .i64 (1)) ∧ Below w.heap.size w w' := by
 have := norm_any f 1 0 w hf (by unfold midI; omega) (by unfold midI; omega)
 rwa [nrm_10] at this
theorem app01 (a b c d : Int) (w : World) (h : limB a b c d = true) :
  Calls Tryz.prog 156 #[.agg #[.int .i64 a, .int .i64 b, .int .i64 c, .int .i64 d], .agg #[.int .i64 0, .int .i64 1]] w fun e w' => e = .returned (.agg #[.int .i64 b, .int .i64 d]) ∧ Below w.heap.size w w' := by
 have := apply_any a b c d 0 1 w h (by decide)
 simpa using this
theorem norm01 (f : Int) (w : World) (hf : frB f = true) :
  Calls Tryz.prog (normF f) #[.agg #[], .agg #[.int .i64 0, .int .i64 1]] w fun e w' => e = .returned (.int .i64 (1)) ∧ Below w.heap.size w w' := by
 have := norm_any f 0 1 w hf (by unfold midI; omega) (by unfold midI; omega)
 rwa [nrm_01] at this
theorem app11 (a b c d : Int) (w : World) (h : limB a b c d = true) :
  Calls Tryz.prog 156 #[.agg #[.int .i64 a, .int .i64 b, .int .i64 c, .int .i64 d], .agg #[.int .i64 1, .int .i64 1]] w fun e w' => e = .returned (.agg #[.int .i64 (a + b), .int .i64 (c + d)]) ∧ Below w.heap.size w w' := by
 have := apply_any a b c d 1 1 w h (by decide)
 simpa using this
theorem norm11 (f : Int) (w : World) (hf : frB f = true) :
  Calls Tryz.prog (normF f) #[.agg #[], .agg #[.int .i64 1, .int .i64 1]] w fun e w' => e = .returned (.int .i64 (2 + f)) ∧ Below w.heap.size w w' := by
 have := norm_any f 1 1 w hf (by unfold midI; omega) (by unfold midI; omega)
 rwa [nrm_11] at this
def KeepAt (f a b c d k : Int) : Prop :=
 k = 0 ∨ (k = 1 ∧ (nrmI f a c == 1) = true) ∨ (k = 2 ∧ (nrmI f a c == 1) = true ∧ (nrmI f b d == 1) = true) ∨ (k = 3 ∧ keepB f a b c d = true)
set_option maxHeartbeats 4000000 in
theorem keeps_any (f a b c d : Int) (w : World) (hf : frB f = true) (h : limB a b c d = true) :
  Calls Tryz.prog 166 #[.iface (planeT f) (.agg #[]), .agg #[.int .i64 a, .int .i64 b, .int .i64 c, .int .i64 d]] w fun e w' => e = .returned (.bool (keepB f a b c d)) ∧ Below w.heap.size w w' := by
 have hm := meth_f hf
 have he := ent_f hf
 have hah := ahead_f hf
 have HL := Lib.hid (lim_mid h)
 have hf01 : f = 0 ∨ f = 1 := frB_iff.1 hf
 go_enter Tryz.func166, Tryz.ntmps166
 go_wp2_with fail
 go_loopw [11] (fun i W => ∃ k : Int, i = .int .i64 k ∧ Hid (KeepAt f a b c d k) ∧ Kq w.heap.size a b c d W ∧ Below w.heap.size w W) (fun i _ => (3 - intOf i).toNat)
 case atStart => exact ⟨0, rfl, .inl rfl, Kq.at _ rfl, (Below.refl _ _).alloc (Nat.le_refl _) _⟩
 case round =>
  obtain ⟨k, rfl, hk, hK, hB⟩ := hrel
  have hz := hB.size
  have zk := hK.1
  rcases hk.out with rfl | ⟨rfl, h0⟩ | ⟨rfl, h0, h1⟩ | ⟨rfl, h0⟩
  ·clear hk
   have ix : ∀ w : World, (Instr.index 224 (.agg #[.int .i64 1, .int .i64 0, .int .i64 0, .int .i64 1, .int .i64 1, .int .i64 1]) (.int .i64 0)).run Tryz.prog w = .ok (.agg #[.int .i64 1, .int .i64 0]) w := fun _ => by kernel_rfl
   have K1 : Kq w.heap.size a b c d (wr.alloc (.cells #[.int .i64 1, .int .i64 0] 55)) := hK.alloc _
   have V1 : Kg wr.heap.size 1 0 (wr.alloc (.cells #[.int .i64 1, .int .i64 0] 55)) := Kg.at2 _ rfl
   have B1 : Below w.heap.size w (wr.alloc (.cells #[.int .i64 1, .int .i64 0] 55)) := hB.alloc hz _
   clear hK hB
   have HX : ∀ hx : Bool, (nrmI f a c == 1) = hx → (nrmI f a c != 1) = !hx := by rintro hx rfl; rfl
   rcases hx : (nrmI f a c == 1) with _ | _
   ·have hq := HX _ hx
    have HX1 := Lib.hid hx
    clear hx HX
    simp only [Bool.not_false, Bool.not_true] at hq
    go_wp2_with fail
    go_region_held3 (fun W => (W.cell? ⟨w.heap.size, 0, none⟩ = some (.int .i64 a) ∧ W.cell? ⟨w.heap.size, 1, none⟩ = some (.int .i64 b) ∧ W.cell? ⟨w.heap.size, 2, none⟩ = some (.int .i64 c) ∧ W.cell? ⟨w.heap.size, 3, none⟩ = some (.int .i64 d)) ∧ (W.cell? ⟨wr.heap.size, 0, none⟩ = some (.int .i64 1) ∧ W.cell? ⟨wr.heap.size, 1, none⟩ = some (.int .i64 0))) ((refine ⟨Kq.cells ?_, Kg.cells ?_⟩; (repeat (first | assumption | with_reducible refine Kq.alloc ?_ _ | with_reducible refine Kq.drew ?_ | with_reducible refine Kq.call ?_ (by assumption))); (repeat (first | assumption | with_reducible refine Kg.alloc ?_ _ | with_reducible refine Kg.drew ?_ | with_reducible refine Kg.call ?_ (by assumption)))))
     (first
      | (go_at_call 156; refine (app10 a b c d _ h).mono ?_; rintro e u1 ⟨rfl, hb1⟩; have K2 : Kq w.heap.size a b c d u1 := (by repeat (first | assumption | with_reducible refine Kq.alloc ?_ _ | with_reducible refine Kq.drew ?_ | with_reducible refine Kq.call ?_ (by assumption))); have V2 : Kg wr.heap.size 1 0 u1 := (by repeat (first | assumption | with_reducible refine Kg.alloc ?_ _ | with_reducible refine Kg.drew ?_ | with_reducible refine Kg.call ?_ (by assumption))); have B2 : Below w.heap.size w u1 := (by repeat (first | assumption | exact Below.refl _ _ | refine Below.setCell ?_ (by first | omega | (simp <;> omega)) _ | refine Below.alloc ?_ (by first | omega | (simp <;> omega)) _ | refine bstep ?_ (by assumption) | refine Below.drew ?_)))
      | (with_reducible refine (norm10 f _ hf).mono ?_; rintro e u3 ⟨rfl, hb3⟩; have K4 : Kq w.heap.size a b c d u3 := (by repeat (first | assumption | with_reducible refine Kq.alloc ?_ _ | with_reducible refine Kq.drew ?_ | with_reducible refine Kq.call ?_ (by assumption))); have V4 : Kg wr.heap.size 1 0 u3 := (by repeat (first | assumption | with_reducible refine Kg.alloc ?_ _ | with_reducible refine Kg.drew ?_ | with_reducible refine Kg.call ?_ (by assumption))); have B4 : Below w.heap.size w u3 := (by repeat (first | assumption | exact Below.refl _ _ | refine Below.setCell ?_ (by first | omega | (simp <;> omega)) _ | refine Below.alloc ?_ (by first | omega | (simp <;> omega)) _ | refine bstep ?_ (by assumption) | refine Below.drew ?_)))
      | (with_reducible refine (norm_any f _ _ _ hf (HL.out.1.1) (HL.out.1.2.2.1)).mono ?_; rintro e u2 ⟨rfl, hb2⟩; have K3 : Kq w.heap.size a b c d u2 := (by repeat (first | assumption | with_reducible refine Kq.alloc ?_ _ | with_reducible refine Kq.drew ?_ | with_reducible refine Kq.call ?_ (by assumption))); have V3 : Kg wr.heap.size 1 0 u2 := (by repeat (first | assumption | with_reducible refine Kg.alloc ?_ _ | with_reducible refine Kg.drew ?_ | with_reducible refine Kg.call ?_ (by assumption))); have B3 : Below w.heap.size w u2 := (by repeat (first | assumption | exact Below.refl _ _ | refine Below.setCell ?_ (by first | omega | (simp <;> omega)) _ | refine Below.alloc ?_ (by first | omega | (simp <;> omega)) _ | refine bstep ?_ (by assumption) | refine Below.drew ?_))))
    all_goals
     have hx := HX1.out
     go_wp2
     go_ret
     refine ⟨ret_bool (Eq.symm (show keepB f a b c d = false by simp [keepB, hx])), ?_⟩
     repeat (first | assumption | exact Below.refl _ _ | refine Below.setCell ?_ (by first | omega | (simp <;> omega)) _ | refine Below.alloc ?_ (by first | omega | (simp <;> omega)) _ | refine bstep ?_ (by assumption) | refine Below.drew ?_)
   ·have hq := HX _ hx
    have HX1 := Lib.hid hx
    clear hx HX
    simp only [Bool.not_false, Bool.not_true] at hq
    go_wp2_with fail
    go_region_held3 (fun W => (W.cell? ⟨w.heap.size, 0, none⟩ = some (.int .i64 a) ∧ W.cell? ⟨w.heap.size, 1, none⟩ = some (.int .i64 b) ∧ W.cell? ⟨w.heap.size, 2, none⟩ = some (.int .i64 c) ∧ W.cell? ⟨w.heap.size, 3, none⟩ = some (.int .i64 d)) ∧ (W.cell? ⟨wr.heap.size, 0, none⟩ = some (.int .i64 1) ∧ W.cell? ⟨wr.heap.size, 1, none⟩ = some (.int .i64 0))) ((refine ⟨Kq.cells ?_, Kg.cells ?_⟩; (repeat (first | assumption | with_reducible refine Kq.alloc ?_ _ | with_reducible refine Kq.drew ?_ | with_reducible refine Kq.call ?_ (by assumption))); (repeat (first | assumption | with_reducible refine Kg.alloc ?_ _ | with_reducible refine Kg.drew ?_ | with_reducible refine Kg.call ?_ (by assumption)))))
     (first
      | (go_at_call 156; refine (app10 a b c d _ h).mono ?_; rintro e u1 ⟨rfl, hb1⟩; have K2 : Kq w.heap.size a b c d u1 := (by repeat (first | assumption | with_reducible refine Kq.alloc ?_ _ | with_reducible refine Kq.drew ?_ | with_reducible refine Kq.call ?_ (by assumption))); have V2 : Kg wr.heap.size 1 0 u1 := (by repeat (first | assumption | with_reducible refine Kg.alloc ?_ _ | with_reducible refine Kg.drew ?_ | with_reducible refine Kg.call ?_ (by assumption))); have B2 : Below w.heap.size w u1 := (by repeat (first | assumption | exact Below.refl _ _ | refine Below.setCell ?_ (by first | omega | (simp <;> omega)) _ | refine Below.alloc ?_ (by first | omega | (simp <;> omega)) _ | refine bstep ?_ (by assumption) | refine Below.drew ?_)))
      | (with_reducible refine (norm10 f _ hf).mono ?_; rintro e u3 ⟨rfl, hb3⟩; have K4 : Kq w.heap.size a b c d u3 := (by repeat (first | assumption | with_reducible refine Kq.alloc ?_ _ | with_reducible refine Kq.drew ?_ | with_reducible refine Kq.call ?_ (by assumption))); have V4 : Kg wr.heap.size 1 0 u3 := (by repeat (first | assumption | with_reducible refine Kg.alloc ?_ _ | with_reducible refine Kg.drew ?_ | with_reducible refine Kg.call ?_ (by assumption))); have B4 : Below w.heap.size w u3 := (by repeat (first | assumption | exact Below.refl _ _ | refine Below.setCell ?_ (by first | omega | (simp <;> omega)) _ | refine Below.alloc ?_ (by first | omega | (simp <;> omega)) _ | refine bstep ?_ (by assumption) | refine Below.drew ?_)))
      | (with_reducible refine (norm_any f _ _ _ hf (HL.out.1.1) (HL.out.1.2.2.1)).mono ?_; rintro e u2 ⟨rfl, hb2⟩; have K3 : Kq w.heap.size a b c d u2 := (by repeat (first | assumption | with_reducible refine Kq.alloc ?_ _ | with_reducible refine Kq.drew ?_ | with_reducible refine Kq.call ?_ (by assumption))); have V3 : Kg wr.heap.size 1 0 u2 := (by repeat (first | assumption | with_reducible refine Kg.alloc ?_ _ | with_reducible refine Kg.drew ?_ | with_reducible refine Kg.call ?_ (by assumption))); have B3 : Below w.heap.size w u2 := (by repeat (first | assumption | exact Below.refl _ _ | refine Below.setCell ?_ (by first | omega | (simp <;> omega)) _ | refine Below.alloc ?_ (by first | omega | (simp <;> omega)) _ | refine bstep ?_ (by assumption) | refine Below.drew ?_))))
    all_goals
     have hx := HX1.out
     go_wp2
     go_roundw
     case rel => exact ⟨1, rfl, .inr (.inl ⟨rfl, hx⟩), by assumption, by assumption⟩
     case measure => simp [intOf]
  ·clear hk
   have ix : ∀ w : World, (Instr.index 224 (.agg #[.int .i64 1, .int .i64 0, .int .i64 0, .int .i64 1, .int .i64 1, .int .i64 1]) (.int .i64 1)).run Tryz.prog w = .ok (.agg #[.int .i64 0, .int .i64 1]) w := fun _ => by kernel_rfl
   have K1 : Kq w.heap.size a b c d (wr.alloc (.cells #[.int .i64 0, .int .i64 1] 55)) := hK.alloc _
   have V1 : Kg wr.heap.size 0 1 (wr.alloc (.cells #[.int .i64 0, .int .i64 1] 55)) := Kg.at2 _ rfl
   have B1 : Below w.heap.size w (wr.alloc (.cells #[.int .i64 0, .int .i64 1] 55)) := hB.alloc hz _
   clear hK hB
   have HX : ∀ hx : Bool, (nrmI f b d == 1) = hx → (nrmI f b d != 1) = !hx := by rintro hx rfl; rfl
   rcases hx : (nrmI f b d == 1) with _ | _
   ·have hq := HX _ hx
    have HX1 := Lib.hid hx
    clear hx HX
    simp only [Bool.not_false, Bool.not_true] at hq
    go_wp2_with fail
    go_region_held3 (fun W => (W.cell? ⟨w.heap.size, 0, none⟩ = some (.int .i64 a) ∧ W.cell? ⟨w.heap.size, 1, none⟩ = some (.int .i64 b) ∧ W.cell? ⟨w.heap.size, 2, none⟩ = some (.int .i64 c) ∧ W.cell? ⟨w.heap.size, 3, none⟩ = some (.int .i64 d)) ∧ (W.cell? ⟨wr.heap.size, 0, none⟩ = some (.int .i64 0) ∧ W.cell? ⟨wr.heap.size, 1, none⟩ = some (.int .i64 1))) ((refine ⟨Kq.cells ?_, Kg.cells ?_⟩; (repeat (first | assumption | with_reducible refine Kq.alloc ?_ _ | with_reducible refine Kq.drew ?_ | with_reducible refine Kq.call ?_ (by assumption))); (repeat (first | assumption | with_reducible refine Kg.alloc ?_ _ | with_reducible refine Kg.drew ?_ | with_reducible refine Kg.call ?_ (by assumption)))))
     (first
      | (go_at_call 156; refine (app01 a b c d _ h).mono ?_; rintro e u1 ⟨rfl, hb1⟩; have K2 : Kq w.heap.size a b c d u1 := (by repeat (first | assumption | with_reducible refine Kq.alloc ?_ _ | with_reducible refine Kq.drew ?_ | with_reducible refine Kq.call ?_ (by assumption))); have V2 : Kg wr.heap.size 0 1 u1 := (by repeat (first | assumption | with_reducible refine Kg.alloc ?_ _ | with_reducible refine Kg.drew ?_ | with_reducible refine Kg.call ?_ (by assumption))); have B2 : Below w.heap.size w u1 := (by repeat (first | assumption | exact Below.refl _ _ | refine Below.setCell ?_ (by first | omega | (simp <;> omega)) _ | refine Below.alloc ?_ (by first | omega | (simp <;> omega)) _ | refine bstep ?_ (by assumption) | refine Below.drew ?_)))
      | (with_reducible refine (norm01 f _ hf).mono ?_; rintro e u3 ⟨rfl, hb3⟩; have K4 : Kq w.heap.size a b c d u3 := (by repeat (first | assumption | with_reducible refine Kq.alloc ?_ _ | with_reducible refine Kq.drew ?_ | with_reducible refine Kq.call ?_ (by assumption))); have V4 : Kg wr.heap.size 0 1 u3 := (by repeat (first | assumption | with_reducible refine Kg.alloc ?_ _ | with_reducible refine Kg.drew ?_ | with_reducible refine Kg.call ?_ (by assumption))); have B4 : Below w.heap.size w u3 := (by repeat (first | assumption | exact Below.refl _ _ | refine Below.setCell ?_ (by first | omega | (simp <;> omega)) _ | refine Below.alloc ?_ (by first | omega | (simp <;> omega)) _ | refine bstep ?_ (by assumption) | refine Below.drew ?_)))
      | (with_reducible refine (norm_any f _ _ _ hf (HL.out.1.2.1) (HL.out.1.2.2.2)).mono ?_; rintro e u2 ⟨rfl, hb2⟩; have K3 : Kq w.heap.size a b c d u2 := (by repeat (first | assumption | with_reducible refine Kq.alloc ?_ _ | with_reducible refine Kq.drew ?_ | with_reducible refine Kq.call ?_ (by assumption))); have V3 : Kg wr.heap.size 0 1 u2 := (by repeat (first | assumption | with_reducible refine Kg.alloc ?_ _ | with_reducible refine Kg.drew ?_ | with_reducible refine Kg.call ?_ (by assumption))); have B3 : Below w.heap.size w u2 := (by repeat (first | assumption | exact Below.refl _ _ | refine Below.setCell ?_ (by first | omega | (simp <;> omega)) _ | refine Below.alloc ?_ (by first | omega | (simp <;> omega)) _ | refine bstep ?_ (by assumption) | refine Below.drew ?_))))
    all_goals
     have hx := HX1.out
     go_wp2
     go_ret
     refine ⟨ret_bool (Eq.symm (show keepB f a b c d = false by simp [keepB, hx])), ?_⟩
     repeat (first | assumption | exact Below.refl _ _ | refine Below.setCell ?_ (by first | omega | (simp <;> omega)) _ | refine Below.alloc ?_ (by first | omega | (simp <;> omega)) _ | refine bstep ?_ (by assumption) | refine Below.drew ?_)
   ·have hq := HX _ hx
    have HX1 := Lib.hid hx
    clear hx HX
    simp only [Bool.not_false, Bool.not_true] at hq
    go_wp2_with fail
    go_region_held3 (fun W => (W.cell? ⟨w.heap.size, 0, none⟩ = some (.int .i64 a) ∧ W.cell? ⟨w.heap.size, 1, none⟩ = some (.int .i64 b) ∧ W.cell? ⟨w.heap.size, 2, none⟩ = some (.int .i64 c) ∧ W.cell? ⟨w.heap.size, 3, none⟩ = some (.int .i64 d)) ∧ (W.cell? ⟨wr.heap.size, 0, none⟩ = some (.int .i64 0) ∧ W.cell? ⟨wr.heap.size, 1, none⟩ = some (.int .i64 1))) ((refine ⟨Kq.cells ?_, Kg.cells ?_⟩; (repeat (first | assumption | with_reducible refine Kq.alloc ?_ _ | with_reducible refine Kq.drew ?_ | with_reducible refine Kq.call ?_ (by assumption))); (repeat (first | assumption | with_reducible refine Kg.alloc ?_ _ | with_reducible refine Kg.drew ?_ | with_reducible refine Kg.call ?_ (by assumption)))))
     (first
      | (go_at_call 156; refine (app01 a b c d _ h).mono ?_; rintro e u1 ⟨rfl, hb1⟩; have K2 : Kq w.heap.size a b c d u1 := (by repeat (first | assumption | with_reducible refine Kq.alloc ?_ _ | with_reducible refine Kq.drew ?_ | with_reducible refine Kq.call ?_ (by assumption))); have V2 : Kg wr.heap.size 0 1 u1 := (by repeat (first | assumption | with_reducible refine Kg.alloc ?_ _ | with_reducible refine Kg.drew ?_ | with_reducible refine Kg.call ?_ (by assumption))); have B2 : Below w.heap.size w u1 := (by repeat (first | assumption | exact Below.refl _ _ | refine Below.setCell ?_ (by first | omega | (simp <;> omega)) _ | refine Below.alloc ?_ (by first | omega | (simp <;> omega)) _ | refine bstep ?_ (by assumption) | refine Below.drew ?_)))
      | (with_reducible refine (norm01 f _ hf).mono ?_; rintro e u3 ⟨rfl, hb3⟩; have K4 : Kq w.heap.size a b c d u3 := (by repeat (first | assumption | with_reducible refine Kq.alloc ?_ _ | with_reducible refine Kq.drew ?_ | with_reducible refine Kq.call ?_ (by assumption))); have V4 : Kg wr.heap.size 0 1 u3 := (by repeat (first | assumption | with_reducible refine Kg.alloc ?_ _ | with_reducible refine Kg.drew ?_ | with_reducible refine Kg.call ?_ (by assumption))); have B4 : Below w.heap.size w u3 := (by repeat (first | assumption | exact Below.refl _ _ | refine Below.setCell ?_ (by first | omega | (simp <;> omega)) _ | refine Below.alloc ?_ (by first | omega | (simp <;> omega)) _ | refine bstep ?_ (by assumption) | refine Below.drew ?_)))
      | (with_reducible refine (norm_any f _ _ _ hf (HL.out.1.2.1) (HL.out.1.2.2.2)).mono ?_; rintro e u2 ⟨rfl, hb2⟩; have K3 : Kq w.heap.size a b c d u2 := (by repeat (first | assumption | with_reducible refine Kq.alloc ?_ _ | with_reducible refine Kq.drew ?_ | with_reducible refine Kq.call ?_ (by assumption))); have V3 : Kg wr.heap.size 0 1 u2 := (by repeat (first | assumption | with_reducible refine Kg.alloc ?_ _ | with_reducible refine Kg.drew ?_ | with_reducible refine Kg.call ?_ (by assumption))); have B3 : Below w.heap.size w u2 := (by repeat (first | assumption | exact Below.refl _ _ | refine Below.setCell ?_ (by first | omega | (simp <;> omega)) _ | refine Below.alloc ?_ (by first | omega | (simp <;> omega)) _ | refine bstep ?_ (by assumption) | refine Below.drew ?_))))
    all_goals
     have hx := HX1.out
     go_wp2
     go_roundw
     case rel => exact ⟨2, rfl, .inr (.inr (.inl ⟨rfl, h0, hx⟩)), by assumption, by assumption⟩
     case measure => simp [intOf]
  ·clear hk
   have ix : ∀ w : World, (Instr.index 224 (.agg #[.int .i64 1, .int .i64 0, .int .i64 0, .int .i64 1, .int .i64 1, .int .i64 1]) (.int .i64 2)).run Tryz.prog w = .ok (.agg #[.int .i64 1, .int .i64 1]) w := fun _ => by kernel_rfl
   have K1 : Kq w.heap.size a b c d (wr.alloc (.cells #[.int .i64 1, .int .i64 1] 55)) := hK.alloc _
   have V1 : Kg wr.heap.size 1 1 (wr.alloc (.cells #[.int .i64 1, .int .i64 1] 55)) := Kg.at2 _ rfl
   have B1 : Below w.heap.size w (wr.alloc (.cells #[.int .i64 1, .int .i64 1] 55)) := hB.alloc hz _
   clear hK hB
   have HX : ∀ hx : Bool, (nrmI f (a + b) (c + d) == 2 + f) = hx → (nrmI f (a + b) (c + d) != 2 + f) = !hx := by rintro hx rfl; rfl
   rcases hx : (nrmI f (a + b) (c + d) == 2 + f) with _ | _
   ·have hq := HX _ hx
    have HX1 := Lib.hid hx
    clear hx HX
    simp only [Bool.not_false, Bool.not_true] at hq
    go_wp2_with fail
    go_region_held3 (fun W => (W.cell? ⟨w.heap.size, 0, none⟩ = some (.int .i64 a) ∧ W.cell? ⟨w.heap.size, 1, none⟩ = some (.int .i64 b) ∧ W.cell? ⟨w.heap.size, 2, none⟩ = some (.int .i64 c) ∧ W.cell? ⟨w.heap.size, 3, none⟩ = some (.int .i64 d)) ∧ (W.cell? ⟨wr.heap.size, 0, none⟩ = some (.int .i64 1) ∧ W.cell? ⟨wr.heap.size, 1, none⟩ = some (.int .i64 1))) ((refine ⟨Kq.cells ?_, Kg.cells ?_⟩; (repeat (first | assumption | with_reducible refine Kq.alloc ?_ _ | with_reducible refine Kq.drew ?_ | with_reducible refine Kq.call ?_ (by assumption))); (repeat (first | assumption | with_reducible refine Kg.alloc ?_ _ | with_reducible refine Kg.drew ?_ | with_reducible refine Kg.call ?_ (by assumption)))))
     (first
      | (go_at_call 156; refine (app11 a b c d _ h).mono ?_; rintro e u1 ⟨rfl, hb1⟩; have K2 : Kq w.heap.size a b c d u1 := (by repeat (first | assumption | with_reducible refine Kq.alloc ?_ _ | with_reducible refine Kq.drew ?_ | with_reducible refine Kq.call ?_ (by assumption))); have V2 : Kg wr.heap.size 1 1 u1 := (by repeat (first | assumption | with_reducible refine Kg.alloc ?_ _ | with_reducible refine Kg.drew ?_ | with_reducible refine Kg.call ?_ (by assumption))); have B2 : Below w.heap.size w u1 := (by repeat (first | assumption | exact Below.refl _ _ | refine Below.setCell ?_ (by first | omega | (simp <;> omega)) _ | refine Below.alloc ?_ (by first | omega | (simp <;> omega)) _ | refine bstep ?_ (by assumption) | refine Below.drew ?_)))
      | (with_reducible refine (norm11 f _ hf).mono ?_; rintro e u3 ⟨rfl, hb3⟩; have K4 : Kq w.heap.size a b c d u3 := (by repeat (first | assumption | with_reducible refine Kq.alloc ?_ _ | with_reducible refine Kq.drew ?_ | with_reducible refine Kq.call ?_ (by assumption))); have V4 : Kg wr.heap.size 1 1 u3 := (by repeat (first | assumption | with_reducible refine Kg.alloc ?_ _ | with_reducible refine Kg.drew ?_ | with_reducible refine Kg.call ?_ (by assumption))); have B4 : Below w.heap.size w u3 := (by repeat (first | assumption | exact Below.refl _ _ | refine Below.setCell ?_ (by first | omega | (simp <;> omega)) _ | refine Below.alloc ?_ (by first | omega | (simp <;> omega)) _ | refine bstep ?_ (by assumption) | refine Below.drew ?_)))
      | (with_reducible refine (norm_any f _ _ _ hf (HL.out.2.1) (HL.out.2.2)).mono ?_; rintro e u2 ⟨rfl, hb2⟩; have K3 : Kq w.heap.size a b c d u2 := (by repeat (first | assumption | with_reducible refine Kq.alloc ?_ _ | with_reducible refine Kq.drew ?_ | with_reducible refine Kq.call ?_ (by assumption))); have V3 : Kg wr.heap.size 1 1 u2 := (by repeat (first | assumption | with_reducible refine Kg.alloc ?_ _ | with_reducible refine Kg.drew ?_ | with_reducible refine Kg.call ?_ (by assumption))); have B3 : Below w.heap.size w u2 := (by repeat (first | assumption | exact Below.refl _ _ | refine Below.setCell ?_ (by first | omega | (simp <;> omega)) _ | refine Below.alloc ?_ (by first | omega | (simp <;> omega)) _ | refine bstep ?_ (by assumption) | refine Below.drew ?_))))
    all_goals
     have hx := HX1.out
     go_wp2
     go_ret
     refine ⟨ret_bool (Eq.symm (show keepB f a b c d = false by simp only [keepB, hx, Bool.and_false])), ?_⟩
     repeat (first | assumption | exact Below.refl _ _ | refine Below.setCell ?_ (by first | omega | (simp <;> omega)) _ | refine Below.alloc ?_ (by first | omega | (simp <;> omega)) _ | refine bstep ?_ (by assumption) | refine Below.drew ?_)
   ·have hq := HX _ hx
    have HX1 := Lib.hid hx
    clear hx HX
    simp only [Bool.not_false, Bool.not_true] at hq
    go_wp2_with fail
    go_region_held3 (fun W => (W.cell? ⟨w.heap.size, 0, none⟩ = some (.int .i64 a) ∧ W.cell? ⟨w.heap.size, 1, none⟩ = some (.int .i64 b) ∧ W.cell? ⟨w.heap.size, 2, none⟩ = some (.int .i64 c) ∧ W.cell? ⟨w.heap.size, 3, none⟩ = some (.int .i64 d)) ∧ (W.cell? ⟨wr.heap.size, 0, none⟩ = some (.int .i64 1) ∧ W.cell? ⟨wr.heap.size, 1, none⟩ = some (.int .i64 1))) ((refine ⟨Kq.cells ?_, Kg.cells ?_⟩; (repeat (first | assumption | with_reducible refine Kq.alloc ?_ _ | with_reducible refine Kq.drew ?_ | with_reducible refine Kq.call ?_ (by assumption))); (repeat (first | assumption | with_reducible refine Kg.alloc ?_ _ | with_reducible refine Kg.drew ?_ | with_reducible refine Kg.call ?_ (by assumption)))))
     (first
      | (go_at_call 156; refine (app11 a b c d _ h).mono ?_; rintro e u1 ⟨rfl, hb1⟩; have K2 : Kq w.heap.size a b c d u1 := (by repeat (first | assumption | with_reducible refine Kq.alloc ?_ _ | with_reducible refine Kq.drew ?_ | with_reducible refine Kq.call ?_ (by assumption))); have V2 : Kg wr.heap.size 1 1 u1 := (by repeat (first | assumption | with_reducible refine Kg.alloc ?_ _ | with_reducible refine Kg.drew ?_ | with_reducible refine Kg.call ?_ (by assumption))); have B2 : Below w.heap.size w u1 := (by repeat (first | assumption | exact Below.refl _ _ | refine Below.setCell ?_ (by first | omega | (simp <;> omega)) _ | refine Below.alloc ?_ (by first | omega | (simp <;> omega)) _ | refine bstep ?_ (by assumption) | refine Below.drew ?_)))
      | (with_reducible refine (norm11 f _ hf).mono ?_; rintro e u3 ⟨rfl, hb3⟩; have K4 : Kq w.heap.size a b c d u3 := (by repeat (first | assumption | with_reducible refine Kq.alloc ?_ _ | with_reducible refine Kq.drew ?_ | with_reducible refine Kq.call ?_ (by assumption))); have V4 : Kg wr.heap.size 1 1 u3 := (by repeat (first | assumption | with_reducible refine Kg.alloc ?_ _ | with_reducible refine Kg.drew ?_ | with_reducible refine Kg.call ?_ (by assumption))); have B4 : Below w.heap.size w u3 := (by repeat (first | assumption | exact Below.refl _ _ | refine Below.setCell ?_ (by first | omega | (simp <;> omega)) _ | refine Below.alloc ?_ (by first | omega | (simp <;> omega)) _ | refine bstep ?_ (by assumption) | refine Below.drew ?_)))
      | (with_reducible refine (norm_any f _ _ _ hf (HL.out.2.1) (HL.out.2.2)).mono ?_; rintro e u2 ⟨rfl, hb2⟩; have K3 : Kq w.heap.size a b c d u2 := (by repeat (first | assumption | with_reducible refine Kq.alloc ?_ _ | with_reducible refine Kq.drew ?_ | with_reducible refine Kq.call ?_ (by assumption))); have V3 : Kg wr.heap.size 1 1 u2 := (by repeat (first | assumption | with_reducible refine Kg.alloc ?_ _ | with_reducible refine Kg.drew ?_ | with_reducible refine Kg.call ?_ (by assumption))); have B3 : Below w.heap.size w u2 := (by repeat (first | assumption | exact Below.refl _ _ | refine Below.setCell ?_ (by first | omega | (simp <;> omega)) _ | refine Below.alloc ?_ (by first | omega | (simp <;> omega)) _ | refine bstep ?_ (by assumption) | refine Below.drew ?_))))
    all_goals
     have hx := HX1.out
     go_wp2
     go_roundw
     case rel => exact ⟨3, rfl, .inr (.inr (.inr ⟨rfl, by simp only [keepB, h0, h1, hx]; rfl⟩)), by assumption, by assumption⟩
     case measure => simp [intOf]
  ·have HX1 := Lib.hid h0
   clear h0 hk
   go_wp2
   go_ret
   exact ⟨ret_bool HX1.out.symm, hB⟩
end
end Go.Proofs.YtdgophfembpniaaGreatDoor

namespace Go.Proofs.YtdgophfembpniaaGreatDoor
section
open Go.RowKit
set_option linter.unusedSimpArgs false
set_option linter.unusedVariables false

set_option maxHeartbeats 4000000 in
theorem l01AddM_any (x y x' y' : Int) (w : World) (hx : midI (x + x')) (hy : midI (y + y')) :
  Calls Tryz.prog 141 #[.agg #[.int .i64 x, .int .i64 y], .agg #[.int .i64 x', .int .i64 y']] w fun e w' => e = .returned (.agg #[.int .i64 (x + x'), .int .i64 (y + y')]) ∧ Below w.heap.size w w' := by
 unfold midI at hx hy
 obtain ⟨_, _⟩ := hx
 obtain ⟨_, _⟩ := hy
 go_enter Tryz.func141, Tryz.ntmps141
 go_wp2
 refine bodyPost_ret (v := .agg #[.int .i64 (x + x'), .int .i64 (y + y')]) (by simp [results, Tryz.results141, go_sem]) rfl ⟨rfl, ?_⟩
 repeat (first | exact Below.refl _ _ | refine Below.setCell ?_ (by simp) _ | refine Below.alloc ?_ (by simp; try omega) _)
theorem keepB_1 {f a b c d : Int} (h : (nrmI f a c == 1) = false) : keepB f a b c d = false := by simp [keepB, h]
theorem keepB_2 {f a b c d : Int} (h : (nrmI f b d == 1) = false) : keepB f a b c d = false := by simp [keepB, h]
theorem keepB_3 {f a b c d : Int} (h : (nrmI f (a + b) (c + d) == 2 + f) = false) : keepB f a b c d = false := by simp only [keepB, h, Bool.and_false]
theorem keepB_4 {f a b c d : Int} (h0 : (nrmI f a c == 1) = true) (h1 : (nrmI f b d == 1) = true) (h : (nrmI f (a + b) (c + d) == 2 + f) = true) : keepB f a b c d = true := by simp only [keepB, h0, h1, h]; rfl
def MidKeep (w : World) (a b c d : Int) (s5 s6 : Value) (wx : World) : Prop :=
 ∃ g h : Nat, s5 = .pointer (some ⟨g, 0, none⟩) ∧ s6 = .pointer (some ⟨h, 0, none⟩) ∧ Kg g a c wx ∧ Kg h b d wx ∧ Below w.heap.size w wx
set_option maxHeartbeats 4000000 in
theorem l04Keeps_any (f a b c d : Int) (w : World) (hf : frB f = true) (h : limB a b c d = true) :
  Calls Tryz.prog 160 #[.int .i64 f, .agg #[.int .i64 a, .int .i64 b, .int .i64 c, .int .i64 d]] w fun e w' => e = .returned (.bool (keepB f a b c d)) ∧ Below w.heap.size w w' := by
 obtain ⟨⟨ma, mb, mc, md⟩, mab, mcd⟩ := lim_mid h
 have MA := Lib.hid ma
 have MB := Lib.hid mb
 have MC := Lib.hid mc
 have MD := Lib.hid md
 have MAB := Lib.hid mab
 have MCD := Lib.hid mcd
 have hf01 : 0 ≤ f ∧ f ≤ 1 := by rcases frB_iff.1 hf with rfl | rfl <;> omega
 obtain ⟨f0, f1⟩ := hf01
 clear ma mb mc md mab mcd h
 go_enter Tryz.func160, Tryz.ntmps160
 go_upto_region 1 with fail
 go_cut [5, 6] (fun s5 s6 wx => MidKeep w a b c d s5 s6 wx)
 case first =>
  go_region_held3 (fun W => W.cell? ⟨w.heap.size, 0, none⟩ = some (.int .i64 a) ∧ W.cell? ⟨w.heap.size, 1, none⟩ = some (.int .i64 b) ∧ W.cell? ⟨w.heap.size, 2, none⟩ = some (.int .i64 c) ∧ W.cell? ⟨w.heap.size, 3, none⟩ = some (.int .i64 d)) (simp [go_sem]) (fail)
  all_goals
   go_wp2_with fail
   go_meet
   refine ⟨_, _, rfl, rfl, ⟨by simp, by simp [go_sem], by simp [go_sem]⟩, ⟨by simp, by simp [go_sem], by simp [go_sem]⟩, ?_⟩
   repeat (first | exact Below.refl _ _ | refine Below.setCell ?_ (by first | omega | (simp <;> omega)) _ | refine Below.alloc ?_ (by first | omega | (simp <;> omega)) _ | refine bstep ?_ (by assumption) | refine Below.drew ?_)
 case rest =>
  obtain ⟨g, h, rfl, rfl, KA, KB, B0⟩ := hcut
  rcases h0 : (nrmI f a c == 1) with _ | _
  ·have E := Lib.hid (keepB_1 (b := b) (d := d) h0)
   obtain ⟨i0, i1, i2⟩ := id KA
   go_wp2_with fail
   refine (l04Norm_any _ _ _ _ hf MA.out MC.out).mono ?_
   rintro e w1 ⟨rfl, hb1⟩
   have B1 := bstep B0 hb1
   go_wp2
   go_ret
   exact ⟨ret_bool E.out.symm, B1⟩
  rcases h1 : (nrmI f b d == 1) with _ | _
  ·have E := Lib.hid (keepB_2 (a := a) (c := c) h1)
   obtain ⟨i0, i1, i2⟩ := id KA
   go_wp2_with fail
   refine (l04Norm_any _ _ _ _ hf MA.out MC.out).mono ?_
   rintro e w1 ⟨rfl, hb1⟩
   have B1 := bstep B0 hb1
   have K2 := KB.call hb1
   obtain ⟨k0, k1, k2⟩ := id K2
   clear hb1
   go_wp2_with fail
   refine (l04Norm_any _ _ _ _ hf MB.out MD.out).mono ?_
   rintro e w2 ⟨rfl, hb2⟩
   go_wp2
   go_ret
   exact ⟨ret_bool E.out.symm, bstep B1 hb2⟩
  have HN : ∀ q : Bool, (nrmI f (a + b) (c + d) == 2 + f) = q → keepB f a b c d = q := by
   intro q hq
   cases q
   ·exact keepB_3 hq
   ·exact keepB_4 h0 h1 hq
  have E := Lib.hid (HN _ rfl)
  have H2 := Lib.hid (show (nrmI f (a + b) (c + d) == 2 + f) = keepB f a b c d from (HN _ rfl).symm)
  clear HN
  obtain ⟨i0, i1, i2⟩ := id KA
  go_wp2_with fail
  refine (l04Norm_any _ _ _ _ hf MA.out MC.out).mono ?_
  rintro e w1 ⟨rfl, hb1⟩
  have B1 := bstep B0 hb1
  have K1 := KA.call hb1
  have K2 := KB.call hb1
  clear hb1 i0 i1 i2 KA KB B0
  obtain ⟨i0, i1, i2⟩ := id K1
  obtain ⟨k0, k1, k2⟩ := id K2
  go_wp2_with fail
  refine (l04Norm_any _ _ _ _ hf MB.out MD.out).mono ?_
  rintro e w2 ⟨rfl, hb2⟩
  have K3 := K1.call hb2
  have K4 := K2.call hb2
  have B2 := bstep B1 hb2
  clear hb2 i0 i1 i2 k0 k1 k2 K1 K2 B1
  obtain ⟨i0, i1, i2⟩ := id K3
  obtain ⟨k0, k1, k2⟩ := id K4
  go_wp2_with fail
  refine (l01AddM_any _ _ _ _ _ MAB.out MCD.out).mono ?_
  rintro e w3 ⟨rfl, hb3⟩
  have B3 := bstep B2 hb3
  clear hb3
  go_wp2_with fail
  refine (l04Norm_any _ _ _ _ hf MAB.out MCD.out).mono ?_
  rintro e w4 ⟨rfl, hb4⟩
  have B4 := bstep B3 hb4
  clear hb4
  go_wp2
  all_goals
   go_ret
   exact ⟨ret_bool (by first | exact H2.out | (rw [E.out]; simp_all) | simp_all), B4⟩
/- point matrices -/
def pmB (f a b c d : Int) : Bool := frB f && matB a b c d && keepB f a b c d
set_option maxHeartbeats 4000000 in
theorem implIsPoint_any (f a b c d : Int) (w : World) :
  Calls Tryz.prog 144 #[.int .i64 f, .agg #[.int .i64 a, .int .i64 b, .int .i64 c, .int .i64 d]] w fun e w' => e = .returned (.bool (pmB f a b c d)) ∧ Below w.heap.size w w' := by
 have B0 : Below w.heap.size w (w.alloc (.cells #[.int .i64 a, .int .i64 b, .int .i64 c, .int .i64 d] 79)) := (Below.refl _ _).alloc (Nat.le_refl _) _
 have K0 : Kq w.heap.size a b c d (w.alloc (.cells #[.int .i64 a, .int .i64 b, .int .i64 c, .int .i64 d] 79)) := Kq.at _ rfl
 rcases h : frB f with _ | _
 ·have E := Lib.hid (show pmB f a b c d = false by simp [pmB, h])
  go_enter Tryz.func144, Tryz.ntmps144
  go_wp2_with fail
  refine (planeOf_no _ _ h).mono ?_
  rintro e w1 ⟨rfl, hb1⟩
  go_wp2
  go_ret
  exact ⟨ret_bool E.out.symm, bstep B0 hb1⟩
 rcases hm : matB a b c d with _ | _
 ·have E := Lib.hid (show pmB f a b c d = false by simp [pmB, hm])
  go_enter Tryz.func144, Tryz.ntmps144
  go_wp2_with fail
  refine (planeOf_yes _ _ h).mono ?_
  rintro e w1 ⟨rfl, hb1⟩
  have K1 := K0.call hb1
  have B1 := bstep B0 hb1
  obtain ⟨k0, k1, k2, k3, k4⟩ := id K1
  go_wp2_with fail
  refine (implIsMat_any _ _ _ _ _).mono ?_
  rintro e w2 ⟨rfl, hb2⟩
  rw [hm]
  go_wp2
  go_ret
  exact ⟨ret_bool E.out.symm, bstep B1 hb2⟩
 ·have E := Lib.hid (show pmB f a b c d = keepB f a b c d by simp [pmB, h, hm])
  have hl := matB_lim hm
  go_enter Tryz.func144, Tryz.ntmps144
  go_wp2_with fail
  refine (planeOf_yes _ _ h).mono ?_
  rintro e w1 ⟨rfl, hb1⟩
  have K1 := K0.call hb1
  have B1 := bstep B0 hb1
  obtain ⟨k0, k1, k2, k3, k4⟩ := id K1
  go_wp2_with fail
  refine (implIsMat_any _ _ _ _ _).mono ?_
  rintro e w2 ⟨rfl, hb2⟩
  rw [hm]
  have K2 := K1.call hb2
  have B2 := bstep B1 hb2
  clear k0 k1 k2 k3 k4
  obtain ⟨k0, k1, k2, k3, k4⟩ := id K2
  go_wp2_with fail
  refine (matrixOf_any _ _ _ _ _).mono ?_
  rintro e w3 ⟨rfl, hb3⟩
  have B3 := bstep B2 hb3
  go_wp2_with fail
  refine (keeps_any _ _ _ _ _ _ h hl).mono ?_
  rintro e w4 ⟨rfl, hb4⟩
  have B4 := bstep B3 hb4
  generalize keepB f a b c d = q at *
  go_wp2
  all_goals
   first
   | (go_ret; exact ⟨ret_bool (by rw [E.out]; simp_all), B4⟩)
   | (go_ret; exact ⟨ret_bool (by rw [E.out]), B4⟩)
set_option maxHeartbeats 4000000 in
theorem specIsPoint_any (f a b c d : Int) (w : World) :
  Calls Tryz.prog 135 #[.int .i64 f, .agg #[.int .i64 a, .int .i64 b, .int .i64 c, .int .i64 d]] w fun e w' => e = .returned (.bool (pmB f a b c d)) ∧ Below w.heap.size w w' := by
 have B0 : Below w.heap.size w (w.alloc (.cells #[.int .i64 a, .int .i64 b, .int .i64 c, .int .i64 d] 79)) := (Below.refl _ _).alloc (Nat.le_refl _) _
 have K0 : Kq w.heap.size a b c d (w.alloc (.cells #[.int .i64 a, .int .i64 b, .int .i64 c, .int .i64 d] 79)) := Kq.at _ rfl
 rcases h : frB f with _ | _
 ·have E := Lib.hid (show pmB f a b c d = false by simp [pmB, h])
  go_enter Tryz.func135, Tryz.ntmps135
  go_wp2_with fail
  refine (specIsFrame_any _ _).mono ?_
  rintro e w1 ⟨rfl, rfl⟩
  rw [h]
  go_wp2
  go_ret
  exact ⟨ret_bool E.out.symm, B0⟩
 rcases hm : matB a b c d with _ | _
 ·have E := Lib.hid (show pmB f a b c d = false by simp [pmB, hm])
  go_enter Tryz.func135, Tryz.ntmps135
  go_wp2_with fail
  refine (specIsFrame_any _ _).mono ?_
  rintro e w1 ⟨rfl, rfl⟩
  rw [h]
  go_wp2_with fail
  refine (specIsMat_any _ _ _ _ _).mono ?_
  rintro e w2 ⟨rfl, hb2⟩
  rw [hm]
  go_wp2
  go_ret
  exact ⟨ret_bool E.out.symm, bstep B0 hb2⟩
 ·have E := Lib.hid (show pmB f a b c d = keepB f a b c d by simp [pmB, h, hm])
  have hl := matB_lim hm
  go_enter Tryz.func135, Tryz.ntmps135
  go_wp2_with fail
  refine (specIsFrame_any _ _).mono ?_
  rintro e w1 ⟨rfl, rfl⟩
  rw [h]
  go_wp2_with fail
  refine (specIsMat_any _ _ _ _ _).mono ?_
  rintro e w2 ⟨rfl, hb2⟩
  rw [hm]
  have K2 := K0.call hb2
  have B2 := bstep B0 hb2
  obtain ⟨k0, k1, k2, k3, k4⟩ := id K2
  go_wp2_with fail
  refine (l04Keeps_any _ _ _ _ _ _ h hl).mono ?_
  rintro e w4 ⟨rfl, hb4⟩
  have B4 := bstep B2 hb4
  generalize keepB f a b c d = q at *
  go_wp2
  all_goals
   first
   | (go_ret; exact ⟨ret_bool (by rw [E.out]; simp_all), B4⟩)
   | (go_ret; exact ⟨ret_bool (by rw [E.out]), B4⟩)
end
end Go.Proofs.YtdgophfembpniaaGreatDoor

namespace Go.Proofs.YtdgophfembpniaaGreatDoor
section
open Go.RowKit
set_option linter.unusedVariables false
set_option linter.unusedSimpArgs false

theorem snocInd {α : Type} {motive : List α → Prop} (nil : motive []) (snoc : ∀ L v, motive L → motive (L ++ [v])) (L : List α) : motive L := by
 rw [← List.reverse_reverse L]
 induction L.reverse with
 | nil => simpa using nil
 | cons v T ih => rw [List.reverse_cons]; exact snoc _ _ ih
def nrmV (f : Int) (v : Int × Int) : Int := nrmI f v.1 v.2
/- the vectors with the least norm, collected from the left -/
def shStep (f : Int) (S : List (Int × Int)) (v : Int × Int) : List (Int × Int) :=
 match S with
 | [] => [v]
 | h :: T => if nrmV f h < nrmV f v then h :: T else if nrmV f v < nrmV f h then [v] else (h :: T) ++ [v]
def shortL (f : Int) (L : List (Int × Int)) : List (Int × Int) := L.foldl (shStep f) []
theorem shortL_snoc (f : Int) (L : List (Int × Int)) (v : Int × Int) : shortL f (L ++ [v]) = shStep f (shortL f L) v := by simp [shortL]
theorem shortL_spec (f : Int) (L : List (Int × Int)) : (L = [] ∧ shortL f L = []) ∨ ∃ m : Int, (∀ w ∈ L, m ≤ nrmV f w) ∧ (∃ w ∈ L, nrmV f w = m) ∧ shortL f L = L.filter (fun w => decide (nrmV f w = m)) := by
 induction L using snocInd with
 | nil => left; exact ⟨rfl, rfl⟩
 | snoc L v ih =>
  right
  rw [shortL_snoc]
  rcases ih with ⟨rfl, h⟩ | ⟨m, h1, ⟨w0, h2, h2'⟩, h3⟩
  ·refine ⟨nrmV f v, by simp, ⟨v, by simp, rfl⟩, ?_⟩
   rw [h]; simp [shStep]
  ·have hne : ∃ h T, shortL f L = h :: T ∧ nrmV f h = m := by
    cases hs : shortL f L with
    | nil =>
     rw [hs] at h3
     have : w0 ∈ L.filter (fun w => decide (nrmV f w = m)) := by simp [h2, h2']
     rw [← h3] at this
     simp at this
    | cons h T =>
     refine ⟨h, T, rfl, ?_⟩
     have : h ∈ L.filter (fun w => decide (nrmV f w = m)) := by rw [← h3, hs]; simp
     simpa using (List.mem_filter.1 this).2
   obtain ⟨h, T, hs, hm⟩ := hne
   rw [hs]
   simp only [shStep]
   rw [hm]
   by_cases c1 : m < nrmV f v
   ·rw [if_pos c1]
    refine ⟨m, ?_, ⟨w0, by simp [h2], h2'⟩, ?_⟩
    ·intro w hw
     rw [List.mem_append] at hw
     rcases hw with hw | hw
     ·exact h1 w hw
     ·simp at hw; subst hw; omega
    ·rw [List.filter_append, ← h3, hs]
     have : ¬ nrmV f v = m := by omega
     simp [this]
   ·rw [if_neg c1]
    by_cases c2 : nrmV f v < m
    ·rw [if_pos c2]
     refine ⟨nrmV f v, ?_, ⟨v, by simp, rfl⟩, ?_⟩
     ·intro w hw
      rw [List.mem_append] at hw
      rcases hw with hw | hw
      ·have := h1 w hw; omega
      ·simp at hw; subst hw; omega
     ·rw [List.filter_append]
      have : L.filter (fun w => decide (nrmV f w = nrmV f v)) = [] := by
       rw [List.filter_eq_nil_iff]
       intro w hw
       have := h1 w hw
       simp; omega
      rw [this]; simp
    ·rw [if_neg c2]
     refine ⟨m, ?_, ⟨w0, by simp [h2], h2'⟩, ?_⟩
     ·intro w hw
      rw [List.mem_append] at hw
      rcases hw with hw | hw
      ·exact h1 w hw
      ·simp at hw; subst hw; omega
     ·rw [List.filter_append, ← h3, hs]
      have : nrmV f v = m := by omega
      simp [this]
theorem shortL_mem {f : Int} {L : List (Int × Int)} {v : Int × Int} : v ∈ shortL f L ↔ v ∈ L ∧ ∀ w ∈ L, nrmV f v ≤ nrmV f w := by
 rcases shortL_spec f L with ⟨rfl, h⟩ | ⟨m, h1, ⟨w0, h2, h2'⟩, h3⟩
 ·rw [h]; simp
 ·rw [h3, List.mem_filter]
  constructor
  ·rintro ⟨hv, hm⟩
   have hm := of_decide_eq_true hm
   exact ⟨hv, fun w hw => by rw [hm]; exact h1 w hw⟩
  ·rintro ⟨hv, hm⟩
   have e1 := h1 v hv
   have e2 := hm w0 h2
   exact ⟨hv, decide_eq_true (by omega)⟩
theorem shortL_sorted {f : Int} {L : List (Int × Int)} (h : L.Pairwise lexlt) : (shortL f L).Pairwise lexlt := by
 rcases shortL_spec f L with ⟨rfl, h'⟩ | ⟨m, _, _, h3⟩
 ·rw [h']; exact List.Pairwise.nil
 ·rw [h3]; exact List.Pairwise.filter _ h
theorem shortL_ne {f : Int} {L : List (Int × Int)} (h : L ≠ []) : shortL f L ≠ [] := by
 rcases shortL_spec f L with ⟨rfl, h'⟩ | ⟨m, _, ⟨w0, h2, h2'⟩, h3⟩
 ·exact absurd rfl h
 ·intro e
  have : w0 ∈ shortL f L := by rw [h3, List.mem_filter]; exact ⟨h2, decide_eq_true h2'⟩
  rw [e] at this
  simp at this
theorem last_max : ∀ {L : List (Int × Int)} (h : L ≠ []), L.Pairwise lexlt → ∀ w ∈ L, w = L.getLast h ∨ lexlt w (L.getLast h)
 | [a], _, _, w, hw => by simp at hw; left; simpa using hw
 | a :: b :: L, _, hp, w, hw => by
  rw [List.pairwise_cons] at hp
  rw [List.getLast_cons (by simp)]
  rw [List.mem_cons] at hw
  rcases hw with rfl | hw
  ·right; exact hp.1 _ (List.getLast_mem _)
  ·exact last_max (by simp) hp.2 w hw

/- the shortest vectors of a lattice -/
theorem nrm_A0 (f A : Int) : nrmI f A 0 = A * A := by unfold nrmI; simp
/- the eight neighbours -/
def nbC : List (Int × Int) := [(1, 0), (-1, 0), (0, 1), (0, -1), (1, 1), (-1, -1), (1, -1), (-1, 1)]
def cmb (ux uy vx vy : Int) (c : Int × Int) : Int × Int := (c.1 * ux + c.2 * vx, c.1 * uy + c.2 * vy)
def nbL (ux uy vx vy : Int) : List (Int × Int) := nbC.map (cmb ux uy vx vy)
theorem nbC_mem {a b : Int} : (a, b) ∈ nbC ↔ ((-1 ≤ a ∧ a ≤ 1) ∧ (-1 ≤ b ∧ b ≤ 1)) ∧ ¬ (a = 0 ∧ b = 0) := by
 simp only [nbC, List.mem_cons, Prod.mk.injEq, List.not_mem_nil, or_false]
 omega
theorem nb_mem {ux uy vx vy : Int} {w : Int × Int} : w ∈ nbL ux uy vx vy ↔ ∃ a b : Int, (((-1 ≤ a ∧ a ≤ 1) ∧ (-1 ≤ b ∧ b ≤ 1)) ∧ ¬ (a = 0 ∧ b = 0)) ∧ w = (a * ux + b * vx, a * uy + b * vy) := by
 unfold nbL
 rw [List.mem_map]
 constructor
 ·rintro ⟨⟨a, b⟩, h1, rfl⟩
  exact ⟨a, b, nbC_mem.1 h1, rfl⟩
 ·rintro ⟨a, b, h1, rfl⟩
  exact ⟨(a, b), nbC_mem.2 h1, rfl⟩
theorem comb_inj {ux uy vx vy a b a' b' : Int} (hd : ux * vy - uy * vx ≠ 0) (h1 : a * ux + b * vx = a' * ux + b' * vx) (h2 : a * uy + b * vy = a' * uy + b' * vy) : a = a' ∧ b = b' := by
 constructor
 ·exact Int.eq_of_mul_eq_mul_left hd (by grind)
 ·exact Int.eq_of_mul_eq_mul_left hd (by grind)
structure Gau (f A B C ux uy vx vy : Int) : Prop where
 bas : Bas A B C ux uy vx vy
 red : Red f ux uy vx vy
 small : nrmI f vx vy ≤ 12288
theorem latI_ne {A B C : Int} (h : latI A B C) : A * C ≠ 0 := by
 have := Int.mul_le_mul h.1 h.2.1 (by omega) (by have := h.1; omega)
 omega
theorem Bas.det {A B C ux uy vx vy : Int} (h0 : A * C ≠ 0) (h : Bas A B C ux uy vx vy) : ux * vy - uy * vx ≠ 0 := by
 rcases h.hd with e | e <;> omega
theorem Bas.une {A B C ux uy vx vy : Int} (h0 : A * C ≠ 0) (h : Bas A B C ux uy vx vy) : ¬ (ux = 0 ∧ uy = 0) := by
 rintro ⟨rfl, rfl⟩
 have := h.det h0
 simp at this
/- a short sum of multiples is one of the eight, or a multiple of the first vector -/
theorem Gau.short {f A B C ux uy vx vy a b : Int} (hf : frB f = true) (h0 : A * C ≠ 0) (h : Gau f A B C ux uy vx vy) (hw : nrmI f (a * ux + b * vx) (a * uy + b * vy) ≤ nrmI f vx vy) :
  b = 0 ∨ ((-1 ≤ a ∧ a ≤ 1) ∧ (-1 ≤ b ∧ b ≤ 1)) := by
 rw [nrm_comb] at hw
 exact small_comb (nrm_pos hf (h.bas.une h0)) h.red.hpq h.red.lo h.red.hi hw
theorem Gau.nb_in {f A B C ux uy vx vy : Int} (h0 : A * C ≠ 0) (h : Gau f A B C ux uy vx vy) {w : Int × Int} (hw : w ∈ nbL ux uy vx vy) : inL A B C w.1 w.2 ∧ ¬ (w.1 = 0 ∧ w.2 = 0) := by
 obtain ⟨a, b, ⟨_, hne⟩, rfl⟩ := nb_mem.1 hw
 refine ⟨inL_comb h.bas.hu h.bas.hv a b, ?_⟩
 rintro ⟨e1, e2⟩
 exact hne (comb_inj (h.bas.det h0) (a' := 0) (b' := 0) (by simpa using e1) (by simpa using e2))
/- there is a reduced basis -/
theorem Bas.reduce {f A B C : Int} (hf : frB f = true) (h0 : A * C ≠ 0) : ∀ (n : Nat) (ux uy vx vy : Int), (nrmI f ux uy).toNat ≤ n → Bas A B C ux uy vx vy → nrmI f ux uy ≤ 12288 → nrmI f vx vy ≤ 12288 →
  ∃ ux uy vx vy, Gau f A B C ux uy vx vy := by
 intro n
 induction n with
 | zero =>
  intro ux uy vx vy hn hb _ _
  have := nrm_pos hf (hb.une h0)
  omega
 | succ n ih =>
  intro ux uy vx vy hn hb h1 h2
  have hp := nrm_pos hf (hb.une h0)
  obtain ⟨t1, t2, t3⟩ := round_t (t := tI f ux uy vx vy) hp rfl
  generalize (nrmI f ux uy + tI f ux uy vx vy) / (2 * nrmI f ux uy) = k at *
  obtain ⟨e1, e2⟩ := nrm_shift f ux uy vx vy k
  have hb' := hb.add (-k)
  by_cases c : nrmI f ux uy ≤ nrmI f (vx + ux * -k) (vy + uy * -k)
  ·exact ⟨ux, uy, _, _, ⟨hb', ⟨c, by omega, by omega⟩, by omega⟩⟩
  ·exact ih _ _ _ _ (by omega) hb'.swap (by omega) (by omega)
theorem Gau.ex {f A B C : Int} (hf : frB f = true) (h : latI A B C) : ∃ ux uy vx vy, Gau f A B C ux uy vx vy := by
 have hA := h.1
 have hA2 : A ≤ 64 := by have := Int.mul_le_mul_of_nonneg_left h.2.1 (show 0 ≤ A by omega); have := h.2.2.2.2; omega
 have hC2 : C ≤ 64 := by have := Int.mul_le_mul_of_nonneg_right h.1 (show 0 ≤ C by have := h.2.1; omega); have := h.2.2.2.2; omega
 have hC := h.2.1
 have hB := h.2.2.1
 have hB2 := h.2.2.2.1
 have e1 : A * A ≤ 64 * 64 := Int.mul_le_mul hA2 hA2 (by omega) (by omega)
 have e2 : B * B ≤ 64 * 64 := Int.mul_le_mul (by omega) (by omega) (by omega) (by omega)
 have e3 : C * C ≤ 64 * 64 := Int.mul_le_mul (by omega) (by omega) (by omega) (by omega)
 have e4 : B * C ≤ 64 * 64 := Int.mul_le_mul (by omega) (by omega) (by omega) (by omega)
 have e5 : 0 ≤ B * C := Int.mul_nonneg (by omega) (by omega)
 refine Bas.reduce hf (latI_ne h) _ A 0 B C (Nat.le_refl _) Bas.start (by rw [nrm_A0]; omega) ?_
 rcases frB_iff.1 hf with rfl | rfl <;> (unfold nrmI; omega)

/- the second vector of the reduced basis -/
def isBest (f A B C : Int) (u v : Int × Int) : Prop := (inL A B C v.1 v.2 ∧ u.1 * v.2 - u.2 * v.1 = A * C) ∧
 ∀ w : Int × Int, inL A B C w.1 w.2 → u.1 * w.2 - u.2 * w.1 = A * C → nrmV f v < nrmV f w ∨ nrmV f v = nrmV f w ∧ (w = v ∨ lexlt w v)
/- of the eight there is one that does with the first vector, and every one that does as well is among the eight -/
theorem Gau.cand {f A B C ux uy vx vy : Int} (hf : frB f = true) (h0 : A * C ≠ 0) (h : Gau f A B C ux uy vx vy) {u : Int × Int} (hu : u ∈ nbL ux uy vx vy) :
  (∃ v ∈ nbL ux uy vx vy, u.1 * v.2 - u.2 * v.1 = A * C ∧ nrmV f v ≤ nrmI f vx vy) ∧
  ∀ w : Int × Int, inL A B C w.1 w.2 → u.1 * w.2 - u.2 * w.1 = A * C → nrmV f w ≤ nrmI f vx vy → w ∈ nbL ux uy vx vy := by
 obtain ⟨a, b, ⟨⟨ha, hb⟩, hne⟩, rfl⟩ := nb_mem.1 hu
 have hpq := h.red.hpq
 constructor
 ·obtain ⟨s, hs, hd⟩ : ∃ s : Int, (s = 1 ∨ s = -1) ∧ ux * vy - uy * vx = s * (A * C) := by
   rcases h.bas.hd with e | e
   ·exact ⟨1, .inl rfl, by omega⟩
   ·exact ⟨-1, .inr rfl, by omega⟩
  have hss : s * s = 1 := by rcases hs with rfl | rfl <;> rfl
  by_cases hb0 : b = 0
  ·subst hb0
   have haa : a * a = 1 := by
    have : a = 1 ∨ a = -1 := by omega
    rcases this with rfl | rfl <;> rfl
   refine ⟨_, nb_mem.2 ⟨0, s * a, ⟨⟨by omega, ?_⟩, ?_⟩, rfl⟩, ?_, ?_⟩
   ·rcases hs with rfl | rfl <;> omega
   ·rintro ⟨_, e⟩
    have : s * a * (s * a) = 1 := by grind
    rw [e] at this
    omega
   ·simp only
    grind
   ·simp only [nrmV]
    rw [nrm_comb]
    have : s * a * (s * a) = 1 := by grind
    rw [this]
    simp
  ·have hbb : b * b = 1 := by
    have : b = 1 ∨ b = -1 := by omega
    rcases this with rfl | rfl <;> rfl
   refine ⟨_, nb_mem.2 ⟨-(s * b), 0, ⟨⟨?_, by omega⟩, ?_⟩, rfl⟩, ?_, ?_⟩
   ·rcases hs with rfl | rfl <;> omega
   ·rintro ⟨e, _⟩
    have : s * b * (s * b) = 1 := by grind
    rw [show s * b = 0 by omega] at this
    omega
   ·simp only
    grind
   ·simp only [nrmV]
    rw [nrm_comb]
    have : -(s * b) * -(s * b) = 1 := by grind
    rw [this]
    simp
    omega
 ·rintro ⟨x, y⟩ hw hd hn
  obtain ⟨c, d, e1, e2⟩ := h.bas.span h0 hw
  simp only at e1 e2 hd
  subst e1 e2
  have hsm := h.short hf h0 hn
  have hk : (a * d - b * c) * (ux * vy - uy * vx) = A * C := by rw [← hd]; grind
  have hz : ¬ (c = 0 ∧ d = 0) := by
   rintro ⟨rfl, rfl⟩
   simp at hk
   exact h0 hk.symm
  rcases hsm with rfl | hs
  ·have hbc : b * c = 1 ∨ b * c = -1 := by
    rcases h.bas.hd with e | e
    ·right; exact Int.eq_of_mul_eq_mul_left h0 (by grind)
    ·left; exact Int.eq_of_mul_eq_mul_left h0 (by grind)
   have hc : -1 ≤ c ∧ c ≤ 1 := by
    have : b = 0 ∨ b = 1 ∨ b = -1 := by omega
    rcases this with rfl | rfl | rfl <;> omega
   exact nb_mem.2 ⟨c, 0, ⟨⟨hc, by omega⟩, hz⟩, rfl⟩
  ·exact nb_mem.2 ⟨c, d, ⟨hs, hz⟩, rfl⟩
theorem Gau.best {f A B C ux uy vx vy : Int} (hf : frB f = true) (h0 : A * C ≠ 0) (h : Gau f A B C ux uy vx vy) {L : List (Int × Int)} (hS : L.Pairwise lexlt) (hL : ∀ w, w ∈ L ↔ w ∈ nbL ux uy vx vy) {u : Int × Int} (hu : u ∈ L)
  {P : Int × Int → Bool} (hP : ∀ v ∈ L, P v = true ↔ u.1 * v.2 - u.2 * v.1 = A * C) : ∃ hne : shortL f (L.filter P) ≠ [], isBest f A B C u ((shortL f (L.filter P)).getLast hne) := by
 obtain ⟨⟨v0, hv0, hd0, hn0⟩, hall⟩ := h.cand hf h0 ((hL u).1 hu)
 have hm0 : v0 ∈ L.filter P := List.mem_filter.2 ⟨(hL _).2 hv0, (hP _ ((hL _).2 hv0)).2 hd0⟩
 have hne : shortL f (L.filter P) ≠ [] := shortL_ne (by intro e; rw [e] at hm0; simp at hm0)
 refine ⟨hne, ?_⟩
 have hl := last_max hne (shortL_sorted (List.Pairwise.filter P hS))
 have hlm := List.getLast_mem hne
 generalize (shortL f (L.filter P)).getLast hne = v at *
 obtain ⟨hv1, hv2⟩ := shortL_mem.1 hlm
 obtain ⟨hv3, hv4⟩ := List.mem_filter.1 hv1
 refine ⟨⟨(h.nb_in h0 ((hL _).1 hv3)).1, (hP _ hv3).1 hv4⟩, ?_⟩
 intro w hw hd
 by_cases c : nrmV f w ≤ nrmI f vx vy
 ·have hwL := (hL _).2 (hall w hw hd c)
  have hwF : w ∈ L.filter P := List.mem_filter.2 ⟨hwL, (hP _ hwL).2 hd⟩
  have := hv2 w hwF
  by_cases c2 : nrmV f v < nrmV f w
  ·exact .inl c2
  ·right
   refine ⟨by omega, hl w ?_⟩
   rw [shortL_mem]
   refine ⟨hwF, fun w' hw' => ?_⟩
   have := hv2 w' hw'
   omega
 ·left
  have := hv2 v0 hm0
  omega
/- as the model finds it -/
/- the model's second vector is the best one -/
/- the program's second vector is the model's -/
end
end Go.Proofs.YtdgophfembpniaaGreatDoor

