/-
  Contracts of chapter 4's small functions: frames, the plane behind a frame's number, norms in the program and in the model. Conditions: the numbers are bounded.
-/
import Derived.Test.YtodkomaeljbhaaaFrF
import Derived.Test.YtodkomaeljbhaaaLat2
namespace Go.Proofs.Ytodkomaeljbhaaa
open Go.RowKit
set_option linter.unusedSimpArgs false
set_option linter.unusedVariables false

def planeT (f : Int) : TypeId := if f = 0 then 106 else 107
def normF (f : Int) : Nat := if f = 0 then 103 else 104
theorem planeT_0 : planeT 0 = 106 := rfl
theorem planeT_1 : planeT 1 = 107 := rfl
theorem normF_0 : normF 0 = 103 := rfl
theorem normF_1 : normF 1 = 104 := rfl
theorem mid_mul {a b : Int} (ha : midI a) (hb : midI b) : -1000000000000 ≤ a * b ∧ a * b ≤ 1000000000000 := by
  have h1 : a.natAbs ≤ 1000000 := by unfold midI at ha; omega
  have h2 : b.natAbs ≤ 1000000 := by unfold midI at hb; omega
  have h3 : (a * b).natAbs ≤ 1000000 * 1000000 := by
    rw [Int.natAbs_mul]; exact Nat.mul_le_mul h1 h2
  omega
theorem nrm_big {f x y : Int} (hf : frB f = true) (hx : midI x) (hy : midI y) : 0 ≤ nrmI f x y ∧ nrmI f x y ≤ 3000000000000 := by
  refine ⟨nrm_nn hf x y, ?_⟩
  have h1 := mid_mul hx hx
  have h2 := mid_mul hy hy
  have h3 := mid_mul hx hy
  rcases frB_iff.1 hf with rfl | rfl <;> (unfold nrmI; omega)

set_option maxHeartbeats 1000000 in
theorem norm0_any (x y : Int) (w : World) (hx : midI x) (hy : midI y) :
    Calls Try.prog 103 #[.agg #[], .agg #[.int .i64 x, .int .i64 y]] w fun e w' => e = .returned (.int .i64 (nrmI 0 x y)) ∧ Below w.heap.size w w' := by
  obtain ⟨b1, b2⟩ := mid_mul hx hx
  obtain ⟨b3, b4⟩ := mid_mul hy hy
  clear hx hy
  go_enter Try.func103, Try.ntmps103
  go_wp2
  go_ret
  refine ⟨ret_int (by simp [nrmI]), ?_⟩
  repeat (first | exact Below.refl _ _ | refine Below.setCell ?_ (by first | omega | (simp <;> omega)) _ | refine Below.alloc ?_ (by first | omega | (simp <;> omega)) _ | refine bstep ?_ (by assumption) | refine Below.drew ?_)
set_option maxHeartbeats 1000000 in
theorem norm1_any (x y : Int) (w : World) (hx : midI x) (hy : midI y) :
    Calls Try.prog 104 #[.agg #[], .agg #[.int .i64 x, .int .i64 y]] w fun e w' => e = .returned (.int .i64 (nrmI 1 x y)) ∧ Below w.heap.size w w' := by
  obtain ⟨b1, b2⟩ := mid_mul hx hx
  obtain ⟨b3, b4⟩ := mid_mul hy hy
  obtain ⟨b5, b6⟩ := mid_mul hx hy
  clear hx hy
  go_enter Try.func104, Try.ntmps104
  go_wp2
  go_ret
  refine ⟨ret_int (by simp [nrmI]; omega), ?_⟩
  repeat (first | exact Below.refl _ _ | refine Below.setCell ?_ (by first | omega | (simp <;> omega)) _ | refine Below.alloc ?_ (by first | omega | (simp <;> omega)) _ | refine bstep ?_ (by assumption) | refine Below.drew ?_)
theorem norm_any (f x y : Int) (w : World) (hf : frB f = true) (hx : midI x) (hy : midI y) :
    Calls Try.prog (normF f) #[.agg #[], .agg #[.int .i64 x, .int .i64 y]] w fun e w' => e = .returned (.int .i64 (nrmI f x y)) ∧ Below w.heap.size w w' := by
  rcases frB_iff.1 hf with rfl | rfl
  · rw [normF_0]; exact norm0_any x y w hx hy
  · rw [normF_1]; exact norm1_any x y w hx hy
set_option maxHeartbeats 1000000 in
theorem l04Norm_any (f x y : Int) (w : World) (hf : frB f = true) (hx : midI x) (hy : midI y) :
    Calls Try.prog 83 #[.int .i64 f, .agg #[.int .i64 x, .int .i64 y]] w fun e w' => e = .returned (.int .i64 (nrmI f x y)) ∧ Below w.heap.size w w' := by
  obtain ⟨b1, b2⟩ := mid_mul hx hx
  obtain ⟨b3, b4⟩ := mid_mul hy hy
  obtain ⟨b5, b6⟩ := mid_mul hx hy
  clear hx hy
  rcases frB_iff.1 hf with rfl | rfl
  · go_enter Try.func83, Try.ntmps83
    go_wp2
    go_ret
    refine ⟨ret_int (by simp [nrmI]), ?_⟩
    repeat (first | exact Below.refl _ _ | refine Below.setCell ?_ (by first | omega | (simp <;> omega)) _ | refine Below.alloc ?_ (by first | omega | (simp <;> omega)) _ | refine bstep ?_ (by assumption) | refine Below.drew ?_)
  · go_enter Try.func83, Try.ntmps83
    go_wp2
    go_ret
    refine ⟨ret_int (by simp [nrmI]), ?_⟩
    repeat (first | exact Below.refl _ _ | refine Below.setCell ?_ (by first | omega | (simp <;> omega)) _ | refine Below.alloc ?_ (by first | omega | (simp <;> omega)) _ | refine bstep ?_ (by assumption) | refine Below.drew ?_)

set_option maxHeartbeats 1000000 in
theorem planeOf_yes (f : Int) (w : World) (h : frB f = true) :
    Calls Try.prog 55 #[.int .i64 f] w fun e w' => e = .returned (.tuple #[.iface (planeT f) (.agg #[]), .bool true]) ∧ Below w.heap.size w w' := by
  rcases frB_iff.1 h with rfl | rfl
  · go_enter Try.func55, Try.ntmps55
    go_wp2
    go_ret2
    refine ⟨rfl, ?_⟩
    repeat (first | exact Below.refl _ _ | refine Below.alloc ?_ (by first | omega | (simp <;> omega)) _)
  · go_enter Try.func55, Try.ntmps55
    go_wp2
    go_ret2
    refine ⟨rfl, ?_⟩
    repeat (first | exact Below.refl _ _ | refine Below.alloc ?_ (by first | omega | (simp <;> omega)) _)
set_option maxHeartbeats 1000000 in
theorem planeOf_no (f : Int) (w : World) (h : frB f = false) :
    Calls Try.prog 55 #[.int .i64 f] w fun e w' => e = .returned (.tuple #[.nilIface, .bool false]) ∧ Below w.heap.size w w' := by
  obtain ⟨h0, h1⟩ := frB_not.1 h
  have g0 : (f == 0) = false := by simpa using h0
  have g1 : (f == 1) = false := by simpa using h1
  go_enter Try.func55, Try.ntmps55
  go_wp2
  go_ret2
  exact ⟨rfl, Below.refl _ _⟩
set_option maxHeartbeats 1000000 in
theorem implIsFrame_any (f : Int) (w : World) :
    Calls Try.prog 31 #[.int .i64 f] w fun e w' => e = .returned (.bool (frB f)) ∧ Below w.heap.size w w' := by
  rcases h : frB f with _ | _
  · go_enter Try.func31, Try.ntmps31
    go_wp2_with fail
    refine (planeOf_no f _ h).mono ?_
    rintro e w1 ⟨rfl, hb1⟩
    go_wp2
    go_ret
    exact ⟨rfl, hb1⟩
  · go_enter Try.func31, Try.ntmps31
    go_wp2_with fail
    refine (planeOf_yes f _ h).mono ?_
    rintro e w1 ⟨rfl, hb1⟩
    go_wp2
    go_ret
    exact ⟨rfl, hb1⟩
set_option maxHeartbeats 1000000 in
theorem specIsFrame_any (f : Int) (w : World) :
    Calls Try.prog 53 #[.int .i64 f] w fun e w' => e = .returned (.bool (frB f)) ∧ w = w' := by
  by_cases h0 : f = 0
  · subst h0
    go_enter Try.func53, Try.ntmps53
    go_wp2
    go_ret
    exact ⟨rfl, rfl⟩
  · have g0 : (f == 0) = false := by simpa using h0
    by_cases h1 : f = 1
    · subst h1
      go_enter Try.func53, Try.ntmps53
      go_wp2
      go_ret
      exact ⟨rfl, rfl⟩
    · have g1 : (f == 1) = false := by simpa using h1
      have h := frB_not.2 ⟨h0, h1⟩
      go_enter Try.func53, Try.ntmps53
      go_wp2
      go_ret
      exact ⟨ret_bool (by rw [h]), rfl⟩
/- norms -/
def norR (f x y : Int) : Int × Int := bif frB f && vecB x y then (nrmI f x y, 0) else (0, 1)
def norT (f x y : Int) : Value := .tuple #[.int .i64 (norR f x y).1, .int .i64 (norR f x y).2]
theorem vec_mid2 {x y : Int} (h : vecB x y = true) : midI x ∧ midI y := by
  have := vecB_bd h
  unfold midI; omega
theorem meth_f {f : Int} (hf : frB f = true) : ∀ w, (method 233 (planeT f) (.agg #[]) "loop.example/g00943/impl.norm").run Try.prog w = .ok (normF f, .agg #[]) w := by
  rcases frB_iff.1 hf with rfl | rfl
  · intro w; rw [planeT_0, normF_0]; kernel_rfl
  · intro w; rw [planeT_1, normF_1]; kernel_rfl
theorem ent_f {f : Int} (hf : frB f = true) : ∀ args w, (callFunc (normF f) args).run Try.prog w = .ok (.enter (normF f) args) w := by
  -- Try.func103 has a body
  rcases frB_iff.1 hf with rfl | rfl
  · intro args w; rw [normF_0]; kernel_rfl
  · intro args w; rw [normF_1]; kernel_rfl
end Go.Proofs.Ytodkomaeljbhaaa
