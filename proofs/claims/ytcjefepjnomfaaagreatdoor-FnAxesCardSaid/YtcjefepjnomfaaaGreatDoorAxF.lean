/-
  Plain facts of axes and of texts read back, and the contract of the program's DivisorOf. No condition.
-/
import Derived.Test.YtcjefepjnomfaaaGreatDoorMat6
import Derived.Test.YtcjefepjnomfaaaGreatDoorMatR5
import Derived.Test.YtcjefepjnomfaaaGreatDoorMatT2
namespace Go.Proofs.YtcjefepjnomfaaaGreatDoor
open Go.RowKit
set_option linter.unusedSimpArgs false
set_option linter.unusedVariables false

def divR (a b : Int) : Int × Int := bif inB a (-1000000) 1000000 && inB b (-1000000) 1000000 then (gcdI a b, 0) else (0, 2)
def divV (a b : Int) : Value := .tuple #[.int .i64 (divR a b).1, .int .i64 (divR a b).2]

set_option maxHeartbeats 1000000 in
theorem implDiv_any (a b : Int) (w : World) :
    Calls Tryz.prog 14 #[.int .i64 a, .int .i64 b] w fun e w' => e = .returned (divV a b) ∧ Below w.heap.size w w' := by
  rcases hu : inB a (-1000000) 1000000 with _ | _
  · have ea : divV a b = .tuple #[.int .i64 0, .int .i64 2] := by simp [divV, divR, hu]
    have EA := Lib.hid ea
    clear ea
    go_enter Tryz.func14, Tryz.ntmps14
    go_wp2_with fail
    refine (isWithin_any _ _ _ (by omega) (by omega)).mono ?_
    rintro e w1 ⟨rfl, rfl⟩
    go_wp2
    go_ret2
    refine ⟨ret_val EA.out.symm, ?_⟩
    exact Below.refl _ _
  rcases hv : inB b (-1000000) 1000000 with _ | _
  · have ea : divV a b = .tuple #[.int .i64 0, .int .i64 2] := by simp [divV, divR, hv]
    have EA := Lib.hid ea
    clear ea
    go_enter Tryz.func14, Tryz.ntmps14
    go_wp2_with fail
    refine (isWithin_any _ _ _ (by omega) (by omega)).mono ?_
    rintro e w1 ⟨rfl, rfl⟩
    go_wp2_with fail
    refine (isWithin_any _ _ _ (by omega) (by omega)).mono ?_
    rintro e w2 ⟨rfl, rfl⟩
    go_wp2
    go_ret2
    refine ⟨ret_val EA.out.symm, ?_⟩
    exact Below.refl _ _
  · have ea : divV a b = .tuple #[.int .i64 (gcdI a b), .int .i64 0] := by simp [divV, divR, hu, hv]
    obtain ⟨a1, a2⟩ := inB_bd hu
    obtain ⟨b1, b2⟩ := inB_bd hv
    have EA := Lib.hid ea
    clear ea
    go_enter Tryz.func14, Tryz.ntmps14
    go_wp2_with fail
    refine (isWithin_any _ _ _ (by omega) (by omega)).mono ?_
    rintro e w1 ⟨rfl, rfl⟩
    go_wp2_with fail
    refine (isWithin_any _ _ _ (by omega) (by omega)).mono ?_
    rintro e w2 ⟨rfl, rfl⟩
    go_wp2_with fail
    refine (greatest_any _ _ _ a1 a2 b1 b2).mono ?_
    rintro e w3 ⟨rfl, hb3⟩
    go_wp2
    go_ret2
    refine ⟨ret_val EA.out.symm, ?_⟩
    exact hb3

theorem gcd_prim (x y : Int) (h : gcdI x y ≠ 0) : gcdI (x.tdiv (gcdI x y)) (y.tdiv (gcdI x y)) = 1 := by
  have h3 : gcdI x y = ((Nat.gcd x.natAbs y.natAbs : Nat) : Int) := rfl
  have h2 : 0 < Nat.gcd x.natAbs y.natAbs := by omega
  have e : (gcdI x y).natAbs = Nat.gcd x.natAbs y.natAbs := by rw [h3]; exact Int.natAbs_natCast _
  show ((Nat.gcd (Int.natAbs _) (Int.natAbs _) : Nat) : Int) = 1
  rw [Int.natAbs_tdiv, Int.natAbs_tdiv, e]
  show ((Nat.gcd (x.natAbs / _) (y.natAbs / _) : Nat) : Int) = 1
  rw [Nat.gcd_div (Nat.gcd_dvd_left _ _) (Nat.gcd_dvd_right _ _), Nat.div_self h2]
  rfl
theorem gcd_neg (x y : Int) : gcdI (-x) (-y) = gcdI x y := by
  show ((Nat.gcd (Int.natAbs _) (Int.natAbs _) : Nat) : Int) = ((Nat.gcd x.natAbs y.natAbs : Nat) : Int)
  rw [Int.natAbs_neg, Int.natAbs_neg]

/- a reflection's base vector, its primitive vector with the right sign -/
theorem axB_ne {a b c d : Int} (hr : reflB a b c d = true) : ¬ ((axB a b c d).1 = 0 ∧ (axB a b c d).2 = 0) := by
  obtain ⟨h1, h2⟩ := refl_facts hr
  unfold axB
  by_cases h : a + 1 = 0 ∧ c = 0
  · have e : (a + 1 == 0 && c == 0) = true := by simp [h]
    rw [e, cond_true]
    rintro ⟨_, h4⟩
    simp only at h4
    omega
  · have e : (a + 1 == 0 && c == 0) = false := by simpa using h
    rw [e, cond_false]
    exact h
theorem axB_fix {a b c d : Int} (hr : reflB a b c d = true) : a * (axB a b c d).1 + b * (axB a b c d).2 = (axB a b c d).1 ∧ c * (axB a b c d).1 + d * (axB a b c d).2 = (axB a b c d).2 := by
  obtain ⟨h1, h2⟩ := refl_facts hr
  obtain rfl : d = -a := by omega
  unfold axB
  cases (a + 1 == 0 && c == 0)
  · simp only [cond_false]
    constructor <;> grind
  · simp only [cond_true]
    constructor <;> grind
theorem axR_fix {a b c d X Y : Int} (h : ¬ (X = 0 ∧ Y = 0)) (h1 : a * X + b * Y = X) (h2 : c * X + d * Y = Y) :
    a * (axR X Y).1 + b * (axR X Y).2 = (axR X Y).1 ∧ c * (axR X Y).1 + d * (axR X Y).2 = (axR X Y).2 := by
  have hg := gcdI_pos h
  obtain ⟨x, hx⟩ := (show gcdI X Y ∣ X from Int.gcd_dvd_left ..)
  obtain ⟨y, hy⟩ := (show gcdI X Y ∣ Y from Int.gcd_dvd_right ..)
  unfold axR
  generalize hG : gcdI X Y = g at hg hx hy ⊢
  have ex : X.tdiv g = x := by rw [hx]; exact Int.mul_tdiv_cancel_left _ (by omega)
  have ey : Y.tdiv g = y := by rw [hy]; exact Int.mul_tdiv_cancel_left _ (by omega)
  have f1 : a * x + b * y = x := by
    have : g * (a * x + b * y) = g * x := by rw [← hx]; rw [← h1]; subst hx hy; grind
    exact Int.eq_of_mul_eq_mul_left (by omega) this
  have f2 : c * x + d * y = y := by
    have : g * (c * x + d * y) = g * y := by rw [← hy]; rw [← h2]; subst hx hy; grind
    exact Int.eq_of_mul_eq_mul_left (by omega) this
  rw [ex, ey]
  cases lessB X Y 0 0
  · exact ⟨f1, f2⟩
  · simp only [cond_true]
    constructor <;> grind
theorem axR_gcd {X Y : Int} (h : ¬ (X = 0 ∧ Y = 0)) : gcdI (axR X Y).1 (axR X Y).2 = 1 := by
  have hg := gcdI_pos h
  have hp := gcd_prim X Y (by omega)
  unfold axR
  cases lessB X Y 0 0
  · exact hp
  · simp only [cond_true]
    rw [gcd_neg]; exact hp
theorem axis_ok {a b c d : Int} (h : (axisR a b c d).2.2 = 0) :
    matB a b c d = true ∧ appR a b c d (axisR a b c d).1 (axisR a b c d).2.1 = ((axisR a b c d).1, (axisR a b c d).2.1, 0) ∧ divR (axisR a b c d).1 (axisR a b c d).2.1 = (1, 0) := by
  unfold axisR at *
  cases h1 : matB a b c d
  · simp [h1] at h
  cases h2 : reflB a b c d
  · simp [h1, h2] at h
  cases h3 : vecB (axP a b c d).1 (axP a b c d).2
  · simp [h1, h2, h3] at h
  simp only [cond_true]
  have hn := axB_ne h2
  obtain ⟨f1, f2⟩ := axB_fix h2
  obtain ⟨g1, g2⟩ := axR_fix hn f1 f2
  have hp := axR_gcd hn
  have e : axR (axB a b c d).1 (axB a b c d).2 = axP a b c d := rfl
  rw [e] at g1 g2 hp
  refine ⟨trivial, ?_, ?_⟩
  · unfold appR
    rw [h1, h3, g1, g2, h3]
    rfl
  · obtain ⟨⟨a1, a2⟩, b1, b2⟩ := vecB_bd h3
    have i1 : inB (axP a b c d).1 (-1000000) 1000000 = true := by simp [inB]; omega
    have i2 : inB (axP a b c d).2 (-1000000) 1000000 = true := by simp [inB]; omega
    unfold divR
    rw [i1, i2, hp]
    rfl

/- texts of matrices read back -/
theorem matS_split (a b c d : Int) : SplitOf (matS a b c d).data.toList (four a b c d) := by
  constructor
  · show Lib.join _ [44] ++ [44] = joinC _
    simp [matL, four, numS, Lib.join, joinC]
  · intro x hx
    simp only [four, List.mem_cons, List.not_mem_nil, or_false] at hx
    rcases hx with rfl | rfl | rfl | rfl <;> exact itoa_comma _
theorem matS_of {l : List UInt8} {a b c d : Int} (h : SplitOf l (four a b c d)) : (matS a b c d).data.toList = l := by
  have h1 := (matS_split a b c d).1
  rw [← h.1] at h1
  exact List.append_cancel_right h1
theorem mtext_yes {a b c d : Int} (h : matB a b c d = true) : mtextS a b c d = matS a b c d := by simp [mtextS, h]
theorem mtext_no {a b c d : Int} (h : matB a b c d = false) : mtextS a b c d = ⟨#[]⟩ := by simp [mtextS, h]
theorem mread_yes {a b c d a' b' c' d' : Int} {o : Bool} (hm : matB a b c d = true) (h1 : o = true → MYes (mtextS a b c d).data.toList a' b' c' d') (h2 : o = false → MNo (mtextS a b c d).data.toList ∧ a' = 0 ∧ b' = 0 ∧ c' = 0 ∧ d' = 0) : o = true ∧ a = a' ∧ b = b' ∧ c = c' ∧ d = d' := by
  rw [mtext_yes hm] at h1 h2
  obtain ⟨rfl, e1, e2, e3, e4⟩ := m_same (o := true) (fun _ => ⟨hm, matS_split a b c d⟩) (fun h => by cases h) h1 h2
  exact ⟨rfl, e1.symm, e2.symm, e3.symm, e4.symm⟩
theorem mread_no {a b c d a' b' c' d' : Int} {o : Bool} (hm : matB a b c d = false) (h1 : o = true → MYes (mtextS a b c d).data.toList a' b' c' d') (h2 : o = false → MNo (mtextS a b c d).data.toList ∧ a' = 0 ∧ b' = 0 ∧ c' = 0 ∧ d' = 0) : o = false ∧ a' = 0 ∧ b' = 0 ∧ c' = 0 ∧ d' = 0 := by
  rw [mtext_no hm] at h1 h2
  cases o
  · exact ⟨rfl, (h2 rfl).2⟩
  · have h := (h1 rfl).2.1
    have h3 := congrArg List.length h
    simp [joinC, four] at h3
    omega
theorem mtext_ne {a b c d : Int} (h : matB a b c d = true) : (mtextS a b c d).toList ≠ [] := by
  rw [ByteArray.toList_eq, mtext_yes h]
  intro h0
  have h1 := (matS_split a b c d).1
  have h2 := congrArg List.length h1
  rw [h0] at h2
  simp [joinC, four] at h2
  omega
theorem mtext_nil {a b c d : Int} (h : matB a b c d = false) : (mtextS a b c d).toList = [] := by
  rw [ByteArray.toList_eq, mtext_no h]
theorem mtext_of {u : ByteArray} {a b c d : Int} (h : MYes u.data.toList a b c d) : ((mtextS a b c d).toList == u.toList) = true := by
  rw [ByteArray.toList_eq, ByteArray.toList_eq, mtext_yes h.1, matS_of h.2]
  simp
theorem mtext_size (a b c d : Int) : (mtextS a b c d).size ≤ 90 := by
  cases h : matB a b c d
  · rw [mtext_no h]; exact Nat.zero_le _
  rw [mtext_yes h]
  obtain ⟨⟨⟨a1, a2⟩, b1, b2⟩, ⟨c1, c2⟩, d1, d2⟩ := limB_bd (matB_lim h)
  have h1 := numS_size a (by omega) (by omega)
  have h2 := numS_size b (by omega) (by omega)
  have h3 := numS_size c (by omega) (by omega)
  have h4 := numS_size d (by omega) (by omega)
  have e : ∀ n : Int, (numS n).size = (Lib.itoa n).length := fun n => by show (Lib.itoa n).toArray.size = _; simp
  rw [e] at h1 h2 h3 h4
  have h5 := congrArg List.length (matS_split a b c d).1
  have h6 : (matS a b c d).data.toList.length = (matS a b c d).size := Array.length_toList
  simp [joinC, four] at h5
  omega

end Go.Proofs.YtcjefepjnomfaaaGreatDoor
