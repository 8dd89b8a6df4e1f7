/-
  Contracts of chapter 2's texts: the program's text of a matrix (strconv.FormatInt, append, strings.Join). Conditions: the numbers lie from -1000 to 1000; the library's table of powers of ten reads as its initialiser lays it.
-/
import Derived.Test.YtpdekopmnchanabGreatDoorNText
import Derived.Test.YtpdekopmnchanabGreatDoorKeep2
import Derived.OwnWalk
import Derived.Laws.OwnMore
namespace Go.Proofs.YtpdekopmnchanabGreatDoor
open Go.RowKit
set_option linter.unusedSimpArgs false
set_option linter.unusedVariables false

def matL (a b c d : Int) : List ByteArray := [numS a, numS b, numS c, numS d]
def matS (a b c d : Int) : ByteArray := ⟨(Lib.join ((matL a b c d).map (·.data.toList)) [44]).toArray⟩
theorem join_small (a b c d : Int) (h : limB a b c d = true) : (Lib.join ((matL a b c d).map (·.data.toList)) [44]).length ≤ 140737488355328 := by
  obtain ⟨⟨ha, hb⟩, hc, hd⟩ := limB_bd h
  have e : ∀ x : Int, -1000 ≤ x ∧ x ≤ 1000 → (Lib.itoa x).length ≤ 21 := fun x hx => Lib.itoa_length_le x (by omega) (by omega)
  have h1 := e a ha
  have h2 := e b hb
  have h3 := e c hc
  have h4 := e d hd
  simp [Lib.join, matL, numS, List.intercalate]
  omega

theorem matS_nums (a b c d : Int) : matS a b c d = numsS [a, b, c, d] := by
  unfold matS numsS matL
  simp [numS]
theorem ints_four4 {g : Nat} (W : World) (a b c d : Int) (T : TypeId) (hg : g = W.heap.size) : Ints g [a, b, c, d] (W.alloc (.cells #[.int .i64 a, .int .i64 b, .int .i64 c, .int .i64 d] T)) := by
  subst hg
  refine ⟨by simp, fun i hi => ?_⟩
  match i, hi with
  | 0, _ => simp [go_sem]
  | 1, _ => simp [go_sem]
  | 2, _ => simp [go_sem]
  | 3, _ => simp [go_sem]
set_option maxHeartbeats 4000000 in
theorem mtext_any (a b c d : Int) (w : World) (hT : TabOK w) (h : limB a b c d = true) :
    Calls Tryz.prog 55 #[.agg #[.int .i64 a, .int .i64 b, .int .i64 c, .int .i64 d]] w fun e w' => e = .returned (.string (matS a b c d)) ∧ Below w.heap.size w w' := by
  obtain ⟨⟨⟨ha, ha'⟩, hb, hb'⟩, ⟨hc, hc'⟩, hd, hd'⟩ := limB_bd h
  rw [matS_nums]
  have hN : bigN [a, b, c, d] := by intro n hn; simp at hn; omega
  have B0 : Below w.heap.size w (w.alloc (.cells #[.int .i64 a, .int .i64 b, .int .i64 c, .int .i64 d] 42)) := (Below.refl _ _).alloc (Nat.le_refl _) _
  go_enter Tryz.func55, Tryz.ntmps55
  go_wp2_with fail
  refine (numbersText_any [a, b, c, d] _ _ _ (hT.on B0) (ints_four4 _ a b c d _ rfl) hN (by simp) (by simp)).mono ?_
  rintro e w1 ⟨rfl, hb1⟩
  go_wp2
  go_ret
  exact ⟨rfl, bstep B0 hb1⟩

/- the model's side: the numbers one behind the other, a comma between -/
def preS (a b c d : Int) : Nat → ByteArray
  | 0 => ⟨#[]⟩
  | 1 => numS a
  | 2 => numS a ++ ⟨#[44]⟩ ++ numS b
  | 3 => numS a ++ ⟨#[44]⟩ ++ numS b ++ ⟨#[44]⟩ ++ numS c
  | _ => numS a ++ ⟨#[44]⟩ ++ numS b ++ ⟨#[44]⟩ ++ numS c ++ ⟨#[44]⟩ ++ numS d
theorem preS_four (a b c d : Int) : preS a b c d 4 = matS a b c d := by
  show numS a ++ ⟨#[44]⟩ ++ numS b ++ ⟨#[44]⟩ ++ numS c ++ ⟨#[44]⟩ ++ numS d = _
  unfold matS matL numS
  rw [show (⟨#[44]⟩ : ByteArray) = ⟨[44].toArray⟩ from rfl]
  simp only [ByteArray.mk_append_mk]
  simp [Lib.join, List.intercalate]
theorem addS (x y : ByteArray) (h : x.size + y.size ≤ 1000) (W : World) : (Op.stringOp .add x y).run Tryz.prog W = .ok (.string (x ++ y)) W :=
  run_string_add_sum W _ _ (by omega)
theorem emptyS (x : ByteArray) : (⟨#[]⟩ : ByteArray) ++ x = x := by
  obtain ⟨⟨l⟩⟩ := x
  rw [show (⟨#[]⟩ : ByteArray) = ⟨[].toArray⟩ from rfl, show (⟨⟨l⟩⟩ : ByteArray) = ⟨l.toArray⟩ from rfl, ByteArray.mk_append_mk]
  rfl

def JoinRel (w : World) (g : Nat) (a b c d : Int) (s i : Value) (W : World) : Prop :=
  ∃ (k : Nat) (j : Int), i = .int .i64 j ∧ j = k ∧ k ≤ 4 ∧ s = .string (preS a b c d k) ∧ Kq g a b c d W ∧ Below w.heap.size w W
set_option maxHeartbeats 4000000 in
theorem join_any (a b c d : Int) (g : Nat) (w : World) (h : limB a b c d = true) (hg : Kq g a b c d w) :
    Calls Tryz.prog 63 #[.slice (some ⟨g, 0, none⟩) 4 4, .string ⟨#[44]⟩] w fun e w' => e = .returned (.string (matS a b c d)) ∧ Below w.heap.size w w' := by
  obtain ⟨⟨⟨ha, ha'⟩, hb, hb'⟩, ⟨hc, hc'⟩, hd, hd'⟩ := limB_bd h
  have za := numS_size a (by omega) (by omega)
  have zb := numS_size b (by omega) (by omega)
  have zc := numS_size c (by omega) (by omega)
  have zd := numS_size d (by omega) (by omega)
  go_enter Tryz.func63, Tryz.ntmps63
  go_wp2_with fail
  go_loopw [5, 6] (fun s i W => JoinRel w g a b c d s i W) (fun _ i _ => (4 - intOf i).toNat)
  case atStart => exact ⟨0, 0, rfl, rfl, by omega, rfl, hg, Below.refl _ _⟩
  case round =>
    clear hg
    obtain ⟨k, j, rfl, hj, hk, rfl, hK, hB⟩ := hrel
    obtain rfl | rfl | rfl | rfl | rfl : k = 0 ∨ k = 1 ∨ k = 2 ∨ k = 3 ∨ k = 4 := by omega
    · obtain rfl : j = 0 := by omega
      clear hj hk
      obtain ⟨k0, k1, k2, k3, k4⟩ := id hK
      rw [show preS a b c d 0 = ⟨#[]⟩ from rfl]
      have s2 := addS ⟨#[]⟩ (numS a) (by (try simp only [ByteArray.size_append]); simp only [show (⟨#[44]⟩ : ByteArray).size = 1 from rfl, show (⟨#[]⟩ : ByteArray).size = 0 from rfl]; omega)
      go_wp2_with fail
      refine (number_any a _ (by omega) (by omega)).mono ?_
      rintro e w1 ⟨rfl, hb1⟩
      go_wp2
      go_roundw
      case rel => exact ⟨1, 1, rfl, rfl, by omega, by rw [emptyS]; rfl, hK.call hb1, bstep hB hb1⟩
      case measure => simp [intOf]
    · obtain rfl : j = 1 := by omega
      clear hj hk
      obtain ⟨k0, k1, k2, k3, k4⟩ := id hK
      rw [show preS a b c d 1 = numS a from rfl]
      have s1 := addS (numS a) ⟨#[44]⟩ (by (try simp only [ByteArray.size_append]); simp only [show (⟨#[44]⟩ : ByteArray).size = 1 from rfl]; omega)
      have s2 := addS ((numS a : ByteArray) ++ ⟨#[44]⟩) (numS b) (by (try simp only [ByteArray.size_append]); simp only [show (⟨#[44]⟩ : ByteArray).size = 1 from rfl, show (⟨#[]⟩ : ByteArray).size = 0 from rfl]; omega)
      go_wp2_with fail
      refine (number_any b _ (by omega) (by omega)).mono ?_
      rintro e w1 ⟨rfl, hb1⟩
      go_wp2
      go_roundw
      case rel => exact ⟨2, 2, rfl, rfl, by omega, rfl, hK.call hb1, bstep hB hb1⟩
      case measure => simp [intOf]
    · obtain rfl : j = 2 := by omega
      clear hj hk
      obtain ⟨k0, k1, k2, k3, k4⟩ := id hK
      rw [show preS a b c d 2 = numS a ++ ⟨#[44]⟩ ++ numS b from rfl]
      have s1 := addS (numS a ++ ⟨#[44]⟩ ++ numS b) ⟨#[44]⟩ (by (try simp only [ByteArray.size_append]); simp only [show (⟨#[44]⟩ : ByteArray).size = 1 from rfl]; omega)
      have s2 := addS ((numS a ++ ⟨#[44]⟩ ++ numS b : ByteArray) ++ ⟨#[44]⟩) (numS c) (by (try simp only [ByteArray.size_append]); simp only [show (⟨#[44]⟩ : ByteArray).size = 1 from rfl, show (⟨#[]⟩ : ByteArray).size = 0 from rfl]; omega)
      go_wp2_with fail
      refine (number_any c _ (by omega) (by omega)).mono ?_
      rintro e w1 ⟨rfl, hb1⟩
      go_wp2
      go_roundw
      case rel => exact ⟨3, 3, rfl, rfl, by omega, rfl, hK.call hb1, bstep hB hb1⟩
      case measure => simp [intOf]
    · obtain rfl : j = 3 := by omega
      clear hj hk
      obtain ⟨k0, k1, k2, k3, k4⟩ := id hK
      rw [show preS a b c d 3 = numS a ++ ⟨#[44]⟩ ++ numS b ++ ⟨#[44]⟩ ++ numS c from rfl]
      have s1 := addS (numS a ++ ⟨#[44]⟩ ++ numS b ++ ⟨#[44]⟩ ++ numS c) ⟨#[44]⟩ (by (try simp only [ByteArray.size_append]); simp only [show (⟨#[44]⟩ : ByteArray).size = 1 from rfl]; omega)
      have s2 := addS ((numS a ++ ⟨#[44]⟩ ++ numS b ++ ⟨#[44]⟩ ++ numS c : ByteArray) ++ ⟨#[44]⟩) (numS d) (by (try simp only [ByteArray.size_append]); simp only [show (⟨#[44]⟩ : ByteArray).size = 1 from rfl, show (⟨#[]⟩ : ByteArray).size = 0 from rfl]; omega)
      go_wp2_with fail
      refine (number_any d _ (by omega) (by omega)).mono ?_
      rintro e w1 ⟨rfl, hb1⟩
      go_wp2
      go_roundw
      case rel => exact ⟨4, 4, rfl, rfl, by omega, rfl, hK.call hb1, bstep hB hb1⟩
      case measure => simp [intOf]
    · obtain rfl : j = 4 := by omega
      clear hj hk
      rw [preS_four]
      go_wp2
      go_ret
      exact ⟨rfl, hB⟩

end Go.Proofs.YtpdekopmnchanabGreatDoor
