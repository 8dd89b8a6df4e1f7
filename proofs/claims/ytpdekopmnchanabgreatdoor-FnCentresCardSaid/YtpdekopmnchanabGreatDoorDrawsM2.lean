/-
  The draw of a matrix (the model's l02Draw): it returns some matrix and turns nothing that was there but the source. Condition: the code's bytes can be read.
-/
import Derived.Test.YtpdekopmnchanabGreatDoorDrawsM
namespace Go.Proofs.YtpdekopmnchanabGreatDoor
open Go.RowKit
set_option linter.unusedSimpArgs false
set_option linter.unusedVariables false

/- one of the five matrices of the list, wherever the list lies -/
theorem five (i : Nat) (hi : i < 5) : ∃ p q r s : Int, ∀ (W : World) (T : TypeId),
    (W.alloc (.cells #[.int .i64 1, .int .i64 1, .int .i64 0, .int .i64 1, .int .i64 1, .int .i64 0, .int .i64 1, .int .i64 1, .int .i64 1, .int .i64 (-2), .int .i64 0, .int .i64 1, .int .i64 0, .int .i64 1, .int .i64 1, .int .i64 0, .int .i64 (-1), .int .i64 0, .int .i64 0, .int .i64 1] T)).cell? ⟨W.heap.size, i * 4, none⟩ = some (.int .i64 p) ∧ (W.alloc (.cells #[.int .i64 1, .int .i64 1, .int .i64 0, .int .i64 1, .int .i64 1, .int .i64 0, .int .i64 1, .int .i64 1, .int .i64 1, .int .i64 (-2), .int .i64 0, .int .i64 1, .int .i64 0, .int .i64 1, .int .i64 1, .int .i64 0, .int .i64 (-1), .int .i64 0, .int .i64 0, .int .i64 1] T)).cell? ⟨W.heap.size, i * 4 + 1, none⟩ = some (.int .i64 q) ∧
    (W.alloc (.cells #[.int .i64 1, .int .i64 1, .int .i64 0, .int .i64 1, .int .i64 1, .int .i64 0, .int .i64 1, .int .i64 1, .int .i64 1, .int .i64 (-2), .int .i64 0, .int .i64 1, .int .i64 0, .int .i64 1, .int .i64 1, .int .i64 0, .int .i64 (-1), .int .i64 0, .int .i64 0, .int .i64 1] T)).cell? ⟨W.heap.size, i * 4 + 2, none⟩ = some (.int .i64 r) ∧ (W.alloc (.cells #[.int .i64 1, .int .i64 1, .int .i64 0, .int .i64 1, .int .i64 1, .int .i64 0, .int .i64 1, .int .i64 1, .int .i64 1, .int .i64 (-2), .int .i64 0, .int .i64 1, .int .i64 0, .int .i64 1, .int .i64 1, .int .i64 0, .int .i64 (-1), .int .i64 0, .int .i64 0, .int .i64 1] T)).cell? ⟨W.heap.size, i * 4 + 3, none⟩ = some (.int .i64 s) := by
  obtain rfl | rfl | rfl | rfl | rfl : i = 0 ∨ i = 1 ∨ i = 2 ∨ i = 3 ∨ i = 4 := by omega
  all_goals exact ⟨_, _, _, _, fun W T => ⟨by simp [go_sem]; rfl, by simp [go_sem]; rfl, by simp [go_sem]; rfl, by simp [go_sem]; rfl⟩⟩

theorem five_at {p B i : Nat} {W u : World} {T : TypeId} {p1 q1 r1 s1 : Int} (hall : ∀ (W : World) (T : TypeId),
    (W.alloc (.cells #[.int .i64 1, .int .i64 1, .int .i64 0, .int .i64 1, .int .i64 1, .int .i64 0, .int .i64 1, .int .i64 1, .int .i64 1, .int .i64 (-2), .int .i64 0, .int .i64 1, .int .i64 0, .int .i64 1, .int .i64 1, .int .i64 0, .int .i64 (-1), .int .i64 0, .int .i64 0, .int .i64 1] T)).cell? ⟨W.heap.size, i * 4, none⟩ = some (.int .i64 p1) ∧ (W.alloc (.cells #[.int .i64 1, .int .i64 1, .int .i64 0, .int .i64 1, .int .i64 1, .int .i64 0, .int .i64 1, .int .i64 1, .int .i64 1, .int .i64 (-2), .int .i64 0, .int .i64 1, .int .i64 0, .int .i64 1, .int .i64 1, .int .i64 0, .int .i64 (-1), .int .i64 0, .int .i64 0, .int .i64 1] T)).cell? ⟨W.heap.size, i * 4 + 1, none⟩ = some (.int .i64 q1) ∧
    (W.alloc (.cells #[.int .i64 1, .int .i64 1, .int .i64 0, .int .i64 1, .int .i64 1, .int .i64 0, .int .i64 1, .int .i64 1, .int .i64 1, .int .i64 (-2), .int .i64 0, .int .i64 1, .int .i64 0, .int .i64 1, .int .i64 1, .int .i64 0, .int .i64 (-1), .int .i64 0, .int .i64 0, .int .i64 1] T)).cell? ⟨W.heap.size, i * 4 + 2, none⟩ = some (.int .i64 r1) ∧ (W.alloc (.cells #[.int .i64 1, .int .i64 1, .int .i64 0, .int .i64 1, .int .i64 1, .int .i64 0, .int .i64 1, .int .i64 1, .int .i64 1, .int .i64 (-2), .int .i64 0, .int .i64 1, .int .i64 0, .int .i64 1, .int .i64 1, .int .i64 0, .int .i64 (-1), .int .i64 0, .int .i64 0, .int .i64 1] T)).cell? ⟨W.heap.size, i * 4 + 3, none⟩ = some (.int .i64 s1))
    (O : Only p (W.alloc (.cells #[.int .i64 1, .int .i64 1, .int .i64 0, .int .i64 1, .int .i64 1, .int .i64 0, .int .i64 1, .int .i64 1, .int .i64 1, .int .i64 (-2), .int .i64 0, .int .i64 1, .int .i64 0, .int .i64 1, .int .i64 1, .int .i64 0, .int .i64 (-1), .int .i64 0, .int .i64 0, .int .i64 1] T)) u) (hB : B = W.heap.size) (hp : p < B) :
    u.cell? ⟨B, i * 4, none⟩ = some (.int .i64 p1) ∧ u.cell? ⟨B, i * 4 + 1, none⟩ = some (.int .i64 q1) ∧ u.cell? ⟨B, i * 4 + 2, none⟩ = some (.int .i64 r1) ∧ u.cell? ⟨B, i * 4 + 3, none⟩ = some (.int .i64 s1) := by
  subst hB
  obtain ⟨h0, h1, h2, h3⟩ := hall W T
  have hlt : W.heap.size < (W.alloc (.cells #[.int .i64 1, .int .i64 1, .int .i64 0, .int .i64 1, .int .i64 1, .int .i64 0, .int .i64 1, .int .i64 1, .int .i64 1, .int .i64 (-2), .int .i64 0, .int .i64 1, .int .i64 0, .int .i64 1, .int .i64 1, .int .i64 0, .int .i64 (-1), .int .i64 0, .int .i64 0, .int .i64 1] T)).heap.size := by simp
  have hne : W.heap.size ≠ p := by omega
  exact ⟨(O.cell hlt hne).trans h0, (O.cell hlt hne).trans h1, (O.cell hlt hne).trans h2, (O.cell hlt hne).trans h3⟩

set_option maxHeartbeats 4000000 in
theorem drawMat_any (p : Nat) (a0 : Option Addr) (len cap : Nat) (w : World) (h : Src p a0 len cap w) :
    Calls Tryz.prog 36 #[.pointer (some ⟨p, 0, none⟩)] w (MatPost p a0 len cap w) := by
  have hp := h.lt
  go_enter Tryz.func36, Tryz.ntmps36
  go_wp2_with fail
  refine (next_any _ p a0 len cap _ (h.alloc _)).mono ?_
  rintro e w1 ⟨x, rfl, x0, x1, S1, O1⟩
  have R1 : KR w.heap.size 0 0 0 0 w1 := KR.only (KR.at _ rfl) O1 (by omega)
  have O1' : Only p w w1 := ((Only.refl _ _).alloc _).trans O1
  clear O1 x1
  by_cases hx : 0 < x
  · go_wp2_with fail
    refine (drawFinite_any p a0 len cap _ S1).mono ?_
    rintro e w2 ⟨a, b, c, d, rfl, S2, O2⟩
    have R2 := R1.only O2 (by omega)
    have O2' := O1'.trans O2
    clear S1 O1' O2 R1
    obtain ⟨d0, d1, d2, d3, d4, d5, d6, d7, d8⟩ := id R2
    go_wp2
    refine bodyPost_ret (v := .agg #[.int .i64 a, .int .i64 b, .int .i64 c, .int .i64 d]) (by simp [results, Tryz.results36, go_sem, *]) rfl ⟨_, _, _, _, rfl, ?_, ?_⟩
    · exact Src.put hp (Src.put hp (Src.put hp (Src.put hp S2)))
    · exact (((O2'.put (Nat.le_refl _) _).put (Nat.le_refl _) _).put (Nat.le_refl _) _).put (Nat.le_refl _) _
  · go_wp2_with fail
    refine (l02Unit_any _).mono ?_
    rintro e w2 ⟨rfl, hb2⟩
    have S2 := S1.call hb2
    have R2 := R1.call hb2
    have O2' := O1'.then hb2
    have hg : w.heap.size < w2.heap.size := R2.lt
    clear S1 O1' R1 hb2
    go_wp2_with fail
    refine (next_any _ p a0 len cap _ (S2.alloc _)).mono ?_
    rintro e w3 ⟨k, rfl, k0, k1, S3, O3⟩
    have G3 : KR w2.heap.size 1 0 0 1 w3 := KR.only (KR.at _ rfl) O3 (by omega)
    have R3 := (R2.alloc _).only O3 (by omega)
    have O3' := (O2'.alloc _).trans O3
    have hk : k ≤ 100 := by have := k1 (by omega); omega
    obtain ⟨k, rfl⟩ := Int.eq_ofNat_of_zero_le k0
    have hk' : k ≤ 100 := by omega
    clear k0 k1 O3 O2' S2 R2 hk
    go_wp2_with fail
    go_loopw [4] (fun i W => FinRel p a0 len cap w w2.heap.size i W) (fun i _ => (intOf i).toNat)
    case atStart => exact ⟨k, 1, 0, 0, 1, rfl, hk', G3, R3, S3, O3'⟩
    case round =>
      clear G3 R3 S3 O3' hk'
      obtain ⟨k, a, b, c, d, rfl, hk100, RG, RR, S0, O0⟩ := hrel
      have ng : ¬ w.heap.size = w2.heap.size := by omega
      obtain ⟨ga, gb, gc, gd, ge, gf, gg, gh, gi⟩ := id RG
      by_cases hk : k = 0
      · subst hk
        go_wp2_with fail
        refine (next_any _ p a0 len cap _ S0).mono ?_
        rintro e w4 ⟨y, rfl, y0, y1, S4, O4⟩
        have RG4 := RG.only O4 (by omega)
        have RR4 := RR.only O4 (by omega)
        have O4' := O0.trans O4
        clear y1 O4 O0 S0 RG RR ga gb gc gd ge gf gg gh gi
        obtain ⟨ga, gb, gc, gd, ge, gf, gg, gh, gi⟩ := id RG4
        have hle : w.heap.size ≤ w2.heap.size := Nat.le_of_lt hg
        have hlt : p < w2.heap.size := by omega
        rcases hy : y == 0 with _ | _
        · rcases hy1 : y == 1 with _ | _
          · obtain ⟨d0, d1, d2, d3, d4, d5, d6, d7, d8⟩ := id RR4
            go_wp2
            refine bodyPost_ret (v := .agg #[.int .i64 a, .int .i64 b, .int .i64 c, .int .i64 d]) (by simp [results, Tryz.results36, go_sem, *]) rfl ⟨_, _, _, _, rfl, ?_, ?_⟩
            · exact Src.put hp (Src.put hp (Src.put hp (Src.put hp S4)))
            · exact (((O4'.put (Nat.le_refl _) _).put (Nat.le_refl _) _).put (Nat.le_refl _) _).put (Nat.le_refl _) _
          · go_wp2_with fail
            refine (pick_any p _ 3 a0 len cap _ (S4.alloc _) (by omega) (by omega) (by simp) (by have := S4.lt; omega) (dcl3 _ _ _ _ _)).mono ?_
            rintro e w5 ⟨z, rfl, S5, O5⟩
            have RG5 := (RG4.alloc _).only O5 (by omega)
            have RR5 := (RR4.alloc _).only O5 (by omega)
            have O5' := (O4'.alloc _).trans O5
            clear ga gb gc gd ge gf gg gh gi O4' O5 S4 RG4 RR4
            obtain ⟨ga, gb, gc, gd, ge, gf, gg, gh, gi⟩ := id RG5
            obtain ⟨d0, d1, d2, d3, d4, d5, d6, d7, d8⟩ := id RR5
            go_wp2
            refine bodyPost_ret (v := .agg #[.int .i64 1, .int .i64 z, .int .i64 0, .int .i64 1]) (by simp [results, Tryz.results36, go_sem, *]) rfl ⟨_, _, _, _, rfl, ?_, ?_⟩
            · exact Src.put hp (Src.put hp (Src.put hp (Src.put hp (Src.put hlt (Src.put hlt (Src.put hlt (Src.put hlt S5)))))))
            · exact (((((((O5'.put hle _).put hle _).put hle _).put hle _).put (Nat.le_refl _) _).put (Nat.le_refl _) _).put (Nat.le_refl _) _).put (Nat.le_refl _) _
        · obtain ⟨d0, d1, d2, d3, d4, d5, d6, d7, d8⟩ := id RR4
          go_wp2
          refine bodyPost_ret (v := .agg #[.int .i64 _, .int .i64 b, .int .i64 c, .int .i64 d]) (by simp [results, Tryz.results36, go_sem, *]; rfl) rfl ⟨_, _, _, _, rfl, ?_, ?_⟩
          · exact Src.put hp (Src.put hp (Src.put hp (Src.put hp (Src.put hlt S4))))
          · exact ((((O4'.put hle _).put (Nat.le_refl _) _).put (Nat.le_refl _) _).put (Nat.le_refl _) _).put (Nat.le_refl _) _
      · have hk1 : (0 : Int) < (k : Int) := by omega
        go_wp2_with fail
        have hlt := RR.lt
        have hps : p < wr.heap.size := S0.lt
        go_region_with
          (first
            | (go_at_call 28; refine (next_any _ p a0 len cap _ ?_).mono ?_; (repeat (first | assumption | with_reducible refine Src.drew ?_ | with_reducible refine Src.alloc ?_ _ | with_reducible refine Src.call ?_ (by assumption))); rintro e u1 ⟨x, rfl, x0, x1, S1, O1⟩; have x2 : x < 5 := (x1 (by omega)); clear x1; obtain ⟨i, rfl⟩ := Int.eq_ofNat_of_zero_le x0; have hi5 : i < 5 := (by omega); obtain ⟨p1, q1, r1, s1, hall⟩ := five i hi5; have KG1 : KR w2.heap.size a b c d u1 := (KR.only (by repeat (first | assumption | with_reducible refine KR.alloc ?_ _ | with_reducible refine KR.drew ?_ | with_reducible refine KR.call ?_ (by assumption) | ((with_reducible refine KR.far ?_ ?_); (dsimp only; omega)))) O1 (by omega)); have KK1 : KR w.heap.size 0 0 0 0 u1 := (KR.only (by repeat (first | assumption | with_reducible refine KR.alloc ?_ _ | with_reducible refine KR.drew ?_ | with_reducible refine KR.call ?_ (by assumption) | ((with_reducible refine KR.far ?_ ?_); (dsimp only; omega)))) O1 (by omega)); have OO1 : Only p w u1 := (Only.trans (by repeat (first | assumption | with_reducible refine Only.drew ?_ | with_reducible refine Only.alloc ?_ _ | with_reducible refine Only.then ?_ (by assumption))) O1); obtain ⟨ga1, gb1, gc1, gd1, ge1, gf1, gg1, gh1, gi1⟩ := id KG1; (try ((refine useIt (five_at (B := wr.heap.size) (W := wr.drew) hall O1 rfl hps) ?_); rintro ⟨v0, v1, v2, v3⟩)))
            | (go_at_call 68; refine (mul_some _ _ _ _ _ _ _ _ _).mono ?_; rintro e u2 ⟨p2, q2, r2, s2, rfl, hb2⟩; have KG2 : KR w2.heap.size a b c d u2 := (by repeat (first | assumption | with_reducible refine KR.alloc ?_ _ | with_reducible refine KR.drew ?_ | with_reducible refine KR.call ?_ (by assumption) | ((with_reducible refine KR.far ?_ ?_); (dsimp only; omega)))); have KK2 : KR w.heap.size 0 0 0 0 u2 := (by repeat (first | assumption | with_reducible refine KR.alloc ?_ _ | with_reducible refine KR.drew ?_ | with_reducible refine KR.call ?_ (by assumption) | ((with_reducible refine KR.far ?_ ?_); (dsimp only; omega)))); have SS2 : Src p a0 len cap u2 := (by repeat (first | assumption | with_reducible refine Src.drew ?_ | with_reducible refine Src.alloc ?_ _ | with_reducible refine Src.call ?_ (by assumption))); have OO2 : Only p w u2 := (by repeat (first | assumption | with_reducible refine Only.drew ?_ | with_reducible refine Only.alloc ?_ _ | with_reducible refine Only.then ?_ (by assumption))); obtain ⟨ga2, gb2, gc2, gd2, ge2, gf2, gg2, gh2, gi2⟩ := id KG2))
        all_goals
          go_wp2
          go_roundw
          case rel =>
            have e1 : w.heap.size ≤ w2.heap.size := Nat.le_of_lt hg
            have e2 : p < w2.heap.size := by omega
            refine ⟨k - 1, p2, q2, r2, s2, ?_, by omega, KR.store KG2 p2 q2 r2 s2, ?_, ?_, ?_⟩
            · congr 1; omega
            · repeat (first | assumption | with_reducible refine KR.alloc ?_ _ | with_reducible refine KR.drew ?_ | with_reducible refine KR.call ?_ (by assumption) | ((with_reducible refine KR.far ?_ ?_); (dsimp only; omega)))
            · exact Src.put e2 (Src.put e2 (Src.put e2 (Src.put e2 SS2)))
            · exact (((OO2.put e1 _).put e1 _).put e1 _).put e1 _
          case measure => simp [intOf]; omega

end Go.Proofs.YtpdekopmnchanabGreatDoor
