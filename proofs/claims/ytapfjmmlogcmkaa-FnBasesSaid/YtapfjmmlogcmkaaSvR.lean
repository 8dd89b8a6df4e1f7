/-
  ShortestVecs: program and model give the same list, and the exact law's walk. No condition.
-/
import Derived.Test.YtapfjmmlogcmkaaNb
import Derived.Test.YtapfjmmlogcmkaaShS
import Derived.Test.YtapfjmmlogcmkaaMapR
import Derived.Test.YtapfjmmlogcmkaaSl2
namespace Go.Proofs.Ytapfjmmlogcmkaa
open Go.RowKit
set_option linter.unusedSimpArgs false
set_option linter.unusedVariables false

def svC (f A B C : Int) : Int := flC f A B C
def svL (f A B C : Int) : List (Int × Int) := bif flB f A B C then shortM f A B C else []
theorem svL_small (f A B C : Int) : (svL f A B C).length ≤ 1000000 := by
  unfold svL
  rcases flB f A B C with _ | _
  · simp
  · refine Nat.le_trans (List.length_filter_le _ _) (Nat.le_trans (nearP_len f (A * A) 128 (2 * 128 + 1) (2 * 128 + 1)) (by omega))
def SvAny (f A B C : Int) (w : World) (e : Ending) (w' : World) : Prop :=
  ∃ v, e = .returned (.tuple #[v, .int .i64 (svC f A B C)]) ∧ SRow w.heap.size w'.heap.size 2 v (svL f A B C).length (intAt (cells2 (svL f A B C))) w' ∧ Below w.heap.size w w'
set_option maxHeartbeats 4000000 in
theorem implSv_any (f A B C : Int) (w : World) : Calls Try.prog 9 #[.int .i64 f, .agg #[.int .i64 A, .int .i64 B, .int .i64 C]] w (SvAny f A B C w) := by
  rcases hf : frB f with _ | _
  · have E := Lib.hid (show svC f A B C = 1 ∧ svL f A B C = [] by simp [svC, svL, flC, flB, hf])
    go_enter Try.func9, Try.ntmps9
    go_wp2_with fail
    refine (planeOf_no _ _ hf).mono ?_
    rintro e w1 ⟨rfl, hb1⟩
    go_wp2
    go_ret2
    refine ⟨_, by rw [E.out.1]; rfl, ?_, bstep ((Below.refl _ _).alloc (Nat.le_refl _) _) hb1⟩
    rw [E.out.2]
    exact ⟨Nat.le_refl _, by simp, .inl ⟨rfl, none, 0, rfl⟩⟩
  rcases hl : latB A B C with _ | _
  · have E := Lib.hid (show svC f A B C = 1 ∧ svL f A B C = [] by simp [svC, svL, flC, flB, hf, hl])
    go_enter Try.func9, Try.ntmps9
    go_wp2_with fail
    refine (planeOf_yes _ _ hf).mono ?_
    rintro e w1 ⟨rfl, hb1⟩
    have K1 : Kt w.heap.size A B C w1 := Kt.call (Kt.at _ rfl) hb1
    have B1 : Below w.heap.size w w1 := bstep ((Below.refl _ _).alloc (Nat.le_refl _) _) hb1
    obtain ⟨k0, k1, k2, k3⟩ := id K1
    go_wp2_with fail
    refine (isValidL_any _ _ _ _).mono ?_
    rintro e w2 ⟨rfl, hb2⟩
    rw [hl]
    go_wp2
    go_ret2
    refine ⟨_, by rw [E.out.1]; rfl, ?_, bstep B1 hb2⟩
    rw [E.out.2]
    exact ⟨Nat.le_refl _, by simp, .inl ⟨rfl, none, 0, rfl⟩⟩
  · have E := Lib.hid (show svC f A B C = 0 ∧ svL f A B C = shortM f A B C by simp [svC, svL, flC, flB, hf, hl])
    have hs := Lib.hid (svL_small f A B C)
    have HLI := Lib.hid (latB_iff.1 hl)
    go_enter Try.func9, Try.ntmps9
    go_wp2_with fail
    refine (planeOf_yes _ _ hf).mono ?_
    rintro e w1 ⟨rfl, hb1⟩
    have K1 : Kt w.heap.size A B C w1 := Kt.call (Kt.at _ rfl) hb1
    have B1 : Below w.heap.size w w1 := bstep ((Below.refl _ _).alloc (Nat.le_refl _) _) hb1
    obtain ⟨k0, k1, k2, k3⟩ := id K1
    go_wp2_with fail
    refine (isValidL_any _ _ _ _).mono ?_
    rintro e w2 ⟨rfl, hb2⟩
    rw [hl]
    have K2 := K1.call hb2
    have B2 := bstep B1 hb2
    clear K1 B1 hb1 hb2 k0 k1 k2 k3
    obtain ⟨k0, k1, k2, k3⟩ := id K2
    go_wp2_with fail
    refine (neighbours_any f A B C _ hf HLI.out).mono ?_
    rintro e w3 ⟨ux, uy, vx, vy, L, g, cap, rfl, hG, h8, hS, hM, hmid, hg, _, hR, hb3⟩
    have B3 := bstep B2 hb3
    have HE := Lib.hid (hG.shorts hf HLI.out hS hM)
    have SH : Hid (∀ W, IRow g 16 (intAt (cells2 L)) W → Calls Try.prog 35 #[.iface (planeT f) (.agg #[]), .slice (some ⟨g, 0, none⟩) 8 cap] W (ShOwn f L W)) := Lib.hid (by
      intro W hW
      have := shortest_any f L g cap W hf hmid (by omega) (by rw [h8]; exact hW)
      rw [h8] at this
      exact this)
    have HR := Lib.hid hR
    clear hG h8 hS hM hmid hR hg K2 B2 hb3 k0 k1 k2 k3
    have z3 := B3.size
    go_wp2_with fail
    refine (SH.out _ HR.out).mono ?_
    rintro e w4 ⟨v, rfl, hown, hb4⟩
    rw [HE.out] at hown
    have B4 := bstep B3 hb4
    clear SH HR
    go_wp2
    go_ret2
    refine ⟨v, by rw [E.out.1]; rfl, ?_, B4⟩
    have hs' := hs.out
    rw [E.out.2] at hs' ⊢
    exact SRow.of (ownsRow_lower hown z3) (cells2_int _) hs'
set_option maxHeartbeats 4000000 in
theorem specSv_any (f A B C : Int) (w : World) : Calls Try.prog 10 #[.int .i64 f, .agg #[.int .i64 A, .int .i64 B, .int .i64 C]] w (SvAny f A B C w) := by
  rcases h : flB f A B C with _ | _
  · have E := Lib.hid (show svC f A B C = 1 ∧ svL f A B C = [] by simp [svC, svL, flC, h])
    have EC : flC f A B C = 1 := by simp [flC, h]
    go_enter Try.func10, Try.ntmps10
    go_wp2_with fail
    refine (l04Code_any _ _ _ _ _).mono ?_
    rintro e w1 ⟨rfl, hb1⟩
    rw [EC]
    go_wp2
    go_ret2
    refine ⟨_, by rw [E.out.1]; rfl, ?_, bstep ((Below.refl _ _).alloc (Nat.le_refl _) _) hb1⟩
    rw [E.out.2]
    exact ⟨Nat.le_refl _, by simp, .inl ⟨rfl, none, 0, rfl⟩⟩
  · have E := Lib.hid (show svC f A B C = 0 ∧ svL f A B C = shortM f A B C by simp [svC, svL, flC, h])
    have EC : flC f A B C = 0 := by simp [flC, h]
    obtain ⟨hf, hlb⟩ : frB f = true ∧ latB A B C = true := by simpa [flB] using h
    have hli := latB_iff.1 hlb
    have hs := Lib.hid (svL_small f A B C)
    go_enter Try.func10, Try.ntmps10
    go_wp2_with fail
    refine (l04Code_any _ _ _ _ _).mono ?_
    rintro e w1 ⟨rfl, hb1⟩
    rw [EC]
    have K1 : Kt w.heap.size A B C w1 := Kt.call (Kt.at _ rfl) hb1
    have B1 : Below w.heap.size w w1 := bstep ((Below.refl _ _).alloc (Nat.le_refl _) _) hb1
    obtain ⟨k0, k1, k2, k3⟩ := id K1
    go_wp2_with fail
    refine (l04Shortest_any _ _ _ _ _ hf hli).mono ?_
    rintro e w2 ⟨v, rfl, hown, hb2⟩
    go_wp2
    go_ret2
    refine ⟨v, by rw [E.out.1]; rfl, ?_, bstep B1 hb2⟩
    have hs' := hs.out
    rw [E.out.2] at hs' ⊢
    exact SRow.of (ownsRow_lower hown B1.size) (cells2_int _) hs'
end Go.Proofs.Ytapfjmmlogcmkaa
