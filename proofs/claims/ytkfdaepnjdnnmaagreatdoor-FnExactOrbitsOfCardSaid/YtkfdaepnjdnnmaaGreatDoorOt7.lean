/-
  The contract of the model's OrbitsOf. Condition: the list's length is below the model's bound.
-/
import Derived.Test.YtkfdaepnjdnnmaaGreatDoorNu7
import Derived.Test.YtkfdaepnjdnnmaaGreatDoorSlS
import Derived.Deep.RegionHeld3
import Derived.IntWalk
namespace Go.Proofs.YtkfdaepnjdnnmaaGreatDoor
open Go.RowKit
set_option linter.unusedSimpArgs false
set_option linter.unusedVariables false

/- the answer of both sides: how many orbits, how long, which cells -/
def osN (f A B C : Int) (G : List M6) : Nat := bif grpB f A B C G then (orbF A.toNat C.toNat B G).length else 0
def osL (A B C : Int) (G : List M6) (k : Nat) : List V2 := orbL A B C G ((orbF A.toNat C.toNat B G).getD k (0, 0))
def osLen (A B C : Int) (G : List M6) (k : Nat) : Nat := (osL A B C G k).length
def osF (A B C : Int) (G : List M6) (k : Nat) : Nat → Int := intAt (cells2 (osL A B C G k))
theorem osN_bad {f A B C : Int} {G : List M6} (h : grpB f A B C G = false) : osN f A B C G = 0 := by simp [osN, h]
theorem osN_good {f : Int} {p q : Nat} {B : Int} {G : List M6} (h : grpB f (p : Int) B (q : Int) G = true) : osN f (p : Int) B (q : Int) G = (orbF p q B G).length := by simp [osN, h]
theorem osL_at {p q : Nat} {B : Int} {G : List M6} {k : Nat} (hk : k < (orbF p q B G).length) : osL (p : Int) B (q : Int) G k = orbL (p : Int) B (q : Int) G (orbF p q B G)[k] := by
  unfold osL
  rw [List.getD_eq_getElem?_getD]
  show orbL (p : Int) B (q : Int) G ((orbF p q B G)[k]?.getD (0, 0)) = _
  rw [List.getElem?_eq_getElem hk]
  rfl
theorem orbF_64 {f : Int} {p q : Nat} {B : Int} {G : List M6} (hG : grpB f (p : Int) B (q : Int) G = true) : (orbF p q B G).length ≤ 64 := by
  have hpq : p * q ≤ 64 := by have := latI_prod (grp_good hG).1; exact_mod_cast this
  have h1 := fstL_len (p : Int) B (q : Int) G (cellP q p)
  have h2 : (cellP q p).length ≤ 64 := by rw [cellP_len]; exact hpq
  have h3 : (orbF p q B G).length = (fstL (p : Int) B (q : Int) G (cellP q p)).length := rfl
  omega
theorem VRow.nil (lo : Nat) (len : Nat → Nat) (F : Nat → Nat → Int) (W : World) : VRow lo W.heap.size (.slice none 0 0) 0 len F W := ⟨Nat.le_refl _, by omega, .inl ⟨rfl, none, 0, rfl⟩⟩
theorem VRowD.nil (lo : Nat) (len : Nat → Nat) (F : Nat → Nat → Int) (W : World) : VRowD lo W.heap.size (.slice none 0 0) 0 len F W := ⟨Nat.le_refl _, by omega, .inl ⟨rfl, none, 0, rfl⟩⟩
theorem vrow_of {f : Int} {p q : Nat} {B : Int} {G : List M6} {g cap lo : Nat} {vs : List Value} {W : World} (hG : grpB f (p : Int) B (q : Int) G = true) (hK : KOs g lo cap 90 vs W) (hV : OrbV (p : Int) B (q : Int) G lo (orbF p q B G) vs W) :
    VRow lo W.heap.size (.slice (some ⟨g, 0, none⟩) vs.length cap) (orbF p q B G).length (osLen (p : Int) B (q : Int) G) (osF (p : Int) B (q : Int) G) W := by
  obtain ⟨h1, h2⟩ := hV
  have hex : ∀ k, ∃ r : Nat × Nat, ∀ (h : k < (orbF p q B G).length), vs[k]? = some (.slice (some ⟨r.1, 0, none⟩) (orbL (p : Int) B (q : Int) G (orbF p q B G)[k]).length r.2) ∧ KO2 r.1 lo r.2 53 (orbL (p : Int) B (q : Int) G (orbF p q B G)[k]) W := fun k => by
    by_cases h : k < (orbF p q B G).length
    · obtain ⟨a, b, e1, e2⟩ := h2 k h
      exact ⟨(a, b), fun _ => ⟨e1, e2⟩⟩
    · exact ⟨(0, 0), fun h' => absurd h' h⟩
  obtain ⟨r, hr⟩ := Classical.skolem.1 hex
  refine ⟨Nat.le_refl _, orbF_64 hG, .inr ⟨g, cap, fun k => (r k).1, fun k => (r k).2, by rw [h1], hK.lt.1, hK.lt.2, hK.lt.2, fun k hk => ?_⟩⟩
  obtain ⟨e1, e2⟩ := hr k hk
  have hl : osL (p : Int) B (q : Int) G k = orbL (p : Int) B (q : Int) G (orbF p q B G)[k] := osL_at hk
  have h768 : (orbL (p : Int) B (q : Int) G (orbF p q B G)[k]).length ≤ 768 := Nat.le_trans (orbL_len _ _ _ _ _) (grp_len hG)
  have hpos := orbL_pos hG (orbF_cel hG hk)
  unfold osLen osF
  rw [hl]
  refine ⟨?_, hpos, h768, e2.lt.1, e2.lt.2, own_ne7 e2 hK (by decide), ?_⟩
  · exact ((show W.ownsRow lo 90 1 (.slice (some ⟨g, 0, none⟩) vs.length cap) vs.length vs from hK).cellAt k (by omega)).trans e1
  · have hs := SRow.of (show W.ownsRow lo 53 2 (.slice (some ⟨(r k).1, 0, none⟩) (orbL (p : Int) B (q : Int) G (orbF p q B G)[k]).length (r k).2) (orbL (p : Int) B (q : Int) G (orbF p q B G)[k]).length (cells2 (orbL (p : Int) B (q : Int) G (orbF p q B G)[k])) from e2) (cells2_int _) (by omega)
    obtain ⟨g', cap', e, _, _, q9⟩ := hs.2.2.resolve_left (fun h => by omega)
    simp only [Value.slice.injEq, Option.some.injEq, Addr.mk.injEq, and_true, true_and] at e
    obtain ⟨e3, _⟩ := e
    rw [← e3] at q9
    exact q9
theorem VRow.lower {lo lo' hi n : Nat} {v : Value} {len : Nat → Nat} {F : Nat → Nat → Int} {W : World} (h : VRow lo hi v n len F W) (hl : lo' ≤ lo) : VRow lo' hi v n len F W := by
  obtain ⟨h1, h2, h3⟩ := h
  refine ⟨h1, h2, ?_⟩
  rcases h3 with h3 | ⟨g, cap, gs, caps, e, k1, k2, k3⟩
  · exact .inl h3
  · exact .inr ⟨g, cap, gs, caps, e, Nat.le_trans hl k1, k2, k3.1, fun k hk => by
      obtain ⟨a1, a2, a3, a4, a5⟩ := k3.2 k hk
      exact ⟨a1, a2, a3, Nat.le_trans hl a4, a5⟩⟩
set_option maxRecDepth 100000 in
set_option maxHeartbeats 8000000 in
theorem specOrbits_any {lo hi : Nat} {v : Value} {xs : List M6} {w : World} (f A B C : Int) (h : SRow lo hi 6 v xs.length (fm xs) w) (hn : xs.length ≤ 1048576) :
    Calls Tryz.prog 17 #[.int .i64 f, .agg #[.int .i64 A, .int .i64 B, .int .i64 C], v] w fun e w' => ∃ v', e = .returned (.tuple #[v', .int .i64 (cod6 f A B C (grpB f A B C xs))]) ∧ VRow w.heap.size w'.heap.size v' (osN f A B C xs) (osLen A B C xs) (osF A B C xs) w' ∧ Below w.heap.size w w' := by
  have HA := Lib.hid h
  have HN := Lib.hid hn
  have L0 : Kt w.heap.size A B C (w.alloc (.cells #[.int .i64 A, .int .i64 B, .int .i64 C] 33)) := Kt.at _ rfl
  have B0 : Below w.heap.size w (w.alloc (.cells #[.int .i64 A, .int .i64 B, .int .i64 C] 33)) := (Below.refl _ _).alloc (Nat.le_refl _) _
  have L0c := L0.cells
  have CC : Hid (∀ W, Below w.heap.size w W → Calls Tryz.prog 45 #[.int .i64 f, .agg #[.int .i64 A, .int .i64 B, .int .i64 C], v, .bool true] W fun e w' => e = .returned (.int .i64 (cod6 f A B C (true && grpB f A B C xs))) ∧ Below W.heap.size W w') := Lib.hid (fun W hW => l07Code_any f A B C true (HA.out.grow hW HA.out.1) HN.out)
  obtain ⟨ao, cap, rfl⟩ := srow_shape h
  clear h hn
  rcases hg : grpB f A B C xs with _ | _
  · have HV := Lib.hid (osN_bad hg)
    have hc := cod6_nz f A B C
    rw [hg] at CC
    simp only [Bool.and_false] at CC
    clear hg
    generalize cod6 f A B C false = cc at CC hc
    rw [HV.out]
    go_enter Tryz.func17, Tryz.ntmps17
    go_wp2_with fail
    refine (CC.out _ B0).mono ?_
    rintro e w1 ⟨rfl, hb1⟩
    have B1 := bstep B0 hb1
    clear hb1 B0 L0 L0c CC
    go_wp2
    go_ret2
    exact ⟨_, rfl, VRow.nil _ _ _ _, B1⟩
  · obtain ⟨p, q, rfl, rfl⟩ := lat_nat7 (grp_good hg).1
    have HG := Lib.hid hg
    have HV := Lib.hid (osN_good hg)
    rw [hg] at CC
    simp only [Bool.and_true] at CC
    have hck := cod6_ok hg
    rw [hck] at CC
    rw [hck, HV.out]
    clear hg hck
    have CO8 : Hid (∀ W, Below w.heap.size w W → Calls Tryz.prog 46 #[.agg #[.int .i64 ((p : Int)), .int .i64 B, .int .i64 ((q : Int))], .slice ao xs.length cap] W fun e w' => ∃ (v' : Value), e = .returned v' ∧ VRow W.heap.size w'.heap.size v' (orbF p q B xs).length (osLen (p : Int) B (q : Int) xs) (osF (p : Int) B (q : Int) xs) w' ∧ Below W.heap.size W w') := Lib.hid (fun W hW => Calls.mono (l07Orbits_any HG.out (HA.out.grow hW HA.out.1)) (fun e w' (hh : ∃ (g cap : Nat) (vs : List Value), _ ∧ KOs g W.heap.size cap 90 vs w' ∧ OrbV (p : Int) B (q : Int) xs W.heap.size (orbF p q B xs) vs w' ∧ _) => by obtain ⟨g, cap, vs, h1, h2, h3, h4⟩ := hh; exact ⟨_, h1, vrow_of HG.out h2 h3, h4⟩))
    go_enter Tryz.func17, Tryz.ntmps17
    go_wp2_with fail
    refine (CC.out _ B0).mono ?_
    rintro e w1 ⟨rfl, hb1⟩
    have L1 := L0.call hb1
    have B1 := bstep B0 hb1
    have L1c := L1.cells
    clear hb1 B0 L0 L0c CC
    go_wp2_with fail
    refine (CO8.out _ B1).mono ?_
    rintro e w2 ⟨v2, rfl, S2, hb2⟩
    have B2 := bstep B1 hb2
    have z1 := B1.size
    clear hb2 L1 L1c CO8
    go_wp2
    go_ret2
    exact ⟨_, rfl, S2.lower z1, B2⟩

end Go.Proofs.YtkfdaepnjdnnmaaGreatDoor
