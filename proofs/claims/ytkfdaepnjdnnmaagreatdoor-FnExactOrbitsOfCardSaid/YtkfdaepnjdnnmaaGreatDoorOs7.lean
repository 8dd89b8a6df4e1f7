/-
  The model's list of all orbits: a slice of slices. Conditions: a list that is a group modulo a valid lattice.
-/
import Derived.Test.YtkfdaepnjdnnmaaGreatDoorOb7
import Derived.Deep.RegionHeld3
import Derived.IntWalk
namespace Go.Proofs.YtkfdaepnjdnnmaaGreatDoor
open Go.RowKit
set_option linter.unusedSimpArgs false
set_option linter.unusedVariables false

theorem own_ne7 {W : World} {b1 b2 K1 K2 g g' n n' cap cap' : Nat} {e1 e2 : TypeId} {xs ys : List Value} (h1 : W.ownsRow b1 e1 K1 (.slice (some ⟨g, 0, none⟩) n cap) n xs) (h2 : W.ownsRow b2 e2 K2 (.slice (some ⟨g', 0, none⟩) n' cap') n' ys) (he : e1 ≠ e2) : g ≠ g' := by
  rcases h1.2 with ⟨h, _⟩ | ⟨a, c, cur, e, _, hg, _⟩
  · simp at h
  rcases h2.2 with ⟨h, _⟩ | ⟨a', c', cur', e', _, hg', _⟩
  · simp at h
  simp only [Value.slice.injEq, Option.some.injEq, Addr.mk.injEq, and_true, true_and] at e e'
  obtain ⟨rfl, rfl⟩ := e
  obtain ⟨rfl, rfl⟩ := e'
  rintro rfl
  rw [hg] at hg'
  cases hg'
  exact he rfl
/- a row of values of one cell that the call owns, by its block -/
def KOs (g base cap : Nat) (T : TypeId) (vs : List Value) (W : World) : Prop := W.ownsRow base T 1 (.slice (some ⟨g, 0, none⟩) vs.length cap) vs.length vs
theorem KOs.call {g base cap : Nat} {T : TypeId} {vs : List Value} {W w1 : World} (h : KOs g base cap T vs W) (hb : Below W.heap.size W w1) : KOs g base cap T vs w1 := ownsRow_call h hb
theorem KOs.alloc {g base cap : Nat} {T : TypeId} {vs : List Value} {W : World} (h : KOs g base cap T vs W) (z : Obj) : KOs g base cap T vs (W.alloc z) := h.call ((Below.refl _ _).alloc (Nat.le_refl _) _)
theorem KOs.drew {g base cap : Nat} {T : TypeId} {vs : List Value} {W : World} (h : KOs g base cap T vs W) : KOs g base cap T vs W.drew := h.call (Below.refl _ _).drew
theorem KOs.lt {g base cap : Nat} {T : TypeId} {vs : List Value} {W : World} (h : KOs g base cap T vs W) : base ≤ g ∧ g < W.heap.size := World.ownsRow.lt h g rfl
theorem KOs.of {base : Nat} {T : TypeId} {v : Value} {vs : List Value} {W : World} (h : W.ownsRow base T 1 v vs.length vs) (hn : 0 < vs.length) : ∃ g cap, v = .slice (some ⟨g, 0, none⟩) vs.length cap ∧ KOs g base cap T vs W := by
  rcases h.2 with ⟨_, h0⟩ | ⟨g, cap, cur, rfl, r⟩
  · omega
  · exact ⟨g, cap, rfl, h⟩
theorem lits {base : Nat} {T : TypeId} (W : World) (g : Nat) (hg : g = W.heap.size) (hb : base ≤ W.heap.size) : KOs g base 0 T [] (W.alloc (.cells #[] T)) := by
  subst hg
  exact World.ownsRow_lit (base := base) (e := T) (size := 1) W #[] 0 hb (by unfold maxLen; omega) rfl
theorem infoVs : (Tryz.prog.info? 90).map (fun i => (i.zero, i.size, i.bytes)) = some (some (.slice none 0 0), 1, 24) := by kernel_rfl
theorem new_one7 {W : World} {g : Nat} (T : TypeId) (a : Value) (hg : g = W.heap.size) : ∀ (j : Nat) (u : Value), [a][j]? = some u → (W.alloc (.cells #[a] T)).cell? ((⟨g, 0, none⟩ : Addr).add j) = some u := by
  intro j u hj
  subst hg
  match j, hj with
  | 0, h => cases h; simp [go_sem]
  | j + 1, h => simp at h
/- the orbits of some first cells, each in a row of its own -/
def OrbV (A B C : Int) (G : List M6) (lo : Nat) (F : List V2) (vs : List Value) (W : World) : Prop :=
  vs.length = F.length ∧ ∀ k (h : k < F.length), ∃ g cap, vs[k]? = some (.slice (some ⟨g, 0, none⟩) (orbL A B C G F[k]).length cap) ∧ KO2 g lo cap 53 (orbL A B C G F[k]) W
theorem OrbV.call {A B C : Int} {G : List M6} {lo : Nat} {F : List V2} {vs : List Value} {W w1 : World} (h : OrbV A B C G lo F vs W) (hb : Below W.heap.size W w1) : OrbV A B C G lo F vs w1 :=
  ⟨h.1, fun k hk => by obtain ⟨g, cap, h1, h2⟩ := h.2 k hk; exact ⟨g, cap, h1, h2.call hb⟩⟩
theorem OrbV.alloc {A B C : Int} {G : List M6} {lo : Nat} {F : List V2} {vs : List Value} {W : World} (h : OrbV A B C G lo F vs W) (z : Obj) : OrbV A B C G lo F vs (W.alloc z) := h.call ((Below.refl _ _).alloc (Nat.le_refl _) _)
theorem OrbV.drew {A B C : Int} {G : List M6} {lo : Nat} {F : List V2} {vs : List Value} {W : World} (h : OrbV A B C G lo F vs W) : OrbV A B C G lo F vs W.drew := h.call (Below.refl _ _).drew
theorem OrbV.grown {A B C : Int} {G : List M6} {lo go base co : Nat} {F : List V2} {vs ws : List Value} {W w1 : World} (h : OrbV A B C G lo F vs W) (ho : KOs go base co 90 ws W) (hg : W.grownBy w1 (some go)) : OrbV A B C G lo F vs w1 :=
  ⟨h.1, fun k hk => by
    obtain ⟨g, cap, h1, h2⟩ := h.2 k hk
    exact ⟨g, cap, h1, h2.kept hg (fun e => own_ne7 h2 ho (by decide) (Option.some.inj e))⟩⟩
theorem OrbV.snoc {A B C : Int} {G : List M6} {lo g cap : Nat} {F : List V2} {u : V2} {vs : List Value} {W : World} (h : OrbV A B C G lo F vs W) (hk : KO2 g lo cap 53 (orbL A B C G u) W) : OrbV A B C G lo (F ++ [u]) (vs ++ [Value.slice (some ⟨g, 0, none⟩) (orbL A B C G u).length cap]) W := by
  refine ⟨by simp [h.1], fun k hk2 => ?_⟩
  by_cases e : k < F.length
  · obtain ⟨g', cap', h1, h2⟩ := h.2 k e
    refine ⟨g', cap', ?_, ?_⟩
    · rw [List.getElem?_append_left (by rw [h.1]; exact e), List.getElem_append_left e]; exact h1
    · rw [List.getElem_append_left e]; exact h2
  · have ek : k = F.length := by simp at hk2; omega
    subst ek
    refine ⟨g, cap, ?_, ?_⟩
    · rw [List.getElem?_append_right (by rw [h.1]; omega), h.1]; simp
    · simpa using hk
theorem fst_zero (A B C : Int) (G : List M6) (L : List V2) : fstL A B C G (L.take 0) = [] := by simp [fstL]
theorem fst_end (p q : Nat) (B : Int) (G : List M6) : fstL (p : Int) B (q : Int) G ((cellP q p).take (cellP q p).length) = orbF p q B G := by rw [List.take_length]; rfl
attribute [local go_sem ↓] eqVe7
set_option maxRecDepth 100000 in
set_option maxHeartbeats 8000000 in
theorem l07Orbits_any {f : Int} {p q : Nat} {B : Int} {lo hi : Nat} {v : Value} {G : List M6} {w : World} (hG : grpB f (p : Int) B (q : Int) G = true) (h : SRow lo hi 6 v G.length (fm G) w) :
    Calls Tryz.prog 46 #[.agg #[.int .i64 ((p : Int)), .int .i64 B, .int .i64 ((q : Int))], v] w fun e w' => ∃ g cap vs, e = .returned (.slice (some ⟨g, 0, none⟩) vs.length cap) ∧ KOs g w.heap.size cap 90 vs w' ∧ OrbV (p : Int) B (q : Int) G w.heap.size (orbF p q B G) vs w' ∧ Below w.heap.size w w' := by
  obtain ⟨i0, hinf, hz0, hz1, hz2⟩ := info_parts infoVs
  have HA := Lib.hid h
  have HGR := Lib.hid hG
  have hl := (grp_good hG).1
  obtain ⟨hpb, hqb⟩ := latI_bd hl
  have hpq : (cellP q p).length ≤ 64 := by rw [cellP_len]; have := latI_prod hl; exact_mod_cast this
  have HPQ := Lib.hid hpq
  have L0 : Kt w.heap.size (p : Int) B (q : Int) (w.alloc (.cells #[.int .i64 ((p : Int)), .int .i64 B, .int .i64 ((q : Int))] 33)) := Kt.at _ rfl
  have B0 : Below w.heap.size w (w.alloc (.cells #[.int .i64 ((p : Int)), .int .i64 B, .int .i64 ((q : Int))] 33)) := (Below.refl _ _).alloc (Nat.le_refl _) _
  have CE := Lib.hid (fun W => l03Cells_any p q B W (by omega) (by omega))
  obtain ⟨ao, cap, rfl⟩ := srow_shape h
  have L0c := L0.cells
  have hlen : ((cellP q p).length : Int) ≤ 64 := by omega
  clear h hG hl hpb hqb hpq
  go_enter Tryz.func46, Tryz.ntmps46
  go_wp2_with fail
  refine (CE.out _).mono ?_
  rintro e w3 ⟨v3, rfl, hown, hb3⟩
  have L3 := L0.call hb3
  have B3 := bstep B0 hb3
  have S3 := SRow.of hown (cells2_int _) (by have := HPQ.out; omega)
  have HS := Lib.hid S3
  obtain ⟨ao5, cap5, rfl⟩ := srow_shape S3
  have z3 := B3.size
  have zl := kt_lt L3
  have L4 := L3.alloc (.cells #[] 90)
  have B4 : Below w.heap.size w (w3.alloc (.cells #[] 90)) := B3.alloc z3 _
  have B5 : Below w3.heap.size w3 (w3.alloc (.cells #[] 90)) := (Below.refl _ _).alloc (Nat.le_refl _) _
  have O4 : KOs w3.heap.size w3.heap.size 0 90 [] (w3.alloc (.cells #[] 90)) := lits _ _ rfl (Nat.le_refl _)
  have V4 : OrbV (p : Int) B (q : Int) G w.heap.size [] [] (w3.alloc (.cells #[] 90)) := ⟨rfl, fun k h => absurd h (by simp)⟩
  have Z0 := fst_zero (p : Int) B (q : Int) G (cellP q p)
  clear hown hb3 L0 L0c B0 L3 B3 S3 CE
  go_wp2_with fail
  go_loopw [6, 7] (fun s6 s7 W => ∃ (k : Nat) (F : List V2) (vs : List Value) (go co : Nat), s7 = .int .i64 (k : Int) ∧ k ≤ (cellP q p).length ∧ F = (fstL (p : Int) B (q : Int) G ((cellP q p).take k)) ∧ s6 = .slice (some ⟨go, 0, none⟩) vs.length co ∧ KOs go w3.heap.size co 90 vs W ∧ OrbV (p : Int) B (q : Int) G w.heap.size F vs W ∧ Kt w.heap.size (p : Int) B (q : Int) W ∧ Below w.heap.size w W ∧ Below w3.heap.size w3 W) (fun _ s7 _ => (cellP q p).length - (intOf s7).toNat)
  case atStart => exact ⟨0, [], [], _, _, rfl, by omega, Z0.symm, rfl, O4, V4, L4, B4, B5⟩
  case round =>
    clear O4 V4 L4 B4 B5 Z0
    obtain ⟨k, F, vs, go, co, rfl, hk, hF, rfl, hO, hV, hL, hB, hB5⟩ := hrel
    by_cases hk1 : k < (cellP q p).length
    · have hk2 : (k : Int) < ((cellP q p).length : Int) := by omega
      have hk3 : (k : Int) ≤ 64 := by omega
      have hres := HS.out.2.2.resolve_left (fun h => by omega)
      have hhi := HS.out.1
      obtain ⟨g, cap', e9, _, hg, RA⟩ := hres
      simp only [Value.slice.injEq, true_and] at e9
      obtain ⟨rfl, rfl⟩ := e9
      have q1 := (RA.grow hB5 (by omega)).v27 k hk1
      have hcel := cellP_mem7.1 (List.getElem_mem hk1)
      have hps := orbL_pos HGR.out hcel
      have HNX := Lib.hid (fst_step HGR.out hk1 hps)
      rw [← hF] at HNX
      have HFL := Lib.hid (show F.length ≤ 64 from by rw [hF]; exact Nat.le_trans (fstL_len _ _ _ _ _) (by rw [List.length_take]; have := HPQ.out; omega))
      have HVL := Lib.hid hV.1
      have HGO := Lib.hid hO.lt.1
      have HK := Lib.hid hk1
      have H768 := Lib.hid (show (orbL (p : Int) B (q : Int) G (cellP q p)[k]).length ≤ 768 from Nat.le_trans (orbL_len _ _ _ _ _) (grp_len HGR.out))
      clear RA hg hhi hk hF
      generalize hu : (cellP q p)[k] = u at *
      clear hu hk1
      obtain ⟨x0, x1⟩ := u
      dsimp only at q1
      have CO7 : Hid (∀ W, Below w.heap.size w W → Calls Tryz.prog 86 #[.agg #[.int .i64 ((p : Int)), .int .i64 B, .int .i64 ((q : Int))], .slice ao G.length cap, .agg #[.int .i64 x0, .int .i64 x1]] W fun e w' => ∃ g cap, e = .returned (.slice (some ⟨g, 0, none⟩) (orbL (p : Int) B (q : Int) G (x0, x1)).length cap) ∧ KO2 g W.heap.size cap 53 (orbL (p : Int) B (q : Int) G (x0, x1)) w' ∧ Below W.heap.size W w') := Lib.hid (fun W hW => l07Orbit_any x0 x1 HGR.out hcel (HA.out.grow hW HA.out.1))
      clear hcel
      generalize hOL : orbL (p : Int) B (q : Int) G (x0, x1) = Ou at *
      have HOL := Lib.hid hOL
      clear hOL
      have q1c := q1.cells
      have hLc := hL.cells
      have hLl := kt_lt hL
      have hgl : g < wr.heap.size := q1.1
      have hgo := hO.lt.2
      have zB := hB.size
      go_wp2_with fail
      go_region_held3 (fun W => (W.cell? ⟨w.heap.size, 0, none⟩ = some (.int .i64 (p : Int)) ∧ W.cell? ⟨w.heap.size, 1, none⟩ = some (.int .i64 B) ∧ W.cell? ⟨w.heap.size, 2, none⟩ = some (.int .i64 (q : Int))) ∧ (W.cell? ⟨g, k * 2, none⟩ = some (.int .i64 x0) ∧ W.cell? ⟨g, k * 2 + 1, none⟩ = some (.int .i64 x1))) ((refine And.intro (Kt.cells ?_) (Ko2.cells ?_)) <;> repeat (first | with_reducible assumption | with_reducible refine Kt.drew ?_ | with_reducible refine Kt.alloc ?_ _ | with_reducible refine Kt.call ?_ (by with_reducible assumption) | with_reducible refine Ko2.drew ?_ | with_reducible refine Ko2.alloc ?_ _ | with_reducible refine Ko2.call ?_ (by with_reducible assumption) | with_reducible refine KOs.drew ?_ | with_reducible refine KOs.alloc ?_ _ | with_reducible refine KOs.call ?_ (by with_reducible assumption) | with_reducible refine OrbV.drew ?_ | with_reducible refine OrbV.alloc ?_ _ | with_reducible refine OrbV.call ?_ (by with_reducible assumption) | with_reducible refine KO2.drew ?_ | with_reducible refine KO2.alloc ?_ _ | with_reducible refine KO2.call ?_ (by with_reducible assumption)))
        (first
          | (go_at_call 86; with_reducible refine (CO7.out _ (by repeat (first | with_reducible assumption | with_reducible exact Below.refl _ _ | with_reducible refine Below.alloc ?_ (by first | omega | (simp <;> omega)) _ | with_reducible refine bstep ?_ (by with_reducible assumption) | with_reducible refine Below.drew ?_))).mono ?_; rintro e w8 ⟨g8, cap8, rfl, K8, hb8⟩; have L8 : Kt w.heap.size (p : Int) B (q : Int) w8 := (by repeat (first | with_reducible assumption | with_reducible refine Kt.drew ?_ | with_reducible refine Kt.alloc ?_ _ | with_reducible refine Kt.call ?_ (by with_reducible assumption) | with_reducible refine Ko2.drew ?_ | with_reducible refine Ko2.alloc ?_ _ | with_reducible refine Ko2.call ?_ (by with_reducible assumption) | with_reducible refine KOs.drew ?_ | with_reducible refine KOs.alloc ?_ _ | with_reducible refine KOs.call ?_ (by with_reducible assumption) | with_reducible refine OrbV.drew ?_ | with_reducible refine OrbV.alloc ?_ _ | with_reducible refine OrbV.call ?_ (by with_reducible assumption) | with_reducible refine KO2.drew ?_ | with_reducible refine KO2.alloc ?_ _ | with_reducible refine KO2.call ?_ (by with_reducible assumption))); have q8 : Ko2 g (k * 2) x0 x1 w8 := (by repeat (first | with_reducible assumption | with_reducible refine Kt.drew ?_ | with_reducible refine Kt.alloc ?_ _ | with_reducible refine Kt.call ?_ (by with_reducible assumption) | with_reducible refine Ko2.drew ?_ | with_reducible refine Ko2.alloc ?_ _ | with_reducible refine Ko2.call ?_ (by with_reducible assumption) | with_reducible refine KOs.drew ?_ | with_reducible refine KOs.alloc ?_ _ | with_reducible refine KOs.call ?_ (by with_reducible assumption) | with_reducible refine OrbV.drew ?_ | with_reducible refine OrbV.alloc ?_ _ | with_reducible refine OrbV.call ?_ (by with_reducible assumption) | with_reducible refine KO2.drew ?_ | with_reducible refine KO2.alloc ?_ _ | with_reducible refine KO2.call ?_ (by with_reducible assumption))); have O8 : KOs go w3.heap.size co 90 vs w8 := (by repeat (first | with_reducible assumption | with_reducible refine Kt.drew ?_ | with_reducible refine Kt.alloc ?_ _ | with_reducible refine Kt.call ?_ (by with_reducible assumption) | with_reducible refine Ko2.drew ?_ | with_reducible refine Ko2.alloc ?_ _ | with_reducible refine Ko2.call ?_ (by with_reducible assumption) | with_reducible refine KOs.drew ?_ | with_reducible refine KOs.alloc ?_ _ | with_reducible refine KOs.call ?_ (by with_reducible assumption) | with_reducible refine OrbV.drew ?_ | with_reducible refine OrbV.alloc ?_ _ | with_reducible refine OrbV.call ?_ (by with_reducible assumption) | with_reducible refine KO2.drew ?_ | with_reducible refine KO2.alloc ?_ _ | with_reducible refine KO2.call ?_ (by with_reducible assumption))); have V8 : OrbV (p : Int) B (q : Int) G w.heap.size F vs w8 := (by repeat (first | with_reducible assumption | with_reducible refine Kt.drew ?_ | with_reducible refine Kt.alloc ?_ _ | with_reducible refine Kt.call ?_ (by with_reducible assumption) | with_reducible refine Ko2.drew ?_ | with_reducible refine Ko2.alloc ?_ _ | with_reducible refine Ko2.call ?_ (by with_reducible assumption) | with_reducible refine KOs.drew ?_ | with_reducible refine KOs.alloc ?_ _ | with_reducible refine KOs.call ?_ (by with_reducible assumption) | with_reducible refine OrbV.drew ?_ | with_reducible refine OrbV.alloc ?_ _ | with_reducible refine OrbV.call ?_ (by with_reducible assumption) | with_reducible refine KO2.drew ?_ | with_reducible refine KO2.alloc ?_ _ | with_reducible refine KO2.call ?_ (by with_reducible assumption))); have b8 : Below w3.heap.size w3 w8 := (by repeat (first | with_reducible exact hB5 | with_reducible refine Below.drew ?_ | with_reducible refine bstep ?_ hb8)); have B8 : Below w.heap.size w w8 := (by repeat (first | with_reducible exact hB | with_reducible refine Below.drew ?_ | with_reducible refine bstep ?_ hb8))))
      all_goals
        have K9 : KO2 g8 w.heap.size cap8 53 Ou w8 := ownsRow_lower K8 (by first | omega | (simp; omega))
        have o1 := K9.vec (by have := H768.out; omega) 0 hps
        have HE := Lib.hid (eqV2_dec Ou[0] (x0, x1))
        have hz5 : (0 : Int) < (Ou.length : Int) := by omega
        have hz6 : (Ou.length : Int) ≤ 768 := by have := H768.out; omega
        generalize Ou[0] = m0 at o1 HE HNX
        obtain ⟨a0, a1⟩ := m0
        dsimp only at o1 HE
        have o1c := o1.cells
        have q8c := q8.cells
        have HPS := Lib.hid hps
        clear hL hO hV hB hB5 q1 q1c hLc hb8 K8 CO7 hps
        rcases hd : decide (((a0, a1) : V2) = (x0, x1)) with _ | _
        · have he : eqV2 a0 a1 x0 x1 = false := HE.out.trans hd
          have HN2 := HNX.out
          rw [if_neg (of_decide_eq_false hd)] at HN2
          have HN3 := Lib.hid HN2
          clear HE hd HN2 HNX
          go_wp2_with fail
          go_quiet (fail)
          go_wp2
          go_roundw
          case rel => exact ⟨k + 1, F, vs, go, co, by go_num, by have := HK.out; omega, HN3.out.symm, rfl, O8.call (below_drewN (Below.refl _ _) _), V8.call (below_drewN (Below.refl _ _) _), L8.call (below_drewN (Below.refl _ _) _), below_drewN B8 _, below_drewN b8 _⟩
          case measure => (have := HK.out); first | (simp [intOf]; done) | (simp [intOf]; omega)
        · have he : eqV2 a0 a1 x0 x1 = true := HE.out.trans hd
          have HN2 := HNX.out
          rw [if_pos (of_decide_eq_true hd)] at HN2
          have HN3 := Lib.hid HN2
          clear HE hd HN2 HNX
          go_wp2_with fail
          go_quiet (fail)
          have O9 := O8.call (below_drewN (Below.refl _ _) nq)
          have V9 := V8.call (below_drewN (Below.refl _ _) nq)
          have L9 := L8.call (below_drewN (Below.refl _ _) nq)
          have K10 := K9.call (below_drewN (Below.refl _ _) nq)
          have B9 := below_drewN B8 nq
          have b9 := below_drewN b8 nq
          clear O8 V8 L8 K9 B8 b8 o1 o1c q8 q8c
          generalize w8.drewN nq = w9 at *
          have z9 := b9.size
          have l9 := kt_lt L9
          go_wp2_with (at_builtin; refine wpList_append_own _ rfl _ _ 43 rfl w3.heap.size 90 i0 (.slice none 0 0) 1 24 Tryz.underlying43 hinf hz0 hz1 hz2 rfl (by decide) _ _ _ rfl (O9.alloc _) ⟨w9.heap.size, 0, none⟩ 1 1 [.slice (some ⟨g8, 0, none⟩) Ou.length cap8] rfl rfl (new_one7 _ _ rfl) (by intro u hu; simp at hu; subst hu; rfl) (by have := HVL.out; have := HFL.out; unfold maxLen; omega) (by have := HVL.out; have := HFL.out; omega) (by (try simp); omega) ?_; intro v10 w10 hown10 hgrow _)
          obtain ⟨g10, cap10, rfl, O10⟩ := KOs.of (show w10.ownsRow w3.heap.size 90 1 v10 (vs ++ [Value.slice (some ⟨g8, 0, none⟩) Ou.length cap8]).length (vs ++ [Value.slice (some ⟨g8, 0, none⟩) Ou.length cap8]) from by rw [List.length_append]; exact hown10) (by simp)
          have V10 := (V9.alloc (.cells #[.slice (some ⟨g8, 0, none⟩) Ou.length cap8] 90)).grown (O9.alloc _) hgrow
          have L10 : Kt w.heap.size (p : Int) B (q : Int) w10 := Kt.grown (L9.alloc _) hgrow (fun e => by have e3 : w.heap.size = go := Option.some.inj e; have := (KOs.lt O9).1; omega)
          have K11 := KO2.kept (K10.alloc (.cells #[.slice (some ⟨g8, 0, none⟩) Ou.length cap8] 90)) hgrow (fun e => own_ne7 K10 O9 (by decide) (Option.some.inj e))
          have B10 : Below w.heap.size w w10 := Below.grown (Below.alloc B9 (by omega) _) hgrow (by simp; omega) (fun r hr => by have := (O9.lt).1; have e3 : go = r := Option.some.inj hr; omega)
          have b10 : Below w3.heap.size w3 w10 := Below.grown (Below.alloc b9 z9 (.cells #[.slice (some ⟨g8, 0, none⟩) Ou.length cap8] 90)) hgrow (by simp; omega) (fun r hr => by have e3 : go = r := Option.some.inj hr; have := HGO.out; omega)
          have V11 := V10.snoc (u := (x0, x1)) (by rw [HOL.out]; exact K11)
          rw [HOL.out] at V11
          clear hown10 hgrow O9 V9 L9 K10 B9 b9 V10 K11
          go_wp2
          go_roundw
          case rel => exact ⟨k + 1, F ++ [(x0, x1)], vs ++ [.slice (some ⟨g8, 0, none⟩) Ou.length cap8], g10, cap10, by go_num, by have := HK.out; omega, HN3.out.symm, rfl, O10, V11, L10, B10, b10⟩
          case measure => (have := HK.out); first | (simp [intOf]; done) | (simp [intOf]; omega)
    · obtain rfl : k = (cellP q p).length := by omega
      rw [fst_end] at hF
      subst hF
      have K9 : KOs go w.heap.size co 90 vs wr := ownsRow_lower hO (by omega)
      have HK9 := Lib.hid K9
      have HV9 := Lib.hid hV
      clear hk hk1 hO K9 hL hV hB5
      go_wp2
      go_ret
      exact ⟨_, _, _, rfl, HK9.out, HV9.out, hB⟩

end Go.Proofs.YtkfdaepnjdnnmaaGreatDoor
