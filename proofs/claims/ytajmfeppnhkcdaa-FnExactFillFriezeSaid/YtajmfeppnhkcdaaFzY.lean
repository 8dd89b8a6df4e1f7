/-
  Shortened friezes in the model. Condition: the slice lies in a block of its own.
-/
import Derived.Test.YtajmfeppnhkcdaaFzW
namespace Go.Proofs.Ytajmfeppnhkcdaa
open Go.RowKit
set_option linter.unusedSimpArgs false
set_option linter.unusedVariables false

theorem ownsRow_alloc {W : World} {base n : Nat} {e : TypeId} {size : Nat} {v : Value} {xs : List Value} (h : W.ownsRow base e size v n xs) (o : Obj) : (W.alloc o).ownsRow base e size v n xs := ownsRow_call h ((Below.refl _ _).alloc (Nat.le_refl _) _)
theorem ownsRow_drew {W : World} {base n : Nat} {e : TypeId} {size : Nat} {v : Value} {xs : List Value} (h : W.ownsRow base e size v n xs) : W.drew.ownsRow base e size v n xs := ownsRow_call h (Below.refl _ _).drew
/- an empty row in a block of its own -/
def RowE (base g : Nat) (W : World) : Prop := W.ownsRow base 2 1 (.slice (some ⟨g, 0, none⟩) 0 0) 0 [] ∧ g < W.heap.size
theorem RowE.at {W : World} {base : Nat} (R : Nat) (hR : R = W.heap.size) (hb : base ≤ W.heap.size) : RowE base R (W.alloc (.cells #[] 2)) := by
  subst hR
  exact ⟨World.ownsRow_lit (base := base) (e := 2) (size := 1) W #[] 0 hb (by unfold maxLen; omega) rfl, by simp⟩
theorem RowE.call {W w1 : World} {base g : Nat} (h : RowE base g W) (hb : Below W.heap.size W w1) : RowE base g w1 := ⟨ownsRow_call h.1 hb, Nat.lt_of_lt_of_le h.2 hb.size⟩
theorem RowE.alloc {W : World} {base g : Nat} (h : RowE base g W) (o : Obj) : RowE base g (W.alloc o) := h.call ((Below.refl _ _).alloc (Nat.le_refl _) _)
theorem RowE.drew {W : World} {base g : Nat} (h : RowE base g W) : RowE base g W.drew := h.call (Below.refl _ _).drew
theorem RowE.far {W : World} {base g bx o : Nat} (hb : g ≠ bx) (u : Value) (h : RowE base g W) : RowE base g (W.setCell ⟨bx, o, none⟩ u) := ⟨ownsRow_set h.1 (by intro e; simp only [Value.ownBlock, Option.some.injEq] at e; exact hb e) u, by simpa [World.setCell] using h.2⟩
theorem new_one {W : World} {g : Nat} (T : TypeId) (a : Value) (hg : g = W.heap.size) : ∀ (j : Nat) (u : Value), [a][j]? = some u → (W.alloc (.cells #[a] T)).cell? ((⟨g, 0, none⟩ : Addr).add j) = some u := by
  subst hg
  intro j u hj
  match j, hj with
  | 0, hj => simp at hj; subst hj; simp [Addr.add, go_sem]
  | j + 1, hj => simp at hj
theorem RowE.one {base g : Nat} {W : World} (h : RowE base g W) : W.ownsRow base 2 1 (.slice (some ⟨g, 0, none⟩) 0 0) 0 (cellsI (fun _ => 0) 0) := h.1
theorem al1 (W : World) (o : Obj) : W.heap.size + 1 = (W.alloc o).heap.size := by simp
theorem al2 (W : World) (o : Obj) : W.heap.size < (W.alloc o).heap.size := by simp
set_option maxRecDepth 100000 in
set_option maxHeartbeats 16000000 in
theorem specSh_yes {lo hi h w n : Nat} {v : Value} {F : Nat → Int} {W : World} (p : FriI h w n F) (hv : SRow lo hi 1 v n F W) :
    Calls Try.prog 20 #[.agg #[.int .i64 (h : Int), .int .i64 (w : Int), v]] W (FAns (shA h w n F) W) := by
  obtain ⟨i0, hinf, hz0, hz1, hz2⟩ := info_parts infoI64
  have R := Lib.hid hv
  have P := Lib.hid p
  have hf := p.b
  have h6 := p.h6
  have h1' := p.h1
  have w1' := p.w1
  have w24 := p.w24
  have n144 := p.n144
  have HNN := Lib.hid p.nn
  obtain ⟨g, cap, rfl, hg, _, r⟩ := hv.irow p.n1
  have hgs := hv.1
  have hgw : g < W.heap.size := by omega
  have HA := Lib.hid (shA_yes p)
  have pb := perN_bd F p.w1 (h := h)
  obtain ⟨d, hd⟩ : ∃ d, d = perN h w F := ⟨_, rfl⟩
  rw [← hd] at HA pb
  have HD := Lib.hid (show ((perN h w F : Nat) : Int) = (d : Int) by rw [hd])
  have hd1 : 1 ≤ d ∧ d ≤ w := ⟨pb.1, pb.2.1⟩
  have HPER := Lib.hid (fun X (hb : Below W.heap.size W X) => (show Calls Try.prog 56 #[.agg #[.int .i64 (h : Int), .int .i64 (w : Int), .slice (some ⟨g, 0, none⟩) n cap]] X (fun e w' => e = .returned (.int .i64 (d : Int)) ∧ Below X.heap.size X w') by rw [← HD.out]; exact l08Period_any P.out (R.out.call hb)))
  clear hv p pb hd
  go_enter Try.func20, Try.ntmps20
  go_wp2_with fail
  with_reducible refine (specIsFri_any _ _ (R.out.call (by repeat (first | with_reducible exact Below.refl _ _ | with_reducible assumption | with_reducible refine Below.setCell ?_ (by first | omega | (dsimp only; omega) | (simp <;> omega)) _ | with_reducible refine Below.alloc ?_ (by first | omega | (simp <;> omega)) _ | with_reducible refine bstep ?_ (by with_reducible assumption) | with_reducible refine Below.drew ?_)))).mono ?_
  rintro e w1 ⟨rfl, hb1⟩
  rw [hf]
  have B1 : Below W.heap.size W w1 := bstep (by repeat (first | with_reducible exact Below.refl _ _ | with_reducible assumption | with_reducible refine Below.setCell ?_ (by first | omega | (dsimp only; omega) | (simp <;> omega)) _ | with_reducible refine Below.alloc ?_ (by first | omega | (simp <;> omega)) _ | with_reducible refine bstep ?_ (by with_reducible assumption) | with_reducible refine Below.drew ?_)) hb1
  have KA1 : K3 W.heap.size (.int .i64 (h : Int)) (.int .i64 (w : Int)) (.slice (some ⟨g, 0, none⟩) n cap) w1 := ((K3.at _ rfl).alloc _ : K3 _ _ _ _ ((W.alloc (.cells #[.int .i64 (h : Int), .int .i64 (w : Int), .slice (some ⟨g, 0, none⟩) n cap] 26)).alloc (.cells #[.int .i64 0, .int .i64 0, .slice none 0 0] 26))).call hb1
  have KC1 : KF (W.heap.size + 1) 0 0 (.slice none 0 0) w1 := (KF.at (w := (W.alloc (.cells #[.int .i64 (h : Int), .int .i64 (w : Int), .slice (some ⟨g, 0, none⟩) n cap] 26))) _ (by simp)).call hb1
  have ka0 := KA1.c0
  have ka1 := KA1.c1
  have ka2 := KA1.c2
  have kal := KA1.lt
  have kcl := KC1.lt
  clear hb1
  go_upto_region 1 with fail
  go_cut [4] (fun s4 wx => ShCut W h w n d g cap s4 wx)
  case first =>
    have y1 := B1.size
    have hbase1 : W.heap.size + 2 ≤ w1.heap.size := by omega
    go_region_held3 (fun W9 => (W9.cell? ⟨W.heap.size, 0, none⟩ = some (.int .i64 (h : Int)) ∧ W9.cell? ⟨W.heap.size, 1, none⟩ = some (.int .i64 (w : Int)) ∧ W9.cell? ⟨W.heap.size, 2, none⟩ = some (.slice (some ⟨g, 0, none⟩) n cap))) ((refine K3.cells ?_) <;> (repeat (first | with_reducible assumption | with_reducible refine K3.drew ?_ | with_reducible refine IRow.drew ?_ | with_reducible refine K3.alloc ?_ _ | with_reducible refine K3.call ?_ (by with_reducible assumption) | with_reducible refine IRow.call ?_ (by with_reducible assumption) | ((with_reducible refine K3.far ?_ ?_); (first | omega | (dsimp only; omega))) | ((with_reducible refine IRow.far ?_ ?_); (first | omega | (dsimp only; omega))) | with_reducible refine KF.drew ?_ | with_reducible refine KF.call ?_ (by with_reducible assumption) | ((with_reducible refine KF.far ?_ ?_); (first | omega | (dsimp only; omega))))))
      ((go_at_call 56; with_reducible refine (HPER.out _ (by repeat (first | with_reducible assumption | with_reducible exact Below.refl _ _ | with_reducible refine Below.drew ?_ | with_reducible refine below_drewN ?_ _ | with_reducible refine Below.alloc ?_ (by first | omega | (simp <;> omega)) _ | with_reducible refine bstep ?_ (by with_reducible assumption)))).mono ?_; rintro e w2 ⟨rfl, hb2⟩; (try ((refine useIt (P := KF (w1.heap.size) 0 0 (.slice none 0 0) w2) ?_ ?_); (first | exact KF.call (KF.drew (KF.at _ rfl)) hb2 | exact KF.call (KF.drew (KF.alloc (KF.at _ rfl) _)) hb2); intro D1; have D1c0 := D1.c0; have D1c1 := D1.c1; have D1c2 := D1.c2; have D1f0 := D1.f0; have D1f1 := D1.f1; have D1f2 := D1.f2; have D1l := D1.lt; have D1n : ¬ (w1.heap.size) = w2.heap.size := Nat.ne_of_lt D1.lt)); (try ((refine useIt (P := KF (w1.heap.size + 1) 0 0 (.slice none 0 0) w2) ?_ ?_); (first | exact KF.call (KF.drew (KF.at _ (al1 _ _))) hb2); intro D2; have D2c0 := D2.c0; have D2c1 := D2.c1; have D2c2 := D2.c2; have D2f0 := D2.f0; have D2f1 := D2.f1; have D2f2 := D2.f2; have D2l := D2.lt; have D2n : ¬ (w1.heap.size + 1) = w2.heap.size := Nat.ne_of_lt D2.lt)); (try ((refine useIt (P := RowE (W.heap.size + 2) (w1.heap.size) w2) ?_ ?_); (first | exact RowE.call (RowE.drew (RowE.at _ rfl hbase1)) hb2 | exact RowE.call (RowE.drew (RowE.alloc (RowE.at _ rfl hbase1) _)) hb2); intro E1)); (try ((refine useIt (P := RowE (W.heap.size + 2) (w1.heap.size + 1) w2) ?_ ?_); (first | exact RowE.call (RowE.drew (RowE.at _ (al1 _ _) (Nat.le_trans hbase1 (Nat.le_of_lt (al2 _ _))))) hb2); intro E2)); have c2 : Below w1.heap.size w1 w2 := (by repeat (first | with_reducible assumption | with_reducible exact Below.refl _ _ | with_reducible refine Below.drew ?_ | with_reducible refine below_drewN ?_ _ | with_reducible refine Below.alloc ?_ (by first | omega | (simp <;> omega)) _ | with_reducible refine bstep ?_ (by with_reducible assumption))); have y2 := c2.size))
    all_goals
      go_wp2_with fail
      go_meet
      have KA2 := KA1.call c2
      have KC2 := KC1.call c2
      have B2 := B1.trans (c2.mono B1.size)
      have hbase2 : W.heap.size + 2 ≤ w2.heap.size := by omega
      unfold ShCut
      first
        | ((with_reducible refine ⟨w2.heap.size + 1, .slice (some ⟨w2.heap.size, 0, none⟩) 0 0, rfl, ?_, RowE.one ?_, ?_, ?_, ?_, ?_, ?_⟩); (· first | with_reducible exact KF.at _ rfl | with_reducible exact KF.at _ (al1 _ _) | with_reducible exact KF.alloc (KF.at _ rfl) _ | with_reducible exact KF.store D1 _ _ _ | with_reducible exact KF.store D2 _ _ _ | with_reducible exact KF.store (KF.alloc D1 _) _ _ _ | with_reducible exact KF.alloc (KF.store D1 _ _ _) _); (· first | with_reducible exact RowE.at _ rfl hbase2 | with_reducible exact RowE.at _ (al1 _ _) (Nat.le_trans hbase2 (Nat.le_of_lt (al2 _ _))) | with_reducible exact RowE.alloc (RowE.at _ rfl hbase2) _ | with_reducible exact RowE.alloc E1 _ | ((with_reducible refine RowE.at _ ?_ ?_) <;> (simp [World.setCell] <;> omega)) | with_reducible exact RowE.far (by omega) _ (RowE.far (by omega) _ (RowE.far (by omega) _ E1)) | with_reducible exact RowE.far (by omega) _ (RowE.far (by omega) _ (RowE.far (by omega) _ E2)) | with_reducible exact RowE.far (by omega) _ (RowE.far (by omega) _ (RowE.far (by omega) _ (RowE.at _ rfl hbase2)))); (· intro e9; simp only [Value.ownBlock, Option.map_some, Option.some.injEq] at e9; first | omega | (have := E1.2; omega) | (have := E2.2; omega) | (have := D1.lt; omega) | (have := D2.lt; omega)); (· omega); (· repeat (first | with_reducible exact KA2 | with_reducible refine K3.alloc ?_ _ | ((with_reducible refine K3.far ?_ ?_); (dsimp only; omega)))); (· repeat (first | with_reducible exact KC2 | with_reducible refine KF.alloc ?_ _ | ((with_reducible refine KF.far ?_ ?_); (dsimp only; omega)))); (· repeat (first | with_reducible exact B2 | with_reducible refine Below.alloc ?_ (by first | omega | (simp <;> omega)) _ | with_reducible refine Below.setCell ?_ (by first | omega | (dsimp only; omega)) _)))
        | ((with_reducible refine ⟨w2.heap.size, .slice (some ⟨w2.heap.size + 1, 0, none⟩) 0 0, rfl, ?_, RowE.one ?_, ?_, ?_, ?_, ?_, ?_⟩); (· first | with_reducible exact KF.at _ rfl | with_reducible exact KF.at _ (al1 _ _) | with_reducible exact KF.alloc (KF.at _ rfl) _ | with_reducible exact KF.store D1 _ _ _ | with_reducible exact KF.store D2 _ _ _ | with_reducible exact KF.store (KF.alloc D1 _) _ _ _ | with_reducible exact KF.alloc (KF.store D1 _ _ _) _); (· first | with_reducible exact RowE.at _ rfl hbase2 | with_reducible exact RowE.at _ (al1 _ _) (Nat.le_trans hbase2 (Nat.le_of_lt (al2 _ _))) | with_reducible exact RowE.alloc (RowE.at _ rfl hbase2) _ | with_reducible exact RowE.alloc E1 _ | ((with_reducible refine RowE.at _ ?_ ?_) <;> (simp [World.setCell] <;> omega)) | with_reducible exact RowE.far (by omega) _ (RowE.far (by omega) _ (RowE.far (by omega) _ E1)) | with_reducible exact RowE.far (by omega) _ (RowE.far (by omega) _ (RowE.far (by omega) _ E2)) | with_reducible exact RowE.far (by omega) _ (RowE.far (by omega) _ (RowE.far (by omega) _ (RowE.at _ rfl hbase2)))); (· intro e9; simp only [Value.ownBlock, Option.map_some, Option.some.injEq] at e9; first | omega | (have := E1.2; omega) | (have := E2.2; omega) | (have := D1.lt; omega) | (have := D2.lt; omega)); (· omega); (· repeat (first | with_reducible exact KA2 | with_reducible refine K3.alloc ?_ _ | ((with_reducible refine K3.far ?_ ?_); (dsimp only; omega)))); (· repeat (first | with_reducible exact KC2 | with_reducible refine KF.alloc ?_ _ | ((with_reducible refine KF.far ?_ ?_); (dsimp only; omega)))); (· repeat (first | with_reducible exact B2 | with_reducible refine Below.alloc ?_ (by first | omega | (simp <;> omega)) _ | with_reducible refine Below.setCell ?_ (by first | omega | (dsimp only; omega)) _)))
        | ((with_reducible refine ⟨w2.heap.size, .slice (some ⟨w1.heap.size, 0, none⟩) 0 0, rfl, ?_, RowE.one ?_, ?_, ?_, ?_, ?_, ?_⟩); (· first | with_reducible exact KF.at _ rfl | with_reducible exact KF.at _ (al1 _ _) | with_reducible exact KF.alloc (KF.at _ rfl) _ | with_reducible exact KF.store D1 _ _ _ | with_reducible exact KF.store D2 _ _ _ | with_reducible exact KF.store (KF.alloc D1 _) _ _ _ | with_reducible exact KF.alloc (KF.store D1 _ _ _) _); (· first | with_reducible exact RowE.at _ rfl hbase2 | with_reducible exact RowE.at _ (al1 _ _) (Nat.le_trans hbase2 (Nat.le_of_lt (al2 _ _))) | with_reducible exact RowE.alloc (RowE.at _ rfl hbase2) _ | with_reducible exact RowE.alloc E1 _ | ((with_reducible refine RowE.at _ ?_ ?_) <;> (simp [World.setCell] <;> omega)) | with_reducible exact RowE.far (by omega) _ (RowE.far (by omega) _ (RowE.far (by omega) _ E1)) | with_reducible exact RowE.far (by omega) _ (RowE.far (by omega) _ (RowE.far (by omega) _ E2)) | with_reducible exact RowE.far (by omega) _ (RowE.far (by omega) _ (RowE.far (by omega) _ (RowE.at _ rfl hbase2)))); (· intro e9; simp only [Value.ownBlock, Option.map_some, Option.some.injEq] at e9; first | omega | (have := E1.2; omega) | (have := E2.2; omega) | (have := D1.lt; omega) | (have := D2.lt; omega)); (· omega); (· repeat (first | with_reducible exact KA2 | with_reducible refine K3.alloc ?_ _ | ((with_reducible refine K3.far ?_ ?_); (dsimp only; omega)))); (· repeat (first | with_reducible exact KC2 | with_reducible refine KF.alloc ?_ _ | ((with_reducible refine KF.far ?_ ?_); (dsimp only; omega)))); (· repeat (first | with_reducible exact B2 | with_reducible refine Below.alloc ?_ (by first | omega | (simp <;> omega)) _ | with_reducible refine Below.setCell ?_ (by first | omega | (dsimp only; omega)) _)))
        | ((with_reducible refine ⟨w1.heap.size, .slice (some ⟨w2.heap.size, 0, none⟩) 0 0, rfl, ?_, RowE.one ?_, ?_, ?_, ?_, ?_, ?_⟩); (· first | with_reducible exact KF.at _ rfl | with_reducible exact KF.at _ (al1 _ _) | with_reducible exact KF.alloc (KF.at _ rfl) _ | with_reducible exact KF.store D1 _ _ _ | with_reducible exact KF.store D2 _ _ _ | with_reducible exact KF.store (KF.alloc D1 _) _ _ _ | with_reducible exact KF.alloc (KF.store D1 _ _ _) _); (· first | with_reducible exact RowE.at _ rfl hbase2 | with_reducible exact RowE.at _ (al1 _ _) (Nat.le_trans hbase2 (Nat.le_of_lt (al2 _ _))) | with_reducible exact RowE.alloc (RowE.at _ rfl hbase2) _ | with_reducible exact RowE.alloc E1 _ | ((with_reducible refine RowE.at _ ?_ ?_) <;> (simp [World.setCell] <;> omega)) | with_reducible exact RowE.far (by omega) _ (RowE.far (by omega) _ (RowE.far (by omega) _ E1)) | with_reducible exact RowE.far (by omega) _ (RowE.far (by omega) _ (RowE.far (by omega) _ E2)) | with_reducible exact RowE.far (by omega) _ (RowE.far (by omega) _ (RowE.far (by omega) _ (RowE.at _ rfl hbase2)))); (· intro e9; simp only [Value.ownBlock, Option.map_some, Option.some.injEq] at e9; first | omega | (have := E1.2; omega) | (have := E2.2; omega) | (have := D1.lt; omega) | (have := D2.lt; omega)); (· omega); (· repeat (first | with_reducible exact KA2 | with_reducible refine K3.alloc ?_ _ | ((with_reducible refine K3.far ?_ ?_); (dsimp only; omega)))); (· repeat (first | with_reducible exact KC2 | with_reducible refine KF.alloc ?_ _ | ((with_reducible refine KF.far ?_ ?_); (dsimp only; omega)))); (· repeat (first | with_reducible exact B2 | with_reducible refine Below.alloc ?_ (by first | omega | (simp <;> omega)) _ | with_reducible refine Below.setCell ?_ (by first | omega | (dsimp only; omega)) _)))
        | ((with_reducible refine ⟨w1.heap.size, .slice (some ⟨w1.heap.size + 1, 0, none⟩) 0 0, rfl, ?_, RowE.one ?_, ?_, ?_, ?_, ?_, ?_⟩); (· first | with_reducible exact KF.at _ rfl | with_reducible exact KF.at _ (al1 _ _) | with_reducible exact KF.alloc (KF.at _ rfl) _ | with_reducible exact KF.store D1 _ _ _ | with_reducible exact KF.store D2 _ _ _ | with_reducible exact KF.store (KF.alloc D1 _) _ _ _ | with_reducible exact KF.alloc (KF.store D1 _ _ _) _); (· first | with_reducible exact RowE.at _ rfl hbase2 | with_reducible exact RowE.at _ (al1 _ _) (Nat.le_trans hbase2 (Nat.le_of_lt (al2 _ _))) | with_reducible exact RowE.alloc (RowE.at _ rfl hbase2) _ | with_reducible exact RowE.alloc E1 _ | ((with_reducible refine RowE.at _ ?_ ?_) <;> (simp [World.setCell] <;> omega)) | with_reducible exact RowE.far (by omega) _ (RowE.far (by omega) _ (RowE.far (by omega) _ E1)) | with_reducible exact RowE.far (by omega) _ (RowE.far (by omega) _ (RowE.far (by omega) _ E2)) | with_reducible exact RowE.far (by omega) _ (RowE.far (by omega) _ (RowE.far (by omega) _ (RowE.at _ rfl hbase2)))); (· intro e9; simp only [Value.ownBlock, Option.map_some, Option.some.injEq] at e9; first | omega | (have := E1.2; omega) | (have := E2.2; omega) | (have := D1.lt; omega) | (have := D2.lt; omega)); (· omega); (· repeat (first | with_reducible exact KA2 | with_reducible refine K3.alloc ?_ _ | ((with_reducible refine K3.far ?_ ?_); (dsimp only; omega)))); (· repeat (first | with_reducible exact KC2 | with_reducible refine KF.alloc ?_ _ | ((with_reducible refine KF.far ?_ ?_); (dsimp only; omega)))); (· repeat (first | with_reducible exact B2 | with_reducible refine Below.alloc ?_ (by first | omega | (simp <;> omega)) _ | with_reducible refine Below.setCell ?_ (by first | omega | (dsimp only; omega)) _)))
        | ((with_reducible refine ⟨w1.heap.size + 1, .slice (some ⟨w1.heap.size, 0, none⟩) 0 0, rfl, ?_, RowE.one ?_, ?_, ?_, ?_, ?_, ?_⟩); (· first | with_reducible exact KF.at _ rfl | with_reducible exact KF.at _ (al1 _ _) | with_reducible exact KF.alloc (KF.at _ rfl) _ | with_reducible exact KF.store D1 _ _ _ | with_reducible exact KF.store D2 _ _ _ | with_reducible exact KF.store (KF.alloc D1 _) _ _ _ | with_reducible exact KF.alloc (KF.store D1 _ _ _) _); (· first | with_reducible exact RowE.at _ rfl hbase2 | with_reducible exact RowE.at _ (al1 _ _) (Nat.le_trans hbase2 (Nat.le_of_lt (al2 _ _))) | with_reducible exact RowE.alloc (RowE.at _ rfl hbase2) _ | with_reducible exact RowE.alloc E1 _ | ((with_reducible refine RowE.at _ ?_ ?_) <;> (simp [World.setCell] <;> omega)) | with_reducible exact RowE.far (by omega) _ (RowE.far (by omega) _ (RowE.far (by omega) _ E1)) | with_reducible exact RowE.far (by omega) _ (RowE.far (by omega) _ (RowE.far (by omega) _ E2)) | with_reducible exact RowE.far (by omega) _ (RowE.far (by omega) _ (RowE.far (by omega) _ (RowE.at _ rfl hbase2)))); (· intro e9; simp only [Value.ownBlock, Option.map_some, Option.some.injEq] at e9; first | omega | (have := E1.2; omega) | (have := E2.2; omega) | (have := D1.lt; omega) | (have := D2.lt; omega)); (· omega); (· repeat (first | with_reducible exact KA2 | with_reducible refine K3.alloc ?_ _ | ((with_reducible refine K3.far ?_ ?_); (dsimp only; omega)))); (· repeat (first | with_reducible exact KC2 | with_reducible refine KF.alloc ?_ _ | ((with_reducible refine KF.far ?_ ?_); (dsimp only; omega)))); (· repeat (first | with_reducible exact B2 | with_reducible refine Below.alloc ?_ (by first | omega | (simp <;> omega)) _ | with_reducible refine Below.setCell ?_ (by first | omega | (dsimp only; omega)) _)))
  case rest =>
    clear KA1 KC1 ka0 ka1 ka2 kal kcl B1
    obtain ⟨bx, v0, rfl, KD, O1, hnb, hbx, KA, KC, hB⟩ := hcut
    go_wp2_with fail
    go_loopw [5, 6] (fun s5 _ X => ∃ (y : Nat) (v9 : Value), s5 = .int .i64 (y : Int) ∧ y ≤ h ∧ KF bx (h : Int) (d : Int) v9 X ∧ X.ownsRow (W.heap.size + 2) 2 1 v9 (y * d) (cellsI (shG w d F) (y * d)) ∧ v9.ownBlock ≠ some bx ∧ K3 W.heap.size (.int .i64 (h : Int)) (.int .i64 (w : Int)) (.slice (some ⟨g, 0, none⟩) n cap) X ∧ KF (W.heap.size + 1) 0 0 (.slice none 0 0) X ∧ Below W.heap.size W X) (fun s5 _ _ => h - (intOf s5).toNat)
    case atStart => exact ⟨0, v0, rfl, by omega, KD, by simpa [cellsI] using O1, hnb, KA, KC, hB⟩
    case round =>
      clear KD O1 KA KC hB hnb
      obtain ⟨y, v9, rfl, hy, KD, O1, hnb, KA, KC, hB⟩ := hrel
      have ka0 := KA.c0
      have kal := KA.lt
      by_cases hy1 : y < h
      · have hy2 : (y : Int) < (h : Int) := by omega
        go_wp2_with fail
        go_loopw [6] (fun s6 X => ∃ (x : Nat) (v9 : Value), s6 = .int .i64 (x : Int) ∧ x ≤ d ∧ KF bx (h : Int) (d : Int) v9 X ∧ X.ownsRow (W.heap.size + 2) 2 1 v9 (y * d + x) (cellsI (shG w d F) (y * d + x)) ∧ v9.ownBlock ≠ some bx ∧ K3 W.heap.size (.int .i64 (h : Int)) (.int .i64 (w : Int)) (.slice (some ⟨g, 0, none⟩) n cap) X ∧ KF (W.heap.size + 1) 0 0 (.slice none 0 0) X ∧ Below W.heap.size W X) (fun s6 _ => d - (intOf s6).toNat)
        case atStart => exact ⟨0, v9, rfl, by omega, KD, by simpa using O1, hnb, KA, KC, hB⟩
        case round =>
          clear KD O1 KA KC hB hnb ka0 kal
          obtain ⟨x, v9, rfl, hx, KD, O1, hnb, KA, KC, hB⟩ := hrel
          have kd1 := KD.c1
          have kdl := KD.lt
          by_cases hx1 : x < d
          · have hx2 : (x : Int) < (d : Int) := by omega
            have HYD : Hid (y * d + x ≤ 144) := Lib.hid (by
              have h9 := Nat.mul_le_mul (show y + 1 ≤ 6 by omega) (show d ≤ 24 by omega)
              rw [Nat.succ_mul] at h9
              omega)
            have hfe : F (cel w (x : Int) (y : Int)) = shG w d F (y * d + x) := by
              rw [shG_at F hx1]
              have hc : y * w + x < n := by rw [HNN.out]; exact row_lt hy1 (by omega)
              have e2 := cel_self P.out hc
              rw [div_row (show x < w by omega), mod_row (show x < w by omega)] at e2
              rw [e2]
            obtain ⟨f, hf9⟩ : ∃ f, f = F (cel w (x : Int) (y : Int)) := ⟨_, rfl⟩
            rw [← hf9] at hfe
            have HF := Lib.hid hfe
            have HAT := Lib.hid (fun X (hb : Below W.heap.size W X) => (show Calls Try.prog 57 #[.agg #[.int .i64 (h : Int), .int .i64 (w : Int), .slice (some ⟨g, 0, none⟩) n cap], .int .i64 (x : Int), .int .i64 (y : Int)] X (fun e w' => e = .returned (.int .i64 f) ∧ Below X.heap.size X w') by rw [hf9]; exact l08At_any P.out (R.out.call hb) (x : Int) (y : Int) (by omega) (by omega)))
            clear hfe hf9
            have KDd := KD.drew
            have KAd := KA.drew
            have KCd := KC.drew
            have Bd := hB.drew
            have O1d := ownsRow_drew O1
            go_wp2_with fail
            refine wp_region_T 7 (fun W9 => (W9.cell? ⟨W.heap.size, 0, none⟩ = some (.int .i64 (h : Int)) ∧ W9.cell? ⟨W.heap.size, 1, none⟩ = some (.int .i64 (w : Int)) ∧ W9.cell? ⟨W.heap.size, 2, none⟩ = some (.slice (some ⟨g, 0, none⟩) n cap)) ∧ W9.cell? ⟨bx, 2, none⟩ = some v9) (by kernel_rfl) ⟨KAd.cells, KDd.c2⟩ (fun hHeld inv => ?_)
            refine wpAnyT_take (i := 0) (v := ?_) (by kernel_rfl) (by kernel_rfl) (by decide) (by kernel_rfl) inv rfl (by decide) (by kernel_rfl) (by kernel_rfl) (fun _ _ _ h => h) (Or.inl ⟨by rfl, ?_⟩) (by assumption) (fun inv => ?_)
            rotate_left
            · (intro w hSw; (try dsimp only at hSw); go_simp; try with_reducible rfl)
            simp only [Act.put, List.setIfInBounds_toArray, List.set_cons_zero, List.set_cons_succ]
            refine wpAnyT_take (i := 1) (v := ?_) (by kernel_rfl) (by kernel_rfl) (by decide) (by kernel_rfl) inv rfl (by decide) (by kernel_rfl) (by kernel_rfl) (fun _ _ _ h => h) (Or.inl ⟨by rfl, ?_⟩) (by assumption) (fun inv => ?_)
            rotate_left
            · (intro w hSw; (try dsimp only at hSw); go_simp; try with_reducible rfl)
            simp only [Act.put, List.setIfInBounds_toArray, List.set_cons_zero, List.set_cons_succ]
            refine wpAnyT_take (i := 2) (v := ?_) (by kernel_rfl) (by kernel_rfl) (by decide) (by kernel_rfl) inv rfl (by decide) (by kernel_rfl) (by kernel_rfl) (fun _ _ _ h => h) (Or.inl ⟨by rfl, ?_⟩) (by assumption) (fun inv => ?_)
            rotate_left
            · (intro w hSw; (try dsimp only at hSw); go_simp; try with_reducible rfl)
            simp only [Act.put, List.setIfInBounds_toArray, List.set_cons_zero, List.set_cons_succ]
            refine wpAnyT_take (i := 3) (v := ?_) (by kernel_rfl) (by kernel_rfl) (by decide) (by kernel_rfl) inv rfl (by decide) (by kernel_rfl) (by kernel_rfl) (fun _ _ _ h => h) (Or.inl ⟨by rfl, ?_⟩) (by assumption) (fun inv => ?_)
            rotate_left
            · (intro w hSw; (try dsimp only at hSw); go_simp; try with_reducible rfl)
            simp only [Act.put, List.setIfInBounds_toArray, List.set_cons_zero, List.set_cons_succ]
            refine wpAnyT_take (i := 4) (v := ?_) (by kernel_rfl) (by kernel_rfl) (by decide) (by kernel_rfl) inv rfl (by decide) (by kernel_rfl) (by kernel_rfl) (fun _ _ _ h => h) (Or.inl ⟨by rfl, ?_⟩) (by assumption) (fun inv => ?_)
            rotate_left
            · (intro w hSw; (try dsimp only at hSw); go_simp; try with_reducible rfl)
            simp only [Act.put, List.setIfInBounds_toArray, List.set_cons_zero, List.set_cons_succ]
            refine wpAnyT_one (i := 5) (by kernel_rfl) rfl (fun K hK => ?_)
            go_simp
            (go_at_call 57; with_reducible refine (HAT.out _ Bd).mono ?_; rintro e w2 ⟨rfl, hb2⟩; have KD2 := KDd.call hb2; have KA2 := KAd.call hb2; have KC2 := KCd.call hb2; have B2 := bstep Bd hb2; have O2 := ownsRow_call O1d hb2)
            refine hK.out _ _ (fun _ => ⟨KA2.cells, KD2.c2⟩) ?_
            clear hK K
            try simp only [Act.put, List.setIfInBounds_toArray, List.set_cons_zero, List.set_cons_succ]
            refine wpAnyT_one (i := 6) (by kernel_rfl) rfl (fun K hK => ?_)
            go_simp
            refine hK.out _ _ (fun _ => ⟨(KA2.alloc _).cells, (KD2.alloc _).c2⟩) ?_
            clear hK K
            try simp only [Act.put, List.setIfInBounds_toArray, List.set_cons_zero, List.set_cons_succ]
            refine wpAnyT_seq (k := 7) (by decide) rfl rfl (by kernel_rfl) ?_
            clear hb2 KD KA KC O1 hB KDd KAd KCd Bd O1d hHeld inv kd1 kdl
            refine wpList_append_own_at _ rfl _ _ 22 rfl (W.heap.size + 2) 2 i0 (.int .i64 0) 1 8 Try.underlying22 hinf hz0 hz1 hz2 rfl (by decide) _ _ _ rfl (ownsRow_alloc O2 _) ⟨w2.heap.size, 0, none⟩ 1 1 [.int .i64 f] rfl rfl ?c1 ?c2 ?c3 ?c4 ?c5 ?_
            case c1 => exact new_one _ _ rfl
            case c2 => intro u hu; simp only [List.mem_cons, List.not_mem_nil, or_false] at hu; rw [hu]; rfl
            case c3 => unfold maxLen; have := HYD.out; omega
            case c4 => have := HYD.out; omega
            case c5 => have := KC2.lt; simp; omega
            intro v' w3 hown3 hgr3 _ hat
            have KD3 := (KD2.alloc (.cells #[.int .i64 f] 2)).grown hgr3 hnb
            have KA3 := (KA2.alloc (.cells #[.int .i64 f] 2)).grown hgr3 (fun e9 => by have := (O2.lt _ e9).1; omega)
            have KC3 := (KC2.alloc (.cells #[.int .i64 f] 2)).grown hgr3 (fun e9 => by have := (O2.lt _ e9).1; omega)
            have B3 : Below W.heap.size W w3 := Below.grown (Below.alloc B2 (by have := KC2.lt; omega) _) hgr3 (by have := KC2.lt; simp; omega) (fun q hq => by have := (O2.lt q hq).1; omega)
            have hown4 : w3.ownsRow (W.heap.size + 2) 2 1 v' (y * d + (x + 1)) (cellsI (shG w d F) (y * d + (x + 1))) := by rw [← Nat.add_assoc, cellsI_succ, ← HF.out]; exact hown3
            have KD4 := KD3.store2 v'
            have hnb4 : v'.ownBlock ≠ some bx := by
              rcases hat with e9 | e9 <;> rw [e9]
              · exact hnb
              · intro e7; have := KD2.lt; simp at e7; omega
            have OWN9 := Lib.hid hown4
            obtain ⟨ao', cap', rfl⟩ := own_sh hown4
            have kd2' := KD3.c2
            have kdf2 := KD3.f2
            have kdl' := KD3.lt
            clear hown3 hown4 hgr3 hat O2 KA2 KC2 KD2 B2
            go_wp2
            go_roundw
            case rel => exact ⟨x + 1, _, by go_num, by omega, KD4, ownsRow_set OWN9.out hnb4 _, hnb4, K3.far (by dsimp only; omega) KA3, KF.far (by dsimp only; omega) KC3, B3.setCell (by dsimp only; omega) _⟩
            case measure => first | (simp [intOf]; done) | (simp [intOf]; omega)
          · obtain rfl : x = d := by omega
            have e9 : (y + 1) * x = y * x + x := Nat.succ_mul y x
            rw [← e9] at O1
            clear e9
            go_wp2
            go_roundw
            case rel => exact ⟨y + 1, _, by go_num, by omega, KD, O1, hnb, KA, KC, hB⟩
            case measure => first | (simp [intOf]; done) | (simp [intOf]; omega)
      · obtain rfl : y = h := by omega
        have kd0 := KD.c0
        have kd1 := KD.c1
        have kd2 := KD.c2
        have kdl := KD.lt
        have kc0 := KC.c0
        have kc1 := KC.c1
        have kc2 := KC.c2
        have kcf0 := KC.f0
        have kcf1 := KC.f1
        have kcf2 := KC.f2
        have kcl := KC.lt
        have HR1 := Lib.hid (SRow.own O1 (by have := Nat.mul_le_mul h6 (Nat.le_trans hd1.2 w24); omega))
        have HB := Lib.hid hB
        clear hB O1
        obtain ⟨ao9, cap9, rfl⟩ := SRow.slice HR1.out
        go_wp2
        refine bodyPost_ret (v := .tuple #[.agg #[.int .i64 (y : Int), .int .i64 (d : Int), .slice ao9 (y * d) cap9], .int .i64 0]) (by simp [results, Try.results20, go_sem, *]) rfl ⟨_, _, _, _, _, _, HA.out, rfl, ?_, ?_⟩
        · refine SRow.up (hi := wr.heap.size) (SRow.low (lo := W.heap.size + 2) ?_ (by omega))
          repeat (first | with_reducible exact HR1.out | with_reducible refine SRow.put (by first | omega | (dsimp only; omega)) _ ?_)
        · have hB := HB.out
          repeat (first | with_reducible exact Below.refl _ _ | with_reducible assumption | with_reducible refine Below.setCell ?_ (by first | omega | (dsimp only; omega) | (simp <;> omega)) _ | with_reducible refine Below.alloc ?_ (by first | omega | (simp <;> omega)) _ | with_reducible refine bstep ?_ (by with_reducible assumption) | with_reducible refine Below.drew ?_)
theorem specSh_any {lo hi n : Nat} {v : Value} {F : Nat → Int} {W : World} (a b : Int) (hv : SRow lo hi 1 v n F W) :
    Calls Try.prog 20 #[.agg #[.int .i64 a, .int .i64 b, v]] W (FAns (shA a b n F) W) := by
  rcases hf : friB a b n F with _ | _
  · exact specSh_no a b hv hf
  · obtain ⟨h, w, rfl, rfl, p⟩ := friB_of hf
    exact specSh_yes p hv
theorem implSh_any {lo hi n : Nat} {v : Value} {F : Nat → Int} {W : World} (a b : Int) (hv : SRow lo hi 1 v n F W) (hcap : CapOK v) :
    Calls Try.prog 19 #[.agg #[.int .i64 a, .int .i64 b, v]] W (FAns (shA a b n F) W) := by
  rcases hf : friB a b n F with _ | _
  · exact implSh_no a b hv hf
  · obtain ⟨h, w, rfl, rfl, p⟩ := friB_of hf
    exact implSh_yes p hv hcap
end Go.Proofs.Ytajmfeppnhkcdaa
