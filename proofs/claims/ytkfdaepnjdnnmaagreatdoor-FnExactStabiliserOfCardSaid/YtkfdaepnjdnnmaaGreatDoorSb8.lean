/-
  Contracts of chapter 7's groupWithCells, hasCell, and StabiliserOf (with fixing) in the program and in the model. Conditions: the list's length is below the model's bound, and the program's variable unitMatrix holds the unit.
-/
import Derived.Test.YtkfdaepnjdnnmaaGreatDoorFx7
import Derived.Test.YtkfdaepnjdnnmaaGreatDoorGm
import Derived.Test.YtkfdaepnjdnnmaaGreatDoorMg6
import Derived.Test.YtkfdaepnjdnnmaaGreatDoorGo
import Derived.Test.YtkfdaepnjdnnmaaGreatDoorGp
import Derived.Deep.RegionHeld3
import Derived.IntWalk
namespace Go.Proofs.YtkfdaepnjdnnmaaGreatDoor
open Go.RowKit
set_option linter.unusedSimpArgs false
set_option linter.unusedVariables false

def cel7 (A C p q : Int) : Bool := inB p 0 (wrap64 (A - 1)) && inB q 0 (wrap64 (C - 1))
theorem cel7_eq {A B C p q : Int} (hl : latI A B C) : cel7 A C p q = celB A C (p, q) := by
  obtain ⟨b1, b2⟩ := latI_bd hl
  have h1 := hl.1
  have h2 := hl.2.1
  have w1 : wrap64 (A - 1) = A - 1 := by unfold wrap64; omega
  have w2 : wrap64 (C - 1) = C - 1 := by unfold wrap64; omega
  rw [Bool.eq_iff_iff, celB_iff]
  simp [cel7, inB, w1, w2]
  omega
def sbB (f A B C : Int) (xs : List M6) (p q : Int) : Bool := cel7 A C p q && grpB f A B C xs
def gwB (f A B C : Int) (xs : List M6) (vs : List V2) : Bool := grpB f A B C xs && vs.all (celB A C)
theorem gw_one (f A B C : Int) (xs : List M6) (p q : Int) : gwB f A B C xs [(p, q)] = sbB f A B C xs p q := by
  unfold gwB sbB
  rcases hg : grpB f A B C xs with _ | _
  · simp
  · rw [cel7_eq (grp_good hg).1]; simp
def sbL (f A B C : Int) (xs : List M6) (p q : Int) : List M6 := bif sbB f A B C xs p q then xs.filter (fun m => decide (mv A B C m (p, q) = (p, q))) else []
theorem sb_parts {f A B C : Int} {xs : List M6} {p q : Int} (h : sbB f A B C xs p q = true) : grpB f A B C xs = true ∧ celB A C (p, q) = true := by
  unfold sbB at h
  rw [Bool.and_eq_true] at h
  exact ⟨h.2, by rw [← cel7_eq (grp_good h.2).1]; exact h.1⟩
theorem sbL_len (f A B C : Int) (xs : List M6) (p q : Int) : (sbL f A B C xs p q).length ≤ 768 := by
  unfold sbL
  rcases h : sbB f A B C xs p q with _ | _
  · simp
  · exact Nat.le_trans (List.length_filter_le _ _) (grp_len (sb_parts h).1)
theorem cod6_nz (f A B C : Int) : (cod6 f A B C false != 0) = true := by
  rcases hF : flB f A B C with _ | _ <;> simp [cod6, hF]
theorem cod6_ok {f A B C : Int} {xs : List M6} (h : grpB f A B C xs = true) : cod6 f A B C true = 0 := by simp [cod6, (grp_ok h).1]
theorem cod6_rng {f A B C : Int} {xs : List M6} (h : grpB f A B C xs = true) : cod6 f A B C false = 2 := by simp [cod6, (grp_ok h).1]
theorem cells2_at7 : ∀ (xs : List V2) (i : Nat) (h : i < xs.length), (cells2 xs)[i * 2]? = some (.int .i64 xs[i].1) ∧ (cells2 xs)[i * 2 + 1]? = some (.int .i64 xs[i].2)
  | [], i, h => absurd h (by simp)
  | t :: xs, 0, _ => by simp [cells2]
  | t :: xs, i + 1, h => by
    have hs := cells2_at7 xs i (by simpa using h)
    have e : cells2 (t :: xs) = [.int .i64 t.1, .int .i64 t.2] ++ cells2 xs := by simp [cells2]
    rw [e, List.getElem?_append_right (by simp; omega), List.getElem?_append_right (by simp; omega)]
    simp only [List.length_cons, List.length_nil, List.getElem_cons_succ]
    rw [show (i + 1) * 2 - (0 + 1 + 1) = i * 2 by omega, show (i + 1) * 2 + 1 - (0 + 1 + 1) = i * 2 + 1 by omega]
    exact hs
theorem IRow.v27 {g : Nat} {xs : List V2} {W : World} (h : IRow g (xs.length * 2) (intAt (cells2 xs)) W) (i : Nat) (hi : i < xs.length) : Ko2 g (i * 2) xs[i].1 xs[i].2 W := by
  have k := h.ko2 (i * 2) (by omega)
  obtain ⟨e0, e1⟩ := cells2_at7 xs i hi
  have z0 : intAt (cells2 xs) (i * 2) = xs[i].1 := by simp [intAt, e0]
  have z1 : intAt (cells2 xs) (i * 2 + 1) = xs[i].2 := by simp [intAt, e1]
  rwa [z0, z1] at k
theorem SRow.one2 {W : World} {g : Nat} {T : TypeId} {p q : Int} (hg : g = W.heap.size) : SRow g (g + 1) 2 (.slice (some ⟨g, 0, none⟩) ([(p, q)] : List V2).length 1) ([(p, q)] : List V2).length (intAt (cells2 [(p, q)])) (W.alloc (.cells #[.int .i64 p, .int .i64 q] T)) := by
  have h : KV g p q (W.alloc (.cells #[.int .i64 p, .int .i64 q] T)) := KV.at g hg
  refine ⟨by subst hg; simp, by simp, .inr ⟨g, 1, rfl, Nat.le_refl _, by omega, h.lt, fun t ht => ?_⟩⟩
  have ht' : t < 2 := by simpa using ht
  obtain rfl | rfl : t = 0 ∨ t = 1 := by omega
  · exact ⟨h.c0, h.f0⟩
  · exact ⟨h.c1, h.f1⟩
attribute [local go_sem ↓] eqVe7
set_option maxRecDepth 100000 in
set_option maxRecDepth 100000 in
set_option maxHeartbeats 8000000 in
theorem hasCell_any (A B C p q : Int) (w : World) :
    Calls Tryz.prog 94 #[.agg #[.int .i64 A, .int .i64 B, .int .i64 C], .agg #[.int .i64 p, .int .i64 q]] w fun e w' => e = .returned (.bool (celB A C (p, q))) ∧ Below w.heap.size w w' := by
  have L0 : Kt (w.heap.size) A B C ((w.alloc (.cells #[.int .i64 A, .int .i64 B, .int .i64 C] 33)).alloc (.cells #[.int .i64 p, .int .i64 q] 53)) := ((Kt.at (w.heap.size) rfl).alloc _)
  have V0 : Kg (w.heap.size + 1) p q ((w.alloc (.cells #[.int .i64 A, .int .i64 B, .int .i64 C] 33)).alloc (.cells #[.int .i64 p, .int .i64 q] 53)) := (Kg.at2 (w.heap.size + 1) (by simp))
  have B0 : Below w.heap.size w ((w.alloc (.cells #[.int .i64 A, .int .i64 B, .int .i64 C] 33)).alloc (.cells #[.int .i64 p, .int .i64 q] 53)) := (Below.alloc (Below.alloc (Below.refl _ _) (by first | with_reducible exact Nat.le_refl _ | (simp <;> omega)) _) (by first | with_reducible exact Nat.le_refl _ | (simp <;> omega)) _)
  go_enter Tryz.func94, Tryz.ntmps94
  have L0c := L0.cells
  have V0c := V0.cells
  go_wp2
  all_goals
    go_ret
    refine ⟨ret_bool ?_, by repeat (first | with_reducible assumption | with_reducible exact Below.refl _ _ | with_reducible refine Below.drew ?_ | with_reducible refine below_drewN ?_ _ | with_reducible refine Below.alloc ?_ (by first | omega | (simp <;> omega)) _ | with_reducible refine bstep ?_ (by with_reducible assumption))⟩
    rw [Bool.eq_iff_iff, celB_iff]
    dsimp only
    first
      | omega
      | (simp only [decide_eq_true_eq, Bool.false_eq_true, true_iff, false_iff, iff_true]; omega)
      | (simp; omega)

set_option maxRecDepth 100000 in
set_option maxRecDepth 100000 in
set_option maxHeartbeats 8000000 in
theorem l07Cell_any (A B C p q : Int) (w : World) :
    Calls Tryz.prog 52 #[.agg #[.int .i64 A, .int .i64 B, .int .i64 C], .agg #[.int .i64 p, .int .i64 q]] w fun e w' => e = .returned (.bool (cel7 A C p q)) ∧ Below w.heap.size w w' := by
  have CA := Lib.hid (fun W => l01In_any p 0 (wrap64 (A - 1)) W)
  have CC := Lib.hid (fun W => l01In_any q 0 (wrap64 (C - 1)) W)
  have HV : Hid (cel7 A C p q = (inB p 0 (wrap64 (A - 1)) && inB q 0 (wrap64 (C - 1)))) := Lib.hid rfl
  generalize cel7 A C p q = r at HV ⊢
  rcases hx : inB p 0 (wrap64 (A - 1)) with _ | _
  · simp only [hx] at CA
    have EA : Hid (r = false) := Lib.hid (by rw [HV.out, hx]; rfl)
    clear HV CC hx
    have L0 : Kt (w.heap.size) A B C ((w.alloc (.cells #[.int .i64 A, .int .i64 B, .int .i64 C] 33)).alloc (.cells #[.int .i64 p, .int .i64 q] 53)) := ((Kt.at (w.heap.size) rfl).alloc _)
    have V0 : Kg (w.heap.size + 1) p q ((w.alloc (.cells #[.int .i64 A, .int .i64 B, .int .i64 C] 33)).alloc (.cells #[.int .i64 p, .int .i64 q] 53)) := (Kg.at2 (w.heap.size + 1) (by simp))
    have B0 : Below w.heap.size w ((w.alloc (.cells #[.int .i64 A, .int .i64 B, .int .i64 C] 33)).alloc (.cells #[.int .i64 p, .int .i64 q] 53)) := (Below.alloc (Below.alloc (Below.refl _ _) (by first | with_reducible exact Nat.le_refl _ | (simp <;> omega)) _) (by first | with_reducible exact Nat.le_refl _ | (simp <;> omega)) _)
    go_enter Tryz.func52, Tryz.ntmps52
    have L0c := L0.cells
    have V0c := V0.cells
    go_wp2_with (go_at_call 93; with_reducible refine (CA.out _).mono ?_; rintro e w' ⟨rfl, rfl⟩)
    all_goals
      go_ret
      exact ⟨ret_bool EA.out.symm, by repeat (first | with_reducible assumption | with_reducible exact Below.refl _ _ | with_reducible refine Below.drew ?_ | with_reducible refine below_drewN ?_ _ | with_reducible refine Below.alloc ?_ (by first | omega | (simp <;> omega)) _ | with_reducible refine bstep ?_ (by with_reducible assumption))⟩
  rcases hy : inB q 0 (wrap64 (C - 1)) with _ | _
  all_goals
    simp only [hx] at CA
    simp only [hy] at CC
    have EA := Lib.hid (show r = _ from by rw [HV.out, hx, hy])
    clear HV hx hy
    have L0 : Kt (w.heap.size) A B C ((w.alloc (.cells #[.int .i64 A, .int .i64 B, .int .i64 C] 33)).alloc (.cells #[.int .i64 p, .int .i64 q] 53)) := ((Kt.at (w.heap.size) rfl).alloc _)
    have V0 : Kg (w.heap.size + 1) p q ((w.alloc (.cells #[.int .i64 A, .int .i64 B, .int .i64 C] 33)).alloc (.cells #[.int .i64 p, .int .i64 q] 53)) := (Kg.at2 (w.heap.size + 1) (by simp))
    have B0 : Below w.heap.size w ((w.alloc (.cells #[.int .i64 A, .int .i64 B, .int .i64 C] 33)).alloc (.cells #[.int .i64 p, .int .i64 q] 53)) := (Below.alloc (Below.alloc (Below.refl _ _) (by first | with_reducible exact Nat.le_refl _ | (simp <;> omega)) _) (by first | with_reducible exact Nat.le_refl _ | (simp <;> omega)) _)
    go_enter Tryz.func52, Tryz.ntmps52
    have L0c := L0.cells
    have V0c := V0.cells
    go_wp2_with (first | (go_at_call 93; with_reducible refine (CA.out _).mono ?_; rintro e w' ⟨rfl, rfl⟩) | (go_at_call 93; with_reducible refine (CC.out _).mono ?_; rintro e w' ⟨rfl, rfl⟩))
    all_goals
      go_ret
      exact ⟨ret_bool EA.out.symm, by repeat (first | with_reducible assumption | with_reducible exact Below.refl _ _ | with_reducible refine Below.drew ?_ | with_reducible refine below_drewN ?_ _ | with_reducible refine Below.alloc ?_ (by first | omega | (simp <;> omega)) _ | with_reducible refine bstep ?_ (by with_reducible assumption))⟩

set_option maxRecDepth 100000 in
set_option maxRecDepth 100000 in
set_option maxHeartbeats 8000000 in
theorem l07Code_any {lo hi : Nat} {v : Value} {xs : List M6} {w : World} (f A B C : Int) (b : Bool) (h : SRow lo hi 6 v xs.length (fm xs) w) (hn : xs.length ≤ 1048576) :
    Calls Tryz.prog 45 #[.int .i64 f, .agg #[.int .i64 A, .int .i64 B, .int .i64 C], v, .bool b] w fun e w' => e = .returned (.int .i64 (cod6 f A B C (b && grpB f A B C xs))) ∧ Below w.heap.size w w' := by
  have HA := Lib.hid h
  have HN := Lib.hid hn
  have L0 : Kt w.heap.size A B C (w.alloc (.cells #[.int .i64 A, .int .i64 B, .int .i64 C] 33)) := Kt.at _ rfl
  have B0 : Below w.heap.size w (w.alloc (.cells #[.int .i64 A, .int .i64 B, .int .i64 C] 33)) := (Below.refl _ _).alloc (Nat.le_refl _) _
  have L0c := L0.cells
  have CG : Hid (∀ W, Below w.heap.size w W → Calls Tryz.prog 85 #[.int .i64 f, .agg #[.int .i64 A, .int .i64 B, .int .i64 C], v] W fun e w' => e = .returned (.bool (grpB f A B C xs)) ∧ Below W.heap.size W w') := Lib.hid (fun W hW => specIsGroup_any f A B C (HA.out.grow hW HA.out.1) HN.out)
  have CC := Lib.hid (fun W => l06Code_any f A B C (b && grpB f A B C xs) W)
  obtain ⟨ao, cap, rfl⟩ := srow_shape h
  clear h hn
  rcases b with _ | _
  · simp only [Bool.false_and] at CC ⊢
    generalize cod6 f A B C false = cc at CC ⊢
    clear CG
    go_enter Tryz.func45, Tryz.ntmps45
    go_wp2_with fail
    refine wp_region_held_drew (S := (fun W => (W.cell? ⟨w.heap.size, 0, none⟩ = some (.int .i64 A) ∧ W.cell? ⟨w.heap.size, 1, none⟩ = some (.int .i64 B) ∧ W.cell? ⟨w.heap.size, 2, none⟩ = some (.int .i64 C)))) (by kernel_rfl) ?_ (fun hHeld => ?_)
    · exact L0.cells
    refine wpAnyH_take (i := 0) (v := ?_) (by (simp only [List.getElem?_toArray, List.getElem?_cons_succ, List.getElem?_cons_zero]); rfl) (by kernel_rfl) (by kernel_rfl) (by kernel_rfl) (by exact fun _ _ _ h => h) (Or.inl ⟨by rfl, ?_⟩) (by assumption) ?_
    rotate_left 1
    · (intro w hSw; (try dsimp only at hSw); go_simp) <;> with_reducible rfl
    (try simp only [Act.put, List.setIfInBounds_toArray, List.set_cons_zero, List.set_cons_succ])
    refine wpAnyH_take (i := 1) (v := ?_) (by (simp only [List.getElem?_toArray, List.getElem?_cons_succ, List.getElem?_cons_zero]); rfl) (by kernel_rfl) (by kernel_rfl) (by kernel_rfl) (by exact fun _ _ _ h => h) (Or.inl ⟨by rfl, ?_⟩) (by assumption) ?_
    rotate_left 1
    · (intro w hSw; (try dsimp only at hSw); go_simp) <;> with_reducible rfl
    (try simp only [Act.put, List.setIfInBounds_toArray, List.set_cons_zero, List.set_cons_succ])
    refine wpAnyH_take (i := 2) (v := ?_) (by (simp only [List.getElem?_toArray, List.getElem?_cons_succ, List.getElem?_cons_zero]); rfl) (by kernel_rfl) (by kernel_rfl) (by kernel_rfl) (by exact fun _ _ _ h => h) (Or.inl ⟨by rfl, ?_⟩) (by assumption) ?_
    rotate_left 1
    · (intro w hSw; (try dsimp only at hSw); go_simp) <;> with_reducible rfl
    (try simp only [Act.put, List.setIfInBounds_toArray, List.set_cons_zero, List.set_cons_succ])
    refine wpAnyH_take (i := 3) (v := ?_) (by (simp only [List.getElem?_toArray, List.getElem?_cons_succ, List.getElem?_cons_zero]); rfl) (by kernel_rfl) (by kernel_rfl) (by kernel_rfl) (by exact fun _ _ _ h => h) (Or.inl ⟨by rfl, ?_⟩) (by assumption) ?_
    rotate_left 1
    · (intro w hSw; (try dsimp only at hSw); go_simp) <;> with_reducible rfl
    (try simp only [Act.put, List.setIfInBounds_toArray, List.set_cons_zero, List.set_cons_succ])
    refine wpAnyH_take (i := 4) (v := undef) (by (simp only [List.getElem?_toArray, List.getElem?_cons_succ, List.getElem?_cons_zero]); rfl) (by kernel_rfl) (by kernel_rfl) (by kernel_rfl) (by exact fun _ _ _ h => h) (Or.inr ⟨by rfl, rfl⟩) (by assumption) ?_
    (try simp only [Act.put, List.setIfInBounds_toArray, List.set_cons_zero, List.set_cons_succ])
    refine wpAnyH_take (i := 5) (v := undef) (by (simp only [List.getElem?_toArray, List.getElem?_cons_succ, List.getElem?_cons_zero]); rfl) (by kernel_rfl) (by kernel_rfl) (by kernel_rfl) (by exact fun _ _ _ h => h) (Or.inr ⟨by rfl, rfl⟩) (by assumption) ?_
    (try simp only [Act.put, List.setIfInBounds_toArray, List.set_cons_zero, List.set_cons_succ])
    refine wpAnyH_take (i := 6) (v := undef) (by (simp only [List.getElem?_toArray, List.getElem?_cons_succ, List.getElem?_cons_zero]); rfl) (by kernel_rfl) (by kernel_rfl) (by kernel_rfl) (by exact fun _ _ _ h => h) (Or.inr ⟨by rfl, rfl⟩) (by assumption) ?_
    (try simp only [Act.put, List.setIfInBounds_toArray, List.set_cons_zero, List.set_cons_succ])
    refine wpAnyH_take (i := 7) (v := undef) (by (simp only [List.getElem?_toArray, List.getElem?_cons_succ, List.getElem?_cons_zero]); rfl) (by kernel_rfl) (by kernel_rfl) (by kernel_rfl) (by exact fun _ _ _ h => h) (Or.inr ⟨by rfl, rfl⟩) (by assumption) ?_
    (try simp only [Act.put, List.setIfInBounds_toArray, List.set_cons_zero, List.set_cons_succ])
    refine wpAnyH_take (i := 8) (v := ?_) (by (simp only [List.getElem?_toArray, List.getElem?_cons_succ, List.getElem?_cons_zero]); rfl) (by kernel_rfl) (by kernel_rfl) (by kernel_rfl) (by exact fun _ _ _ h => h) (Or.inl ⟨by rfl, ?_⟩) (by assumption) ?_
    rotate_left 1
    · (intro w hSw; (try dsimp only at hSw); go_simp) <;> with_reducible rfl
    (try simp only [Act.put, List.setIfInBounds_toArray, List.set_cons_zero, List.set_cons_succ])
    refine wpAnyH_ready (rs := [9]) (by kernel_rfl) (by simp) ?_
    refine AllReadyH.cons (o := _) (by (simp only [List.getElem?_toArray, List.getElem?_cons_succ, List.getElem?_cons_zero]); rfl) (fun K hK => ?_) AllReadyH.nil
    go_simp
    go_at_call 84
    refine (CC.out _).mono ?_
    rintro e u1 ⟨rfl, hb1⟩
    have L1 : Kt (w.heap.size) A B C u1 := (by repeat (first | with_reducible assumption | with_reducible refine Kt.drew ?_ | with_reducible refine Kt.alloc ?_ _ | with_reducible refine Kt.call ?_ (by with_reducible assumption)))
    have B1 : Below w.heap.size w u1 := (by repeat (first | with_reducible assumption | with_reducible refine Below.drew ?_ | with_reducible refine bstep ?_ (by with_reducible assumption)))
    clear hb1
    go_wp2_with fail
    refine hK.out _ _ ?_ (fun hHeld => ?_)
    · (try dsimp only)
      exact L1.cells
    clear hK K
    (try simp only [Act.put, List.setIfInBounds_toArray, List.set_cons_zero, List.set_cons_succ])
    refine wpAnyH_take (i := 10) (v := ?_) (by (simp only [List.getElem?_toArray, List.getElem?_cons_succ, List.getElem?_cons_zero]); rfl) (by kernel_rfl) (by kernel_rfl) (by kernel_rfl) (by exact fun _ _ _ h => h) (Or.inl ⟨by rfl, ?_⟩) (by assumption) ?_
    rotate_left 1
    · (intro w hSw; (try dsimp only at hSw); go_simp) <;> with_reducible rfl
    (try simp only [Act.put, List.setIfInBounds_toArray, List.set_cons_zero, List.set_cons_succ])
    refine wpAnyH_done (by kernel_rfl) ?_ _
    go_wp2
    go_ret
    exact ⟨rfl, by repeat (first | with_reducible assumption | with_reducible exact Below.refl _ _ | with_reducible refine Below.drew ?_ | with_reducible refine below_drewN ?_ _ | with_reducible refine Below.alloc ?_ (by first | omega | (simp <;> omega)) _ | with_reducible refine bstep ?_ (by with_reducible assumption))⟩
  · simp only [Bool.true_and] at CC ⊢
    generalize grpB f A B C xs = r at CG CC ⊢
    generalize cod6 f A B C r = cc at CC ⊢
    go_enter Tryz.func45, Tryz.ntmps45
    go_wp2_with fail
    go_region_held3 (fun W => (W.cell? ⟨w.heap.size, 0, none⟩ = some (.int .i64 A) ∧ W.cell? ⟨w.heap.size, 1, none⟩ = some (.int .i64 B) ∧ W.cell? ⟨w.heap.size, 2, none⟩ = some (.int .i64 C))) ((refine Kt.cells ?_) <;> repeat (first | with_reducible assumption | with_reducible refine Kt.drew ?_ | with_reducible refine Kt.alloc ?_ _ | with_reducible refine Kt.call ?_ (by with_reducible assumption)))
      (first
        | (go_at_call 85; with_reducible refine (CG.out _ (by repeat (first | with_reducible assumption | with_reducible exact Below.refl _ _ | with_reducible refine Below.alloc ?_ (by first | omega | (simp <;> omega)) _ | with_reducible refine bstep ?_ (by with_reducible assumption) | with_reducible refine Below.drew ?_))).mono ?_; rintro e u1 ⟨rfl, hb1⟩; have L1 : Kt w.heap.size A B C u1 := (by repeat (first | with_reducible assumption | with_reducible refine Kt.drew ?_ | with_reducible refine Kt.alloc ?_ _ | with_reducible refine Kt.call ?_ (by with_reducible assumption))); have B1 : Below w.heap.size w u1 := (by repeat (first | with_reducible assumption | with_reducible exact Below.refl _ _ | with_reducible refine Below.alloc ?_ (by first | omega | (simp <;> omega)) _ | with_reducible refine bstep ?_ (by with_reducible assumption) | with_reducible refine Below.drew ?_)))
        | (go_at_call 84; with_reducible refine (CC.out _).mono ?_; rintro e u2 ⟨rfl, hb2⟩; have L2 : Kt w.heap.size A B C u2 := (by repeat (first | with_reducible assumption | with_reducible refine Kt.drew ?_ | with_reducible refine Kt.alloc ?_ _ | with_reducible refine Kt.call ?_ (by with_reducible assumption))); have B2 : Below w.heap.size w u2 := (by repeat (first | with_reducible assumption | with_reducible exact Below.refl _ _ | with_reducible refine Below.alloc ?_ (by first | omega | (simp <;> omega)) _ | with_reducible refine bstep ?_ (by with_reducible assumption) | with_reducible refine Below.drew ?_))))
    all_goals
      go_wp2
      go_ret
      exact ⟨rfl, by repeat (first | with_reducible assumption | with_reducible exact Below.refl _ _ | with_reducible refine Below.drew ?_ | with_reducible refine below_drewN ?_ _ | with_reducible refine Below.alloc ?_ (by first | omega | (simp <;> omega)) _ | with_reducible refine bstep ?_ (by with_reducible assumption))⟩

def GwPost (f A B C : Int) (xs : List M6) (r : Bool) (w : World) (e : Ending) (w' : World) : Prop :=
  ∃ v : Value, e = .returned (.tuple #[v, .int .i64 (cod6 f A B C r)]) ∧ (r = true → w'.ownsRow w.heap.size 82 6 v xs.length (cells6 xs)) ∧ (r = false → v = .slice none 0 0) ∧ Below w.heap.size w w'
set_option maxRecDepth 100000 in
set_option maxHeartbeats 8000000 in
theorem groupWithCells_any {lo hi lo' hi' : Nat} {v u : Value} {xs : List M6} {vs : List V2} {w : World} (f A B C : Int) (h : SRow lo hi 6 v xs.length (fm xs) w) (hn : xs.length ≤ 1048576) (hu : SRow lo' hi' 2 u vs.length (intAt (cells2 vs)) w) (hvn : vs.length ≤ 1000) (hU : UnitOK w) :
    Calls Tryz.prog 54 #[.int .i64 f, .agg #[.int .i64 A, .int .i64 B, .int .i64 C], v, u] w (GwPost f A B C xs (gwB f A B C xs vs) w) := by
  have HV := Lib.hid hu
  have L0 : Kt w.heap.size A B C (w.alloc (.cells #[.int .i64 A, .int .i64 B, .int .i64 C] 33)) := Kt.at _ rfl
  have B0 : Below w.heap.size w (w.alloc (.cells #[.int .i64 A, .int .i64 B, .int .i64 C] 33)) := (Below.refl _ _).alloc (Nat.le_refl _) _
  have A0 : SRow lo hi 6 v xs.length (fm xs) (w.alloc (.cells #[.int .i64 A, .int .i64 B, .int .i64 C] 33)) := h.grow ((Below.refl w.heap.size w).alloc (Nat.le_refl _) _) h.1
  have U0 : UnitOK (w.alloc (.cells #[.int .i64 A, .int .i64 B, .int .i64 C] 33)) := Kq.alloc hU _
  have L0c := L0.cells
  have CG := Lib.hid (groupOf_any f A B C A0 hn U0)
  obtain ⟨ao, cap, rfl⟩ := srow_shape hu
  have hv2 : (vs.length : Int) ≤ 1000 := by omega
  clear h hn hU A0 U0 hu hvn
  rcases cod6_cases f A B C xs with ⟨hg, hc⟩ | ⟨hg, hc⟩
  case inr =>
    have HG := Lib.hid hg
    have HR := Lib.hid (show gwB f A B C xs vs = false by simp [gwB, hg])
    rw [hg] at hc
    have HC : Hid (cod6 f A B C (grpB f A B C xs) = cod6 f A B C false) := Lib.hid (by rw [hg])
    clear hg
    rw [HR.out]
    go_enter Tryz.func54, Tryz.ntmps54
    go_wp2_with fail
    refine CG.out.mono ?_
    rintro e w1 ⟨v1, rfl, _, hv, hb1⟩
    rw [HC.out]
    have hv1 := hv HG.out
    subst hv1
    have B1 := bstep B0 hb1
    obtain ⟨cc, hcc⟩ : ∃ cc, cc = cod6 f A B C false := ⟨_, rfl⟩
    rw [← hcc] at hc ⊢
    have HCC := Lib.hid hcc.symm
    clear hv hb1 B0 L0 L0c CG HC HR hcc
    go_wp2
    go_ret2
    exact ⟨_, by rw [HCC.out]; rfl, fun h => (nomatch h), fun _ => rfl, B1⟩
  have HG := Lib.hid hg
  have HC := Lib.hid hc
  clear hg hc
  go_enter Tryz.func54, Tryz.ntmps54
  go_wp2_with fail
  refine CG.out.mono ?_
  rintro e w1 ⟨v1, rfl, hr, _, hb1⟩
  rw [HC.out]
  have O1 := Lib.hid (hr HG.out)
  have B1 := bstep B0 hb1
  have L1 := L0.call hb1
  have S1 := Lib.hid (HV.out.grow B1 HV.out.1)
  have z01 : w.heap.size < w1.heap.size := L1.1
  clear hr hb1 B0 L0 L0c CG
  go_wp2_with fail
  go_loopw [26] (fun s26 W => ∃ k : Nat, s26 = .int .i64 (k : Int) ∧ k ≤ vs.length ∧ (∀ i (h : i < vs.length), i < k → celB A C vs[i] = true) ∧ Below w1.heap.size w1 W) (fun s26 _ => vs.length - (intOf s26).toNat)
  case atStart => exact ⟨0, rfl, by omega, fun i _ h => by omega, Below.refl _ _⟩
  case round =>
    obtain ⟨k, rfl, hk, hP, hB⟩ := hrel
    by_cases hk1 : k < vs.length
    · have hk2 : (k : Int) < (vs.length : Int) := by omega
      have hk3 : (k : Int) ≤ 1000 := by omega
      have hres := S1.out.2.2.resolve_left (fun h => by omega)
      have hhi := S1.out.1
      obtain ⟨g, cap', e9, _, hg, RA⟩ := hres
      simp only [Value.slice.injEq, true_and] at e9
      obtain ⟨rfl, rfl⟩ := e9
      have q1 := (RA.grow hB (by omega)).v27 k hk1
      have HK := Lib.hid hk1
      have HPP := Lib.hid hP
      have HT : Hid (celB A C vs[k] = true → ∀ i (h : i < vs.length), i < k + 1 → celB A C vs[i] = true) := Lib.hid (fun h i hi hik => by
        by_cases e : i = k
        · subst e; exact h
        · exact hP i hi (by omega))
      have HF : Hid (celB A C vs[k] = false → gwB f A B C xs vs = false) := Lib.hid (fun h => by
        unfold gwB
        rw [Bool.and_eq_false_iff]
        right
        exact List.all_eq_false.2 ⟨vs[k], List.getElem_mem hk1, by rw [h]; decide⟩)
      clear RA hg hhi hk hP
      generalize vs[k] = m at q1 HT HF
      clear hk1
      obtain ⟨p, q⟩ := m
      dsimp only at q1
      have q1c := q1.cells
      have L3 := L1.grow hB z01
      have L3c := (L3.alloc (.cells #[.int .i64 p, .int .i64 q] 53)).cells
      have V3 : Kg wr.heap.size p q (wr.alloc (.cells #[.int .i64 p, .int .i64 q] 53)) := Kg.at2 _ rfl
      have V3c := V3.cells
      have zB := hB.size
      have B3 : Below w1.heap.size w1 (wr.alloc (.cells #[.int .i64 p, .int .i64 q] 53)) := hB.alloc zB _
      have CH := Lib.hid (fun W => hasCell_any A B C p q W)
      rcases hc : celB A C (p, q) with _ | _
      · rw [hc] at CH
        have HR := Lib.hid (HF.out hc)
        have HC2 := Lib.hid (cod6_rng HG.out)
        clear hc HF HT
        rw [HR.out]
        go_wp2_with fail
        refine (CH.out _).mono ?_
        rintro e w3 ⟨rfl, hb3⟩
        have B4 := B1.trans ((bstep B3 hb3).mono (Nat.le_of_lt z01))
        clear hb3 hB B3 q1 q1c L3 L3c V3 V3c zB CH
        go_wp2
        go_ret2
        exact ⟨_, by (first | rw [HR.out, HC2.out] | rw [HC2.out]); rfl, fun h => (by first | (rw [HR.out] at h; cases h) | cases h), fun _ => rfl, B4⟩
      · rw [hc] at CH
        have HQ := Lib.hid (HT.out hc)
        clear hc HF HT
        go_wp2_with fail
        refine (CH.out _).mono ?_
        rintro e w3 ⟨rfl, hb3⟩
        have B4 := bstep B3 hb3
        clear hb3 hB B3 q1 q1c L3 L3c V3 V3c zB CH
        go_wp2
        go_roundw
        case rel => exact ⟨k + 1, by go_num, by have := HK.out; omega, HQ.out, B4⟩
        case measure => (have := HK.out); first | (simp [intOf]; done) | (simp [intOf]; omega)
    · obtain rfl : k = vs.length := by omega
      have HR := Lib.hid (show gwB f A B C xs vs = true by
        unfold gwB
        rw [HG.out, Bool.true_and, List.all_eq_true]
        intro m hm
        obtain ⟨i, hi, rfl⟩ := List.getElem_of_mem hm
        exact hP i hi hi)
      have HC2 := Lib.hid (cod6_ok HG.out)
      have O9 := Lib.hid (ownsRow_lower (ownsRow_grow O1.out hB (Nat.le_refl _)) (show w.heap.size ≤ (w.alloc (.cells #[.int .i64 A, .int .i64 B, .int .i64 C] 33)).heap.size by simp))
      have B9 := B1.trans (hB.mono (Nat.le_of_lt z01))
      clear hk hk1 hP hB
      rw [HR.out]
      go_wp2
      go_ret2
      exact ⟨_, by (first | rw [HR.out, HC2.out] | rw [HC2.out]); rfl, fun _ => O9.out, fun h => (by first | (rw [HR.out] at h; cases h) | cases h), B9⟩

set_option maxRecDepth 100000 in
set_option maxHeartbeats 8000000 in
theorem implStab_any {lo hi : Nat} {v : Value} {xs : List M6} {w : World} (f A B C p q : Int) (h : SRow lo hi 6 v xs.length (fm xs) w) (hn : xs.length ≤ 1048576) (hU : UnitOK w) :
    Calls Tryz.prog 25 #[.int .i64 f, .agg #[.int .i64 A, .int .i64 B, .int .i64 C], v, .agg #[.int .i64 p, .int .i64 q]] w (LAns 6 (sbL f A B C xs p q).length (fm (sbL f A B C xs p q)) (cod6 f A B C (sbB f A B C xs p q)) w) := by
  have L0 : Kt w.heap.size A B C ((w.alloc (.cells #[.int .i64 A, .int .i64 B, .int .i64 C] 33)).alloc (.cells #[.int .i64 p, .int .i64 q] 53)) := Kt.alloc (Kt.at _ rfl) _
  have V0 : Kg (w.heap.size + 1) p q ((w.alloc (.cells #[.int .i64 A, .int .i64 B, .int .i64 C] 33)).alloc (.cells #[.int .i64 p, .int .i64 q] 53)) := Kg.at2 _ (by simp)
  have B0 : Below w.heap.size w (((w.alloc (.cells #[.int .i64 A, .int .i64 B, .int .i64 C] 33)).alloc (.cells #[.int .i64 p, .int .i64 q] 53)).alloc (.cells #[.int .i64 p, .int .i64 q] 53)) := ((((Below.refl _ _).alloc (Nat.le_refl _) _).alloc (by simp) _).alloc (by simp; omega) _)
  have A0 : SRow lo hi 6 v xs.length (fm xs) (((w.alloc (.cells #[.int .i64 A, .int .i64 B, .int .i64 C] 33)).alloc (.cells #[.int .i64 p, .int .i64 q] 53)).alloc (.cells #[.int .i64 p, .int .i64 q] 53)) := h.grow B0 h.1
  have U0 : UnitOK (((w.alloc (.cells #[.int .i64 A, .int .i64 B, .int .i64 C] 33)).alloc (.cells #[.int .i64 p, .int .i64 q] 53)).alloc (.cells #[.int .i64 p, .int .i64 q] 53)) := Kq.call hU B0
  have X0 : SRow (w.heap.size + 1 + 1) (w.heap.size + 1 + 1 + 1) 2 (.slice (some ⟨w.heap.size + 1 + 1, 0, none⟩) 1 1) ([(p, q)] : List V2).length (intAt (cells2 [(p, q)])) (((w.alloc (.cells #[.int .i64 A, .int .i64 B, .int .i64 C] 33)).alloc (.cells #[.int .i64 p, .int .i64 q] 53)).alloc (.cells #[.int .i64 p, .int .i64 q] 53)) := SRow.one2 (by simp)
  have L0c := L0.cells
  have V0c := V0.cells
  have CG0 := groupWithCells_any f A B C A0 hn X0 (by simp) U0
  rw [gw_one] at CG0
  have CG := Lib.hid CG0
  have L1' := Lib.hid (L0.alloc (.cells #[.int .i64 p, .int .i64 q] 53))
  have V1' := Lib.hid (V0.alloc (.cells #[.int .i64 p, .int .i64 q] 53))
  have HN := Lib.hid hn
  clear h hn hU A0 U0 X0 CG0
  rcases hg : sbB f A B C xs p q with _ | _
  · have HG := Lib.hid hg
    have HZ := Lib.hid (show (sbL f A B C xs p q).length = 0 by simp [sbL, hg])
    have hc := cod6_nz f A B C
    rw [hg] at CG
    clear hg
    go_enter Tryz.func25, Tryz.ntmps25
    go_wp2_with fail
    refine CG.out.mono ?_
    rintro e w1 ⟨v1, rfl, _, hv, hb1⟩
    have hv1 := hv rfl
    subst hv1
    have B1 := bstep B0 hb1
    obtain ⟨cc, hcc⟩ : ∃ cc, cc = cod6 f A B C false := ⟨_, rfl⟩
    rw [← hcc] at hc ⊢
    have HCC := Lib.hid hcc
    clear hv hb1 B0 L0 L0c V0 V0c CG L1' V1' hcc
    go_wp2
    go_ret2
    exact LAns.bad HZ.out (by first | exact HCC.out | (rw [HG.out]; exact HCC.out)) B1
  obtain ⟨hgr, hcl⟩ := sb_parts hg
  have HG := Lib.hid hgr
  have HCL := Lib.hid hcl
  have HC := Lib.hid (cod6_ok hgr)
  have HL := Lib.hid (show sbL f A B C xs p q = xs.filter (fun m => decide (mv A B C m (p, q) = (p, q))) by simp [sbL, hg])
  have HLEN := Lib.hid (sbL_len f A B C xs p q)
  rw [hg] at CG
  clear hg hgr hcl
  rw [HC.out]
  go_enter Tryz.func25, Tryz.ntmps25
  go_wp2_with fail
  refine CG.out.mono ?_
  rintro e w1 ⟨v1, rfl, hr, _, hb1⟩
  rw [HC.out]
  have O1 := hr rfl
  have B1 := bstep B0 hb1
  have L1 := L1'.out.call hb1
  have V1 := V1'.out.call hb1
  obtain ⟨g1, cap1, rfl, hb1g, hcl1, hcm1⟩ := own_block O1 (grp_pos HG.out)
  obtain ⟨g1', c1', e1, _, _, r1⟩ := (SRow.big6 O1 HN.out).2.2.resolve_left (fun h => by have := grp_pos HG.out; omega)
  simp only [Value.slice.injEq, Option.some.injEq, Addr.mk.injEq, and_true, true_and] at e1
  obtain ⟨rfl, e1⟩ := e1
  clear e1
  have hb2g : w.heap.size + 1 + 1 + 1 ≤ g1 := by simpa using hb1g
  have HB := Lib.hid (show w.heap.size ≤ g1 by omega)
  have CD := Lib.hid (fixing_any (cap := cap1) (grp_ok HG.out).2.1 HCL.out r1 (grp_len HG.out) hcl1 hcm1)
  have L1c := L1.cells
  have V1c := V1.cells
  clear hr hb1 B0 L0 L0c V0 V0c CG L1' V1' O1 hb1g hb2g hcl1 hcm1 r1
  go_wp2_with fail
  refine CD.out.mono ?_
  rintro e w5 ⟨cap5, rfl, r5, hb5⟩
  clear L1 V1 L1c V1c
  have B5 := B1.trans (hb5.mono HB.out)
  have S5 : SRow g1 w5.heap.size 6 (.slice (some ⟨g1, 0, none⟩) (sbL f A B C xs p q).length cap5) (sbL f A B C xs p q).length (fm (sbL f A B C xs p q)) w5 := by
    rw [HL.out]
    exact ⟨Nat.le_refl _, by have := HLEN.out; rw [HL.out] at this; omega, .inr ⟨g1, cap5, rfl, Nat.le_refl _, r5.1, r5⟩⟩
  rw [← HL.out]
  clear r5 hb5 CD B1
  go_wp2_with fail
  refine (asMotions_any S5 (by have := HLEN.out; omega)).mono ?_
  rintro e w6 ⟨v6, rfl, hr6, hb6⟩
  have z5 := B5.size
  have B6 := bstep B5 hb6
  have S6 : SRow w.heap.size w6.heap.size 6 v6 (sbL f A B C xs p q).length (fm (sbL f A B C xs p q)) w6 := SRow.big6 (ownsRow_lower hr6 z5) (by have := HLEN.out; omega)
  clear S5 hr6 hb6 B5 z5
  go_wp2
  go_ret2
  exact ⟨_, ret_pair (by rfl) rfl, S6, B6⟩

set_option maxRecDepth 100000 in
set_option maxHeartbeats 16000000 in
theorem specStab_any {lo hi : Nat} {v : Value} {xs : List M6} {w : World} (f A B C p q : Int) (h : SRow lo hi 6 v xs.length (fm xs) w) (hn : xs.length ≤ 1048576) :
    Calls Tryz.prog 23 #[.int .i64 f, .agg #[.int .i64 A, .int .i64 B, .int .i64 C], v, .agg #[.int .i64 p, .int .i64 q]] w (LAns 6 (sbL f A B C xs p q).length (fm (sbL f A B C xs p q)) (cod6 f A B C (sbB f A B C xs p q)) w) := by
  obtain ⟨i0, hinf, hz0, hz1, hz2⟩ := info_parts infoMo6
  have HN := Lib.hid hn
  have HA := Lib.hid h
  have L0 : Kt w.heap.size A B C ((w.alloc (.cells #[.int .i64 A, .int .i64 B, .int .i64 C] 33)).alloc (.cells #[.int .i64 p, .int .i64 q] 53)) := Kt.alloc (Kt.at _ rfl) _
  have V0 : Kg (w.heap.size + 1) p q ((w.alloc (.cells #[.int .i64 A, .int .i64 B, .int .i64 C] 33)).alloc (.cells #[.int .i64 p, .int .i64 q] 53)) := Kg.at2 _ (by simp)
  have B0 : Below w.heap.size w ((w.alloc (.cells #[.int .i64 A, .int .i64 B, .int .i64 C] 33)).alloc (.cells #[.int .i64 p, .int .i64 q] 53)) := (((Below.refl _ _).alloc (Nat.le_refl _) _).alloc (by simp) _)
  have L0c := L0.cells
  have V0c := V0.cells
  have C1 := Lib.hid (fun W => l07Cell_any A B C p q W)
  have CC : Hid (∀ W, Below w.heap.size w W → Calls Tryz.prog 45 #[.int .i64 f, .agg #[.int .i64 A, .int .i64 B, .int .i64 C], v, .bool (cel7 A C p q)] W fun e w' => e = .returned (.int .i64 (cod6 f A B C (sbB f A B C xs p q))) ∧ Below W.heap.size W w') := Lib.hid (fun W hW => l07Code_any f A B C (cel7 A C p q) (HA.out.grow hW HA.out.1) HN.out)
  obtain ⟨ao, cap, rfl⟩ := srow_shape h
  clear h hn
  have HCO : Hid ((sbB f A B C xs p q = true ∧ cod6 f A B C (sbB f A B C xs p q) = 0) ∨ (sbB f A B C xs p q = false ∧ (cod6 f A B C (sbB f A B C xs p q) != 0) = true)) := Lib.hid (by
    rcases hb : sbB f A B C xs p q with _ | _
    · exact .inr ⟨rfl, cod6_nz f A B C⟩
    · exact .inl ⟨rfl, cod6_ok (sb_parts hb).1⟩)
  rcases HCO.out with ⟨hg, hc⟩ | ⟨hg, hc⟩
  case inr =>
    have HZ := Lib.hid (show (sbL f A B C xs p q).length = 0 by simp [sbL, hg])
    clear hg HCO
    generalize cod6 f A B C (sbB f A B C xs p q) = cc at CC hc ⊢
    generalize cel7 A C p q = r at C1 CC
    go_enter Tryz.func23, Tryz.ntmps23
    go_wp2_with fail
    go_region_held3 (fun W => (W.cell? ⟨w.heap.size, 0, none⟩ = some (.int .i64 A) ∧ W.cell? ⟨w.heap.size, 1, none⟩ = some (.int .i64 B) ∧ W.cell? ⟨w.heap.size, 2, none⟩ = some (.int .i64 C)) ∧ (W.cell? ⟨w.heap.size + 1, 0, none⟩ = some (.int .i64 p) ∧ W.cell? ⟨w.heap.size + 1, 1, none⟩ = some (.int .i64 q))) ((refine And.intro (Kt.cells ?_) (Kg.cells ?_)) <;> repeat (first | with_reducible assumption | with_reducible refine Kt.drew ?_ | with_reducible refine Kt.alloc ?_ _ | with_reducible refine Kt.call ?_ (by with_reducible assumption) | with_reducible refine Kg.drew ?_ | with_reducible refine Kg.alloc ?_ _ | with_reducible refine Kg.call ?_ (by with_reducible assumption)))
      (first
        | (go_at_call 52; with_reducible refine (C1.out _).mono ?_; rintro e u1 ⟨rfl, hb1⟩; have L1 : Kt w.heap.size A B C u1 := (by repeat (first | with_reducible assumption | with_reducible refine Kt.drew ?_ | with_reducible refine Kt.alloc ?_ _ | with_reducible refine Kt.call ?_ (by with_reducible assumption) | with_reducible refine Kg.drew ?_ | with_reducible refine Kg.alloc ?_ _ | with_reducible refine Kg.call ?_ (by with_reducible assumption) | with_reducible refine Ko6.drew ?_ | with_reducible refine Ko6.alloc ?_ _ | with_reducible refine Ko6.call ?_ (by with_reducible assumption))); have V1 : Kg (w.heap.size + 1) p q u1 := (by repeat (first | with_reducible assumption | with_reducible refine Kt.drew ?_ | with_reducible refine Kt.alloc ?_ _ | with_reducible refine Kt.call ?_ (by with_reducible assumption) | with_reducible refine Kg.drew ?_ | with_reducible refine Kg.alloc ?_ _ | with_reducible refine Kg.call ?_ (by with_reducible assumption) | with_reducible refine Ko6.drew ?_ | with_reducible refine Ko6.alloc ?_ _ | with_reducible refine Ko6.call ?_ (by with_reducible assumption))); have B1 : Below w.heap.size w u1 := (by repeat (first | with_reducible assumption | with_reducible exact Below.refl _ _ | with_reducible refine Below.alloc ?_ (by first | omega | (simp <;> omega)) _ | with_reducible refine bstep ?_ (by with_reducible assumption) | with_reducible refine Below.drew ?_)))
        | (go_at_call 45; with_reducible refine (CC.out _ (by repeat (first | with_reducible assumption | with_reducible exact Below.refl _ _ | with_reducible refine Below.alloc ?_ (by first | omega | (simp <;> omega)) _ | with_reducible refine bstep ?_ (by with_reducible assumption) | with_reducible refine Below.drew ?_))).mono ?_; rintro e u2 ⟨rfl, hb2⟩; have L2 : Kt w.heap.size A B C u2 := (by repeat (first | with_reducible assumption | with_reducible refine Kt.drew ?_ | with_reducible refine Kt.alloc ?_ _ | with_reducible refine Kt.call ?_ (by with_reducible assumption) | with_reducible refine Kg.drew ?_ | with_reducible refine Kg.alloc ?_ _ | with_reducible refine Kg.call ?_ (by with_reducible assumption) | with_reducible refine Ko6.drew ?_ | with_reducible refine Ko6.alloc ?_ _ | with_reducible refine Ko6.call ?_ (by with_reducible assumption))); have V2 : Kg (w.heap.size + 1) p q u2 := (by repeat (first | with_reducible assumption | with_reducible refine Kt.drew ?_ | with_reducible refine Kt.alloc ?_ _ | with_reducible refine Kt.call ?_ (by with_reducible assumption) | with_reducible refine Kg.drew ?_ | with_reducible refine Kg.alloc ?_ _ | with_reducible refine Kg.call ?_ (by with_reducible assumption) | with_reducible refine Ko6.drew ?_ | with_reducible refine Ko6.alloc ?_ _ | with_reducible refine Ko6.call ?_ (by with_reducible assumption))); have B2 : Below w.heap.size w u2 := (by repeat (first | with_reducible assumption | with_reducible exact Below.refl _ _ | with_reducible refine Below.alloc ?_ (by first | omega | (simp <;> omega)) _ | with_reducible refine bstep ?_ (by with_reducible assumption) | with_reducible refine Below.drew ?_))))
    all_goals
      go_wp2
      go_ret2
      exact LAns.bad HZ.out rfl (by repeat (first | with_reducible assumption | with_reducible exact Below.refl _ _ | with_reducible refine Below.drew ?_ | with_reducible refine below_drewN ?_ _ | with_reducible refine Below.alloc ?_ (by first | omega | (simp <;> omega)) _ | with_reducible refine bstep ?_ (by with_reducible assumption)))
  have HST := Lib.hid hg
  have HG := Lib.hid (sb_parts hg).1
  have HCL := Lib.hid (sb_parts hg).2
  rw [hc] at CC ⊢
  have HLE := Lib.hid (show sbL f A B C xs p q = xs.filter (fun m => decide (mv A B C m (p, q) = (p, q))) by simp [sbL, hg])
  clear hg hc HCO
  have H768 := Lib.hid (grp_len HG.out)
  have h7 : (xs.length : Int) ≤ 768 := by have := H768.out; omega
  generalize cel7 A C p q = r at C1 CC
  go_enter Tryz.func23, Tryz.ntmps23
  go_wp2_with fail
  go_region_held3 (fun W => (W.cell? ⟨w.heap.size, 0, none⟩ = some (.int .i64 A) ∧ W.cell? ⟨w.heap.size, 1, none⟩ = some (.int .i64 B) ∧ W.cell? ⟨w.heap.size, 2, none⟩ = some (.int .i64 C)) ∧ (W.cell? ⟨w.heap.size + 1, 0, none⟩ = some (.int .i64 p) ∧ W.cell? ⟨w.heap.size + 1, 1, none⟩ = some (.int .i64 q))) ((refine And.intro (Kt.cells ?_) (Kg.cells ?_)) <;> repeat (first | with_reducible assumption | with_reducible refine Kt.drew ?_ | with_reducible refine Kt.alloc ?_ _ | with_reducible refine Kt.call ?_ (by with_reducible assumption) | with_reducible refine Kg.drew ?_ | with_reducible refine Kg.alloc ?_ _ | with_reducible refine Kg.call ?_ (by with_reducible assumption)))
    (first
      | (go_at_call 52; with_reducible refine (C1.out _).mono ?_; rintro e u1 ⟨rfl, hb1⟩; have L1 : Kt w.heap.size A B C u1 := (by repeat (first | with_reducible assumption | with_reducible refine Kt.drew ?_ | with_reducible refine Kt.alloc ?_ _ | with_reducible refine Kt.call ?_ (by with_reducible assumption) | with_reducible refine Kg.drew ?_ | with_reducible refine Kg.alloc ?_ _ | with_reducible refine Kg.call ?_ (by with_reducible assumption) | with_reducible refine Ko6.drew ?_ | with_reducible refine Ko6.alloc ?_ _ | with_reducible refine Ko6.call ?_ (by with_reducible assumption))); have V1 : Kg (w.heap.size + 1) p q u1 := (by repeat (first | with_reducible assumption | with_reducible refine Kt.drew ?_ | with_reducible refine Kt.alloc ?_ _ | with_reducible refine Kt.call ?_ (by with_reducible assumption) | with_reducible refine Kg.drew ?_ | with_reducible refine Kg.alloc ?_ _ | with_reducible refine Kg.call ?_ (by with_reducible assumption) | with_reducible refine Ko6.drew ?_ | with_reducible refine Ko6.alloc ?_ _ | with_reducible refine Ko6.call ?_ (by with_reducible assumption))); have B1 : Below w.heap.size w u1 := (by repeat (first | with_reducible assumption | with_reducible exact Below.refl _ _ | with_reducible refine Below.alloc ?_ (by first | omega | (simp <;> omega)) _ | with_reducible refine bstep ?_ (by with_reducible assumption) | with_reducible refine Below.drew ?_)))
      | (go_at_call 45; with_reducible refine (CC.out _ (by repeat (first | with_reducible assumption | with_reducible exact Below.refl _ _ | with_reducible refine Below.alloc ?_ (by first | omega | (simp <;> omega)) _ | with_reducible refine bstep ?_ (by with_reducible assumption) | with_reducible refine Below.drew ?_))).mono ?_; rintro e u2 ⟨rfl, hb2⟩; have L2 : Kt w.heap.size A B C u2 := (by repeat (first | with_reducible assumption | with_reducible refine Kt.drew ?_ | with_reducible refine Kt.alloc ?_ _ | with_reducible refine Kt.call ?_ (by with_reducible assumption) | with_reducible refine Kg.drew ?_ | with_reducible refine Kg.alloc ?_ _ | with_reducible refine Kg.call ?_ (by with_reducible assumption) | with_reducible refine Ko6.drew ?_ | with_reducible refine Ko6.alloc ?_ _ | with_reducible refine Ko6.call ?_ (by with_reducible assumption))); have V2 : Kg (w.heap.size + 1) p q u2 := (by repeat (first | with_reducible assumption | with_reducible refine Kt.drew ?_ | with_reducible refine Kt.alloc ?_ _ | with_reducible refine Kt.call ?_ (by with_reducible assumption) | with_reducible refine Kg.drew ?_ | with_reducible refine Kg.alloc ?_ _ | with_reducible refine Kg.call ?_ (by with_reducible assumption) | with_reducible refine Ko6.drew ?_ | with_reducible refine Ko6.alloc ?_ _ | with_reducible refine Ko6.call ?_ (by with_reducible assumption))); have B2 : Below w.heap.size w u2 := (by repeat (first | with_reducible assumption | with_reducible exact Below.refl _ _ | with_reducible refine Below.alloc ?_ (by first | omega | (simp <;> omega)) _ | with_reducible refine bstep ?_ (by with_reducible assumption) | with_reducible refine Below.drew ?_))))
  all_goals
    have BQ : Below w.heap.size w u2 := B2
    have zq := BQ.size
    have zk := L2.1
    have zv := V2.1
    have HLQ := Lib.hid L2
    have HVQ := Lib.hid V2
    clear L1 B1 V1 L2 B2 V2 L0 B0 L0c V0 V0c
    go_wp2_with fail
    go_loopw [11, 12] (fun s11 s12 W => ∃ k : Nat, s12 = .int .i64 (k : Int) ∧ k ≤ xs.length ∧ W.ownsRow u2.heap.size 62 6 s11 ((xs.take k).filter (fun m => decide (mv A B C m (p, q) = (p, q)))).length (cells6 ((xs.take k).filter (fun m => decide (mv A B C m (p, q) = (p, q))))) ∧ Below u2.heap.size u2 W) (fun _ s12 _ => xs.length - (intOf s12).toNat)
    case atStart => exact ⟨0, rfl, by omega, lit6 _ _ rfl (Nat.le_refl _), (Below.refl _ _).alloc (Nat.le_refl _) _⟩
    case round =>
      obtain ⟨k, rfl, hk, hown, hB⟩ := hrel
      by_cases hk1 : k < xs.length
      · have HPL := Lib.hid (show ((xs.take k).filter (fun m => decide (mv A B C m (p, q) = (p, q)))).length ≤ (xs.take k).length from List.length_filter_le _ _)
        have hBw : Below w.heap.size w wr := BQ.trans (hB.mono zq)
        have HMEM := Lib.hid ((grp_ok HG.out).2.1 xs[k] (List.getElem_mem hk1))
        have hk2 : (k : Int) < (xs.length : Int) := by omega
        have hk3 : (k : Int) ≤ 768 := by omega
        have hres := HA.out.2.2.resolve_left (fun h => by omega)
        have hhi := HA.out.1
        obtain ⟨g, cap', e9, _, hg, RA⟩ := hres
        simp only [Value.slice.injEq, true_and] at e9
        obtain ⟨rfl, rfl⟩ := e9
        have q1 := (RA.grow hBw (by omega)).mo k hk1
        have HT := Lib.hid (show xs.take (k + 1) = xs.take k ++ [xs[k]] from List.take_succ_eq_append_getElem hk1)
        have HTL := Lib.hid (show (xs.take k).length ≤ 768 by rw [List.length_take]; omega)
        have HK := Lib.hid hk1
        clear RA hg hhi hk
        generalize xs[k] = m at q1 HT HMEM
        clear hk1
        obtain ⟨a, b, c, d, x, y⟩ := m
        dsimp only at q1
        have HPT := Lib.hid (Nat.le_trans HPL.out HTL.out)
        have HF := Lib.hid (show (xs.take (k + 1)).filter (fun m => decide (mv A B C m (p, q) = (p, q))) = (xs.take k).filter (fun m => decide (mv A B C m (p, q) = (p, q))) ++ if decide (mv A B C (a, b, c, d, x, y) (p, q) = (p, q)) = true then [(a, b, c, d, x, y)] else [] by rw [HT.out, List.filter_append]; congr 1; simp only [List.filter_cons, List.filter_nil])
        generalize (xs.take k).filter (fun m => decide (mv A B C m (p, q) = (p, q))) = zs at hown HPT HF HPL
        clear HPL HTL
        obtain ⟨hl, hli, hv, hp, hx, hy⟩ := mv_mid HMEM.out.1 HMEM.out.2 HCL.out
        have CT : Hid (∀ W, Calls Tryz.prog 53 #[.agg #[.int .i64 A, .int .i64 B, .int .i64 C], .agg #[.int .i64 a, .int .i64 b, .int .i64 c, .int .i64 d, .int .i64 x, .int .i64 y], .agg #[.int .i64 p, .int .i64 q]] W fun e w' => e = .returned (.agg #[.int .i64 (redX A B C (a * p + b * q + x) (c * p + d * q + y)), .int .i64 (redY C (c * p + d * q + y))]) ∧ Below W.heap.size W w') := Lib.hid (fun W => l07Move_any A B C a b c d x y p q W hl hli hv hp hx hy)
        have HE : Hid (eqV2 (redX A B C (a * p + b * q + x) (c * p + d * q + y)) (redY C (c * p + d * q + y)) p q = decide (mv A B C (a, b, c, d, x, y) (p, q) = (p, q))) := Lib.hid (eqV2_dec (redX A B C (a * p + b * q + x) (c * p + d * q + y), redY C (c * p + d * q + y)) (p, q))
        clear hl hli hv hp hx hy HMEM
        generalize redX A B C (a * p + b * q + x) (c * p + d * q + y) = rx at CT HE
        generalize redY C (c * p + d * q + y) = ry at CT HE
        have L3 := HLQ.out.call hB
        have V3 := HVQ.out.call hB
        have L3c := L3.cells
        have V3c := V3.cells
        have q1c := q1.cells
        have zB := hBw.size
        have ZB := Lib.hid hB.size
        rcases hd : decide (mv A B C (a, b, c, d, x, y) (p, q) = (p, q)) with _ | _
        all_goals
          rw [hd] at HF HE
          have he := HE.out
          clear hd
          go_wp2_with fail
          go_region_held3 (fun W => (W.cell? ⟨w.heap.size, 0, none⟩ = some (.int .i64 A) ∧ W.cell? ⟨w.heap.size, 1, none⟩ = some (.int .i64 B) ∧ W.cell? ⟨w.heap.size, 2, none⟩ = some (.int .i64 C)) ∧ (W.cell? ⟨g, k * 6, none⟩ = some (.int .i64 a) ∧ W.cell? ⟨g, k * 6 + 1, none⟩ = some (.int .i64 b) ∧ W.cell? ⟨g, k * 6 + 2, none⟩ = some (.int .i64 c) ∧ W.cell? ⟨g, k * 6 + 3, none⟩ = some (.int .i64 d) ∧ W.cell? ⟨g, k * 6 + 4, none⟩ = some (.int .i64 x) ∧ W.cell? ⟨g, k * 6 + 5, none⟩ = some (.int .i64 y)) ∧ (W.cell? ⟨w.heap.size + 1, 0, none⟩ = some (.int .i64 p) ∧ W.cell? ⟨w.heap.size + 1, 1, none⟩ = some (.int .i64 q))) ((refine And.intro (Kt.cells ?_) (And.intro (Ko6.cells ?_) (Kg.cells ?_))) <;> repeat (first | with_reducible assumption | with_reducible refine Kt.drew ?_ | with_reducible refine Kt.alloc ?_ _ | with_reducible refine Kt.call ?_ (by with_reducible assumption) | with_reducible refine Kg.drew ?_ | with_reducible refine Kg.alloc ?_ _ | with_reducible refine Kg.call ?_ (by with_reducible assumption) | with_reducible refine Ko6.drew ?_ | with_reducible refine Ko6.alloc ?_ _ | with_reducible refine Ko6.call ?_ (by with_reducible assumption)))
            (first
              | (go_at_call 53; with_reducible refine (CT.out _).mono ?_; rintro e u3 ⟨rfl, hb3⟩; have L4 : Kt w.heap.size A B C u3 := (by repeat (first | with_reducible assumption | with_reducible refine Kt.drew ?_ | with_reducible refine Kt.alloc ?_ _ | with_reducible refine Kt.call ?_ (by with_reducible assumption) | with_reducible refine Kg.drew ?_ | with_reducible refine Kg.alloc ?_ _ | with_reducible refine Kg.call ?_ (by with_reducible assumption) | with_reducible refine Ko6.drew ?_ | with_reducible refine Ko6.alloc ?_ _ | with_reducible refine Ko6.call ?_ (by with_reducible assumption))); have V4 : Kg (w.heap.size + 1) p q u3 := (by repeat (first | with_reducible assumption | with_reducible refine Kt.drew ?_ | with_reducible refine Kt.alloc ?_ _ | with_reducible refine Kt.call ?_ (by with_reducible assumption) | with_reducible refine Kg.drew ?_ | with_reducible refine Kg.alloc ?_ _ | with_reducible refine Kg.call ?_ (by with_reducible assumption) | with_reducible refine Ko6.drew ?_ | with_reducible refine Ko6.alloc ?_ _ | with_reducible refine Ko6.call ?_ (by with_reducible assumption))); have q4 : Ko6 g (k * 6) a b c d x y u3 := (by repeat (first | with_reducible assumption | with_reducible refine Kt.drew ?_ | with_reducible refine Kt.alloc ?_ _ | with_reducible refine Kt.call ?_ (by with_reducible assumption) | with_reducible refine Kg.drew ?_ | with_reducible refine Kg.alloc ?_ _ | with_reducible refine Kg.call ?_ (by with_reducible assumption) | with_reducible refine Ko6.drew ?_ | with_reducible refine Ko6.alloc ?_ _ | with_reducible refine Ko6.call ?_ (by with_reducible assumption))); have hb4 : Below wr.heap.size wr u3 := (by repeat (first | with_reducible assumption | with_reducible exact Below.refl _ _ | with_reducible refine Below.drew ?_ | with_reducible refine below_drewN ?_ _ | with_reducible refine Below.alloc ?_ (by first | omega | (simp <;> omega)) _ | with_reducible refine bstep ?_ (by with_reducible assumption)))))
        · have O5 := ownsRow_call hown hb4
          have B5 := bstep hB hb4
          clear hb4 hown hB q1 q1c
          go_wp2
          go_roundw
          case rel => exact ⟨k + 1, by go_num, by have := HK.out; omega, by rw [HF.out]; simpa using O5, B5⟩
          case measure => (have := HK.out); first | (simp [intOf]; done) | (simp [intOf]; omega)
        · have O5 := ownsRow_call hown hb4
          have B5 := bstep hB hb4
          have q5c := q4.cells
          have z5 := B5.size
          have z6 := hb4.size
          clear hb4 hown hB q1 q1c
          go_wp2_with (at_builtin; refine wpList_append_own _ rfl _ _ 30 rfl u2.heap.size 62 i0 (.agg #[.int .i64 0, .int .i64 0, .int .i64 0, .int .i64 0, .int .i64 0, .int .i64 0]) 6 48 Tryz.underlying30 hinf hz0 hz1 hz2 rfl (by decide) _ _ _ rfl (O5.alloc _) ⟨u3.heap.size, 0, none⟩ 1 1 [.int .i64 a, .int .i64 b, .int .i64 c, .int .i64 d, .int .i64 x, .int .i64 y] rfl rfl (new_six _ _ _ _ _ _ _ rfl) one_six (by have := HPT.out; unfold maxLen; omega) (by have := HPT.out; omega) (by (try simp); have := O5; omega) ?_; intro v9 w9 hown9 hgrow _)
          have O9 := own_next6 hown9
          have B9 : Below u2.heap.size u2 w9 := Below.grown (Below.alloc B5 (by have := ZB.out; omega) _) hgrow (by simp; have := ZB.out; omega) (fun r hr => by have := (O5.lt r hr).1; omega)
          clear hown9 hgrow O5 B5
          go_wp2
          go_roundw
          case rel => exact ⟨k + 1, by go_num, by have := HK.out; omega, by rw [HF.out]; exact O9, B9⟩
          case measure => (have := HK.out); first | (simp [intOf]; done) | (simp [intOf]; omega)
      · obtain rfl : k = xs.length := by omega
        rw [List.take_length] at hown
        have B9 : Below w.heap.size w wr := BQ.trans (hB.mono zq)
        have S9 : SRow w.heap.size wr.heap.size 6 u11 (sbL f A B C xs p q).length (fm (sbL f A B C xs p q)) wr := by rw [HLE.out]; exact SRow.big6 (ownsRow_lower hown zq) (by have := List.length_filter_le (fun m => decide (mv A B C m (p, q) = (p, q))) xs; have := H768.out; omega)
        have HS9 := Lib.hid S9
        clear hk hk1 hown S9 hB BQ
        go_wp2
        go_ret2
        exact ⟨_, ret_pair (by rfl) rfl, HS9.out, B9⟩

end Go.Proofs.YtkfdaepnjdnnmaaGreatDoor
