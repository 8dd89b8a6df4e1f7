/-
  Contracts of chapter 7's groupWithCells, hasCell, and StabiliserOf (with fixing) in the program and in the model. Conditions: the list's length is below the model's bound, and the program's variable unitMatrix holds the unit.
-/
import Derived.Test.YtodkomaeljbhaaaGreatDoorFx7
import Derived.Test.YtodkomaeljbhaaaGreatDoorGm
import Derived.Test.YtodkomaeljbhaaaGreatDoorMg6
import Derived.Test.YtodkomaeljbhaaaGreatDoorGo
import Derived.Test.YtodkomaeljbhaaaGreatDoorGp
import Derived.Deep.RegionHeld3
import Derived.IntWalk
namespace Go.Proofs.YtodkomaeljbhaaaGreatDoor
open Go.RowKit
set_option linter.unusedSimpArgs false
set_option linter.unusedVariables false

def cel7 (A C p q : Int) : Bool := inB p 0 (wrap64 (A - 1)) && inB q 0 (wrap64 (C - 1))
theorem cel7_eq {A B C p q : Int} (hl : latI A B C) : cel7 A C p q = celB A C (p, q) := by
  obtain ⟨b1, b2⟩ := latI_bd hl
  have h1 := hl.1
  have h2 := hl.2.1
  have w1 : wrap64 (A - 1) = A - 1 := by unfold wrap64; omega
  have w2 : wrap64 (C - 1) = C - 1 := by unfold wrap64; omega
  rw [Bool.eq_iff_iff, celB_iff]
  simp [cel7, inB, w1, w2]
  omega
def sbB (f A B C : Int) (xs : List M6) (p q : Int) : Bool := cel7 A C p q && grpB f A B C xs
def gwB (f A B C : Int) (xs : List M6) (vs : List V2) : Bool := grpB f A B C xs && vs.all (celB A C)
theorem gw_one (f A B C : Int) (xs : List M6) (p q : Int) : gwB f A B C xs [(p, q)] = sbB f A B C xs p q := by
  unfold gwB sbB
  rcases hg : grpB f A B C xs with _ | _
  · simp
  · rw [cel7_eq (grp_good hg).1]; simp
def sbL (f A B C : Int) (xs : List M6) (p q : Int) : List M6 := bif sbB f A B C xs p q then xs.filter (fun m => decide (mv A B C m (p, q) = (p, q))) else []
theorem sb_parts {f A B C : Int} {xs : List M6} {p q : Int} (h : sbB f A B C xs p q = true) : grpB f A B C xs = true ∧ celB A C (p, q) = true := by
  unfold sbB at h
  rw [Bool.and_eq_true] at h
  exact ⟨h.2, by rw [← cel7_eq (grp_good h.2).1]; exact h.1⟩
theorem sbL_len (f A B C : Int) (xs : List M6) (p q : Int) : (sbL f A B C xs p q).length ≤ 768 := by
  unfold sbL
  rcases h : sbB f A B C xs p q with _ | _
  · simp
  · exact Nat.le_trans (List.length_filter_le _ _) (grp_len (sb_parts h).1)
theorem cod6_nz (f A B C : Int) : (cod6 f A B C false != 0) = true := by
  rcases hF : flB f A B C with _ | _ <;> simp [cod6, hF]
theorem cod6_ok {f A B C : Int} {xs : List M6} (h : grpB f A B C xs = true) : cod6 f A B C true = 0 := by simp [cod6, (grp_ok h).1]
theorem cod6_rng {f A B C : Int} {xs : List M6} (h : grpB f A B C xs = true) : cod6 f A B C false = 2 := by simp [cod6, (grp_ok h).1]
theorem cells2_at7 : ∀ (xs : List V2) (i : Nat) (h : i < xs.length), (cells2 xs)[i * 2]? = some (.int .i64 xs[i].1) ∧ (cells2 xs)[i * 2 + 1]? = some (.int .i64 xs[i].2)
  | [], i, h => absurd h (by simp)
  | t :: xs, 0, _ => by simp [cells2]
  | t :: xs, i + 1, h => by
    have hs := cells2_at7 xs i (by simpa using h)
    have e : cells2 (t :: xs) = [.int .i64 t.1, .int .i64 t.2] ++ cells2 xs := by simp [cells2]
    rw [e, List.getElem?_append_right (by simp; omega), List.getElem?_append_right (by simp; omega)]
    simp only [List.length_cons, List.length_nil, List.getElem_cons_succ]
    rw [show (i + 1) * 2 - (0 + 1 + 1) = i * 2 by omega, show (i + 1) * 2 + 1 - (0 + 1 + 1) = i * 2 + 1 by omega]
    exact hs
theorem IRow.v27 {g : Nat} {xs : List V2} {W : World} (h : IRow g (xs.length * 2) (intAt (cells2 xs)) W) (i : Nat) (hi : i < xs.length) : Ko2 g (i * 2) xs[i].1 xs[i].2 W := by
  have k := h.ko2 (i * 2) (by omega)
  obtain ⟨e0, e1⟩ := cells2_at7 xs i hi
  have z0 : intAt (cells2 xs) (i * 2) = xs[i].1 := by simp [intAt, e0]
  have z1 : intAt (cells2 xs) (i * 2 + 1) = xs[i].2 := by simp [intAt, e1]
  rwa [z0, z1] at k
theorem SRow.one2 {W : World} {g : Nat} {T : TypeId} {p q : Int} (hg : g = W.heap.size) : SRow g (g + 1) 2 (.slice (some ⟨g, 0, none⟩) ([(p, q)] : List V2).length 1) ([(p, q)] : List V2).length (intAt (cells2 [(p, q)])) (W.alloc (.cells #[.int .i64 p, .int .i64 q] T)) := by
  have h : KV g p q (W.alloc (.cells #[.int .i64 p, .int .i64 q] T)) := KV.at g hg
  refine ⟨by subst hg; simp, by simp, .inr ⟨g, 1, rfl, Nat.le_refl _, by omega, h.lt, fun t ht => ?_⟩⟩
  have ht' : t < 2 := by simpa using ht
  obtain rfl | rfl : t = 0 ∨ t = 1 := by omega
  · exact ⟨h.c0, h.f0⟩
  · exact ⟨h.c1, h.f1⟩
attribute [local go_sem ↓] eqVe7
set_option maxRecDepth 100000 in
set_option maxRecDepth 100000 in
set_option maxHeartbeats 8000000 in
theorem l07Code_any {lo hi : Nat} {v : Value} {xs : List M6} {w : World} (f A B C : Int) (b : Bool) (h : SRow lo hi 6 v xs.length (fm xs) w) (hn : xs.length ≤ 1048576) :
    Calls Tryz.prog 24 #[.int .i64 f, .agg #[.int .i64 A, .int .i64 B, .int .i64 C], v, .bool b] w fun e w' => e = .returned (.int .i64 (cod6 f A B C (b && grpB f A B C xs))) ∧ Below w.heap.size w w' := by
  have HA := Lib.hid h
  have HN := Lib.hid hn
  have L0 : Kt w.heap.size A B C (w.alloc (.cells #[.int .i64 A, .int .i64 B, .int .i64 C] 30)) := Kt.at _ rfl
  have B0 : Below w.heap.size w (w.alloc (.cells #[.int .i64 A, .int .i64 B, .int .i64 C] 30)) := (Below.refl _ _).alloc (Nat.le_refl _) _
  have L0c := L0.cells
  have CG : Hid (∀ W, Below w.heap.size w W → Calls Tryz.prog 43 #[.int .i64 f, .agg #[.int .i64 A, .int .i64 B, .int .i64 C], v] W fun e w' => e = .returned (.bool (grpB f A B C xs)) ∧ Below W.heap.size W w') := Lib.hid (fun W hW => specIsGroup_any f A B C (HA.out.grow hW HA.out.1) HN.out)
  have CC := Lib.hid (fun W => l06Code_any f A B C (b && grpB f A B C xs) W)
  obtain ⟨ao, cap, rfl⟩ := srow_shape h
  clear h hn
  rcases b with _ | _
  · simp only [Bool.false_and] at CC ⊢
    generalize cod6 f A B C false = cc at CC ⊢
    clear CG
    go_enter Tryz.func24, Tryz.ntmps24
    go_wp2_with fail
    refine wp_region_held_drew (S := (fun W => (W.cell? ⟨w.heap.size, 0, none⟩ = some (.int .i64 A) ∧ W.cell? ⟨w.heap.size, 1, none⟩ = some (.int .i64 B) ∧ W.cell? ⟨w.heap.size, 2, none⟩ = some (.int .i64 C)))) (by kernel_rfl) ?_ (fun hHeld => ?_)
    · exact L0.cells
    refine wpAnyH_take (i := 0) (v := ?_) (by (simp only [List.getElem?_toArray, List.getElem?_cons_succ, List.getElem?_cons_zero]); rfl) (by kernel_rfl) (by kernel_rfl) (by kernel_rfl) (by exact fun _ _ _ h => h) (Or.inl ⟨by rfl, ?_⟩) (by assumption) ?_
    rotate_left 1
    · (intro w hSw; (try dsimp only at hSw); go_simp) <;> with_reducible rfl
    (try simp only [Act.put, List.setIfInBounds_toArray, List.set_cons_zero, List.set_cons_succ])
    refine wpAnyH_take (i := 1) (v := ?_) (by (simp only [List.getElem?_toArray, List.getElem?_cons_succ, List.getElem?_cons_zero]); rfl) (by kernel_rfl) (by kernel_rfl) (by kernel_rfl) (by exact fun _ _ _ h => h) (Or.inl ⟨by rfl, ?_⟩) (by assumption) ?_
    rotate_left 1
    · (intro w hSw; (try dsimp only at hSw); go_simp) <;> with_reducible rfl
    (try simp only [Act.put, List.setIfInBounds_toArray, List.set_cons_zero, List.set_cons_succ])
    refine wpAnyH_take (i := 2) (v := ?_) (by (simp only [List.getElem?_toArray, List.getElem?_cons_succ, List.getElem?_cons_zero]); rfl) (by kernel_rfl) (by kernel_rfl) (by kernel_rfl) (by exact fun _ _ _ h => h) (Or.inl ⟨by rfl, ?_⟩) (by assumption) ?_
    rotate_left 1
    · (intro w hSw; (try dsimp only at hSw); go_simp) <;> with_reducible rfl
    (try simp only [Act.put, List.setIfInBounds_toArray, List.set_cons_zero, List.set_cons_succ])
    refine wpAnyH_take (i := 3) (v := ?_) (by (simp only [List.getElem?_toArray, List.getElem?_cons_succ, List.getElem?_cons_zero]); rfl) (by kernel_rfl) (by kernel_rfl) (by kernel_rfl) (by exact fun _ _ _ h => h) (Or.inl ⟨by rfl, ?_⟩) (by assumption) ?_
    rotate_left 1
    · (intro w hSw; (try dsimp only at hSw); go_simp) <;> with_reducible rfl
    (try simp only [Act.put, List.setIfInBounds_toArray, List.set_cons_zero, List.set_cons_succ])
    refine wpAnyH_take (i := 4) (v := undef) (by (simp only [List.getElem?_toArray, List.getElem?_cons_succ, List.getElem?_cons_zero]); rfl) (by kernel_rfl) (by kernel_rfl) (by kernel_rfl) (by exact fun _ _ _ h => h) (Or.inr ⟨by rfl, rfl⟩) (by assumption) ?_
    (try simp only [Act.put, List.setIfInBounds_toArray, List.set_cons_zero, List.set_cons_succ])
    refine wpAnyH_take (i := 5) (v := undef) (by (simp only [List.getElem?_toArray, List.getElem?_cons_succ, List.getElem?_cons_zero]); rfl) (by kernel_rfl) (by kernel_rfl) (by kernel_rfl) (by exact fun _ _ _ h => h) (Or.inr ⟨by rfl, rfl⟩) (by assumption) ?_
    (try simp only [Act.put, List.setIfInBounds_toArray, List.set_cons_zero, List.set_cons_succ])
    refine wpAnyH_take (i := 6) (v := undef) (by (simp only [List.getElem?_toArray, List.getElem?_cons_succ, List.getElem?_cons_zero]); rfl) (by kernel_rfl) (by kernel_rfl) (by kernel_rfl) (by exact fun _ _ _ h => h) (Or.inr ⟨by rfl, rfl⟩) (by assumption) ?_
    (try simp only [Act.put, List.setIfInBounds_toArray, List.set_cons_zero, List.set_cons_succ])
    refine wpAnyH_take (i := 7) (v := undef) (by (simp only [List.getElem?_toArray, List.getElem?_cons_succ, List.getElem?_cons_zero]); rfl) (by kernel_rfl) (by kernel_rfl) (by kernel_rfl) (by exact fun _ _ _ h => h) (Or.inr ⟨by rfl, rfl⟩) (by assumption) ?_
    (try simp only [Act.put, List.setIfInBounds_toArray, List.set_cons_zero, List.set_cons_succ])
    refine wpAnyH_take (i := 8) (v := ?_) (by (simp only [List.getElem?_toArray, List.getElem?_cons_succ, List.getElem?_cons_zero]); rfl) (by kernel_rfl) (by kernel_rfl) (by kernel_rfl) (by exact fun _ _ _ h => h) (Or.inl ⟨by rfl, ?_⟩) (by assumption) ?_
    rotate_left 1
    · (intro w hSw; (try dsimp only at hSw); go_simp) <;> with_reducible rfl
    (try simp only [Act.put, List.setIfInBounds_toArray, List.set_cons_zero, List.set_cons_succ])
    refine wpAnyH_ready (rs := [9]) (by kernel_rfl) (by simp) ?_
    refine AllReadyH.cons (o := _) (by (simp only [List.getElem?_toArray, List.getElem?_cons_succ, List.getElem?_cons_zero]); rfl) (fun K hK => ?_) AllReadyH.nil
    go_simp
    go_at_call 42
    refine (CC.out _).mono ?_
    rintro e u1 ⟨rfl, hb1⟩
    have L1 : Kt (w.heap.size) A B C u1 := (by repeat (first | with_reducible assumption | with_reducible refine Kt.drew ?_ | with_reducible refine Kt.alloc ?_ _ | with_reducible refine Kt.call ?_ (by with_reducible assumption)))
    have B1 : Below w.heap.size w u1 := (by repeat (first | with_reducible assumption | with_reducible refine Below.drew ?_ | with_reducible refine bstep ?_ (by with_reducible assumption)))
    clear hb1
    go_wp2_with fail
    refine hK.out _ _ ?_ (fun hHeld => ?_)
    · (try dsimp only)
      exact L1.cells
    clear hK K
    (try simp only [Act.put, List.setIfInBounds_toArray, List.set_cons_zero, List.set_cons_succ])
    refine wpAnyH_take (i := 10) (v := ?_) (by (simp only [List.getElem?_toArray, List.getElem?_cons_succ, List.getElem?_cons_zero]); rfl) (by kernel_rfl) (by kernel_rfl) (by kernel_rfl) (by exact fun _ _ _ h => h) (Or.inl ⟨by rfl, ?_⟩) (by assumption) ?_
    rotate_left 1
    · (intro w hSw; (try dsimp only at hSw); go_simp) <;> with_reducible rfl
    (try simp only [Act.put, List.setIfInBounds_toArray, List.set_cons_zero, List.set_cons_succ])
    refine wpAnyH_done (by kernel_rfl) ?_ _
    go_wp2
    go_ret
    exact ⟨rfl, by repeat (first | with_reducible assumption | with_reducible exact Below.refl _ _ | with_reducible refine Below.drew ?_ | with_reducible refine below_drewN ?_ _ | with_reducible refine Below.alloc ?_ (by first | omega | (simp <;> omega)) _ | with_reducible refine bstep ?_ (by with_reducible assumption))⟩
  · simp only [Bool.true_and] at CC ⊢
    generalize grpB f A B C xs = r at CG CC ⊢
    generalize cod6 f A B C r = cc at CC ⊢
    go_enter Tryz.func24, Tryz.ntmps24
    go_wp2_with fail
    go_region_held3 (fun W => (W.cell? ⟨w.heap.size, 0, none⟩ = some (.int .i64 A) ∧ W.cell? ⟨w.heap.size, 1, none⟩ = some (.int .i64 B) ∧ W.cell? ⟨w.heap.size, 2, none⟩ = some (.int .i64 C))) ((refine Kt.cells ?_) <;> repeat (first | with_reducible assumption | with_reducible refine Kt.drew ?_ | with_reducible refine Kt.alloc ?_ _ | with_reducible refine Kt.call ?_ (by with_reducible assumption)))
      (first
        | (go_at_call 43; with_reducible refine (CG.out _ (by repeat (first | with_reducible assumption | with_reducible exact Below.refl _ _ | with_reducible refine Below.alloc ?_ (by first | omega | (simp <;> omega)) _ | with_reducible refine bstep ?_ (by with_reducible assumption) | with_reducible refine Below.drew ?_))).mono ?_; rintro e u1 ⟨rfl, hb1⟩; have L1 : Kt w.heap.size A B C u1 := (by repeat (first | with_reducible assumption | with_reducible refine Kt.drew ?_ | with_reducible refine Kt.alloc ?_ _ | with_reducible refine Kt.call ?_ (by with_reducible assumption))); have B1 : Below w.heap.size w u1 := (by repeat (first | with_reducible assumption | with_reducible exact Below.refl _ _ | with_reducible refine Below.alloc ?_ (by first | omega | (simp <;> omega)) _ | with_reducible refine bstep ?_ (by with_reducible assumption) | with_reducible refine Below.drew ?_)))
        | (go_at_call 42; with_reducible refine (CC.out _).mono ?_; rintro e u2 ⟨rfl, hb2⟩; have L2 : Kt w.heap.size A B C u2 := (by repeat (first | with_reducible assumption | with_reducible refine Kt.drew ?_ | with_reducible refine Kt.alloc ?_ _ | with_reducible refine Kt.call ?_ (by with_reducible assumption))); have B2 : Below w.heap.size w u2 := (by repeat (first | with_reducible assumption | with_reducible exact Below.refl _ _ | with_reducible refine Below.alloc ?_ (by first | omega | (simp <;> omega)) _ | with_reducible refine bstep ?_ (by with_reducible assumption) | with_reducible refine Below.drew ?_))))
    all_goals
      go_wp2
      go_ret
      exact ⟨rfl, by repeat (first | with_reducible assumption | with_reducible exact Below.refl _ _ | with_reducible refine Below.drew ?_ | with_reducible refine below_drewN ?_ _ | with_reducible refine Below.alloc ?_ (by first | omega | (simp <;> omega)) _ | with_reducible refine bstep ?_ (by with_reducible assumption))⟩

def GwPost (f A B C : Int) (xs : List M6) (r : Bool) (w : World) (e : Ending) (w' : World) : Prop :=
  ∃ v : Value, e = .returned (.tuple #[v, .int .i64 (cod6 f A B C r)]) ∧ (r = true → w'.ownsRow w.heap.size 79 6 v xs.length (cells6 xs)) ∧ (r = false → v = .slice none 0 0) ∧ Below w.heap.size w w'
end Go.Proofs.YtodkomaeljbhaaaGreatDoor
