/-
 Contracts of chapter 7's groupWithCells, hasCell, and StabiliserOf (with fixing) in the program and in the model. Conditions: the list's length is below the model's bound, and the program's variable unitMatrix holds the unit.
-/
import Derived.Test.YtdgophfembpniaaGreatDoorFx7
import Derived.Test.YtdgophfembpniaaGreatDoorGm
import Derived.Test.YtdgophfembpniaaGreatDoorMg6
import Derived.Test.YtdgophfembpniaaGreatDoorGo
import Derived.Test.YtdgophfembpniaaGreatDoorGp
import Derived.Deep.RegionHeld3
import Derived.IntWalk
namespace Go.Proofs.YtdgophfembpniaaGreatDoor
open Go.RowKit
set_option linter.unusedSimpArgs false
set_option linter.unusedVariables false
theorem pkSb80 {P : Prop} (h : P := by repeat (first | with_reducible assumption | with_reducible exact Below.refl _ _ | with_reducible refine Below.drew ?_ | with_reducible refine below_drewN ?_ _ | with_reducible refine Below.alloc ?_ (by first | omega | (simp <;> omega)) _ | with_reducible refine bstep ?_ (by with_reducible assumption))) : P := h
theorem pkSb81 {P : Prop} (h : P := by repeat (first | with_reducible assumption | with_reducible exact Below.refl _ _ | with_reducible refine Below.alloc ?_ (by first | omega | (simp <;> omega)) _ | with_reducible refine bstep ?_ (by with_reducible assumption) | with_reducible refine Below.drew ?_)) : P := h
theorem pkSb82 {P : Prop} (h : P := by repeat (first | assumption | refine Kt.drew ?_ | refine Kt.alloc ?_ _ | refine Kt.call ?_ (by assumption))) : P := h
theorem tkSb8 {md P ops Q S} {i : Nat} {oi : Oper} {v : Value} {fuel : Nat} {listed : Array Bool} {a : Act} {w : World} (hi : ops[i]? = some oi := by (simp only [List.getElem?_toArray, List.getElem?_cons_succ, List.getElem?_cons_zero]); rfl) (hs : Region.noSelect ops = true := by kernel_rfl) (hf : Region.free md ops listed i = true := by kernel_rfl) (hr : (Region.ready md ops listed).contains i = true := by kernel_rfl) (hQ : ∀ c a w, Q (.panic c) (a.put oi.dst v) w → Q (.panic c) a w := by exact fun _ _ _ h => h) (hy : YieldsIf P ops S oi v a) (hS : S w := by assumption) (h : wpAnyH P md ops Q S fuel (listed.setIfInBounds i true) (a.put oi.dst v) w) : wpAnyH P md ops Q S (fuel + 1) listed a w := wpAnyH_take hi hs hf hr hQ hy hS h

def cel7 (A C p q : Int) : Bool := inB p 0 (wrap64 (A - 1)) && inB q 0 (wrap64 (C - 1))
theorem cel7_eq {A B C p q : Int} (hl : latI A B C) : cel7 A C p q = celB A C (p, q) := by
 obtain ⟨b1, b2⟩ := latI_bd hl
 have h1 := hl.1
 have h2 := hl.2.1
 have w1 : wrap64 (A - 1) = A - 1 := by unfold wrap64; omega
 have w2 : wrap64 (C - 1) = C - 1 := by unfold wrap64; omega
 rw [Bool.eq_iff_iff, celB_iff]
 simp [cel7, inB, w1, w2]
 omega
def sbB (f A B C : Int) (xs : List M6) (p q : Int) : Bool := cel7 A C p q && grpB f A B C xs
def gwB (f A B C : Int) (xs : List M6) (vs : List V2) : Bool := grpB f A B C xs && vs.all (celB A C)
theorem gw_one (f A B C : Int) (xs : List M6) (p q : Int) : gwB f A B C xs [(p, q)] = sbB f A B C xs p q := by
 unfold gwB sbB
 rcases hg : grpB f A B C xs with _ | _
 ·simp
 ·rw [cel7_eq (grp_good hg).1]; simp
theorem sb_parts {f A B C : Int} {xs : List M6} {p q : Int} (h : sbB f A B C xs p q = true) : grpB f A B C xs = true ∧ celB A C (p, q) = true := by
 unfold sbB at h
 rw [Bool.and_eq_true] at h
 exact ⟨h.2, by rw [← cel7_eq (grp_good h.2).1]; exact h.1⟩
theorem cod6_nz (f A B C : Int) : (cod6 f A B C false != 0) = true := by
 rcases hF : flB f A B C with _ | _ <;> simp [cod6, hF]
theorem cod6_ok {f A B C : Int} {xs : List M6} (h : grpB f A B C xs = true) : cod6 f A B C true = 0 := by simp [cod6, (grp_ok h).1]
theorem cod6_rng {f A B C : Int} {xs : List M6} (h : grpB f A B C xs = true) : cod6 f A B C false = 2 := by simp [cod6, (grp_ok h).1]
theorem cells2_at7 : ∀ (xs : List V2) (i : Nat) (h : i < xs.length), (cells2 xs)[i * 2]? = some (.int .i64 xs[i].1) ∧ (cells2 xs)[i * 2 + 1]? = some (.int .i64 xs[i].2)
 | [], i, h => absurd h (by simp)
 | t :: xs, 0, _ => by simp [cells2]
 | t :: xs, i + 1, h => by
  have hs := cells2_at7 xs i (by simpa using h)
  have e : cells2 (t :: xs) = [.int .i64 t.1, .int .i64 t.2] ++ cells2 xs := by simp [cells2]
  rw [e, List.getElem?_append_right (by simp; omega), List.getElem?_append_right (by simp; omega)]
  simp only [List.length_cons, List.length_nil, List.getElem_cons_succ]
  rw [show (i + 1) * 2 - (0 + 1 + 1) = i * 2 by omega, show (i + 1) * 2 + 1 - (0 + 1 + 1) = i * 2 + 1 by omega]
  exact hs
theorem IRow.v27 {g : Nat} {xs : List V2} {W : World} (h : IRow g (xs.length * 2) (intAt (cells2 xs)) W) (i : Nat) (hi : i < xs.length) : Ko2 g (i * 2) xs[i].1 xs[i].2 W := by
 have k := h.ko2 (i * 2) (by omega)
 obtain ⟨e0, e1⟩ := cells2_at7 xs i hi
 have z0 : intAt (cells2 xs) (i * 2) = xs[i].1 := by simp [intAt, e0]
 have z1 : intAt (cells2 xs) (i * 2 + 1) = xs[i].2 := by simp [intAt, e1]
 rwa [z0, z1] at k
theorem SRow.one2 {W : World} {g : Nat} {T : TypeId} {p q : Int} (hg : g = W.heap.size) : SRow g (g + 1) 2 (.slice (some ⟨g, 0, none⟩) ([(p, q)] : List V2).length 1) ([(p, q)] : List V2).length (intAt (cells2 [(p, q)])) (W.alloc (.cells #[.int .i64 p, .int .i64 q] T)) := by
 have h : KV g p q (W.alloc (.cells #[.int .i64 p, .int .i64 q] T)) := KV.at g hg
 refine ⟨by subst hg; simp, by simp, .inr ⟨g, 1, rfl, Nat.le_refl _, by omega, h.lt, fun t ht => ?_⟩⟩
 have ht' : t < 2 := by simpa using ht
 obtain rfl | rfl : t = 0 ∨ t = 1 := by omega
 ·exact ⟨h.c0, h.f0⟩
 ·exact ⟨h.c1, h.f1⟩
attribute [local go_sem ↓] eqVe7
set_option maxRecDepth 100000 in
set_option maxRecDepth 100000 in
set_option maxHeartbeats 8000000 in
theorem hasCell_any (A B C p q : Int) (w : World) :
  Calls Tryz.prog 99 #[.agg #[.int .i64 A, .int .i64 B, .int .i64 C], .agg #[.int .i64 p, .int .i64 q]] w fun e w' => e = .returned (.bool (celB A C (p, q))) ∧ Below w.heap.size w w' := by
 have L0 : Kt (w.heap.size) A B C ((w.alloc (.cells #[.int .i64 A, .int .i64 B, .int .i64 C] 32)).alloc (.cells #[.int .i64 p, .int .i64 q] 55)) := ((Kt.at (w.heap.size) rfl).alloc _)
 have V0 : Kg (w.heap.size + 1) p q ((w.alloc (.cells #[.int .i64 A, .int .i64 B, .int .i64 C] 32)).alloc (.cells #[.int .i64 p, .int .i64 q] 55)) := (Kg.at2 (w.heap.size + 1) (by simp))
 have B0 : Below w.heap.size w ((w.alloc (.cells #[.int .i64 A, .int .i64 B, .int .i64 C] 32)).alloc (.cells #[.int .i64 p, .int .i64 q] 55)) := (Below.alloc (Below.alloc (Below.refl _ _) (by first | with_reducible exact Nat.le_refl _ | (simp <;> omega)) _) (by first | with_reducible exact Nat.le_refl _ | (simp <;> omega)) _)
 go_enter Tryz.func99, Tryz.ntmps99
 have L0c := L0.cells
 have V0c := V0.cells
 go_wp2
 all_goals
  go_ret
  refine ⟨ret_bool ?_, by exact pkSb80⟩
  rw [Bool.eq_iff_iff, celB_iff]
  dsimp only
  first
   | omega
   | (simp only [decide_eq_true_eq, Bool.false_eq_true, true_iff, false_iff, iff_true]; omega)
   | (simp; omega)

set_option maxRecDepth 100000 in
set_option maxRecDepth 100000 in
set_option maxHeartbeats 8000000 in
theorem l07Cell_any (A B C p q : Int) (w : World) :
  Calls Tryz.prog 62 #[.agg #[.int .i64 A, .int .i64 B, .int .i64 C], .agg #[.int .i64 p, .int .i64 q]] w fun e w' => e = .returned (.bool (cel7 A C p q)) ∧ Below w.heap.size w w' := by
 have CA := Lib.hid (fun W => l01In_any p 0 (wrap64 (A - 1)) W)
 have CC := Lib.hid (fun W => l01In_any q 0 (wrap64 (C - 1)) W)
 have HV : Hid (cel7 A C p q = (inB p 0 (wrap64 (A - 1)) && inB q 0 (wrap64 (C - 1)))) := Lib.hid rfl
 generalize cel7 A C p q = r at HV ⊢
 rcases hx : inB p 0 (wrap64 (A - 1)) with _ | _
 ·simp only [hx] at CA
  have EA : Hid (r = false) := Lib.hid (by rw [HV.out, hx]; rfl)
  clear HV CC hx
  have L0 : Kt (w.heap.size) A B C ((w.alloc (.cells #[.int .i64 A, .int .i64 B, .int .i64 C] 32)).alloc (.cells #[.int .i64 p, .int .i64 q] 55)) := ((Kt.at (w.heap.size) rfl).alloc _)
  have V0 : Kg (w.heap.size + 1) p q ((w.alloc (.cells #[.int .i64 A, .int .i64 B, .int .i64 C] 32)).alloc (.cells #[.int .i64 p, .int .i64 q] 55)) := (Kg.at2 (w.heap.size + 1) (by simp))
  have B0 : Below w.heap.size w ((w.alloc (.cells #[.int .i64 A, .int .i64 B, .int .i64 C] 32)).alloc (.cells #[.int .i64 p, .int .i64 q] 55)) := (Below.alloc (Below.alloc (Below.refl _ _) (by first | with_reducible exact Nat.le_refl _ | (simp <;> omega)) _) (by first | with_reducible exact Nat.le_refl _ | (simp <;> omega)) _)
  go_enter Tryz.func62, Tryz.ntmps62
  have L0c := L0.cells
  have V0c := V0.cells
  go_wp2_with (go_at_call 67; with_reducible refine (CA.out _).mono ?_; rintro e w' ⟨rfl, rfl⟩)
  all_goals
   go_ret
   exact ⟨ret_bool EA.out.symm, by exact pkSb80⟩
 rcases hy : inB q 0 (wrap64 (C - 1)) with _ | _
 all_goals
  simp only [hx] at CA
  simp only [hy] at CC
  have EA := Lib.hid (show r = _ from by rw [HV.out, hx, hy])
  clear HV hx hy
  have L0 : Kt (w.heap.size) A B C ((w.alloc (.cells #[.int .i64 A, .int .i64 B, .int .i64 C] 32)).alloc (.cells #[.int .i64 p, .int .i64 q] 55)) := ((Kt.at (w.heap.size) rfl).alloc _)
  have V0 : Kg (w.heap.size + 1) p q ((w.alloc (.cells #[.int .i64 A, .int .i64 B, .int .i64 C] 32)).alloc (.cells #[.int .i64 p, .int .i64 q] 55)) := (Kg.at2 (w.heap.size + 1) (by simp))
  have B0 : Below w.heap.size w ((w.alloc (.cells #[.int .i64 A, .int .i64 B, .int .i64 C] 32)).alloc (.cells #[.int .i64 p, .int .i64 q] 55)) := (Below.alloc (Below.alloc (Below.refl _ _) (by first | with_reducible exact Nat.le_refl _ | (simp <;> omega)) _) (by first | with_reducible exact Nat.le_refl _ | (simp <;> omega)) _)
  go_enter Tryz.func62, Tryz.ntmps62
  have L0c := L0.cells
  have V0c := V0.cells
  go_wp2_with (first | (go_at_call 67; with_reducible refine (CA.out _).mono ?_; rintro e w' ⟨rfl, rfl⟩) | (go_at_call 67; with_reducible refine (CC.out _).mono ?_; rintro e w' ⟨rfl, rfl⟩))
  all_goals
   go_ret
   exact ⟨ret_bool EA.out.symm, by exact pkSb80⟩

set_option maxRecDepth 100000 in
set_option maxRecDepth 100000 in
set_option maxHeartbeats 8000000 in
theorem l07Code_any {lo hi : Nat} {v : Value} {xs : List M6} {w : World} (f A B C : Int) (b : Bool) (h : SRow lo hi 6 v xs.length (fm xs) w) (hn : xs.length ≤ 1048576) :
  Calls Tryz.prog 55 #[.int .i64 f, .agg #[.int .i64 A, .int .i64 B, .int .i64 C], v, .bool b] w fun e w' => e = .returned (.int .i64 (cod6 f A B C (b && grpB f A B C xs))) ∧ Below w.heap.size w w' := by
 have HA := Lib.hid h
 have HN := Lib.hid hn
 have L0 : Kt w.heap.size A B C (w.alloc (.cells #[.int .i64 A, .int .i64 B, .int .i64 C] 32)) := Kt.at _ rfl
 have B0 : Below w.heap.size w (w.alloc (.cells #[.int .i64 A, .int .i64 B, .int .i64 C] 32)) := (Below.refl _ _).alloc (Nat.le_refl _) _
 have L0c := L0.cells
 have CG : Hid (∀ W, Below w.heap.size w W → Calls Tryz.prog 71 #[.int .i64 f, .agg #[.int .i64 A, .int .i64 B, .int .i64 C], v] W fun e w' => e = .returned (.bool (grpB f A B C xs)) ∧ Below W.heap.size W w') := Lib.hid (fun W hW => specIsGroup_any f A B C (HA.out.grow hW HA.out.1) HN.out)
 have CC := Lib.hid (fun W => l06Code_any f A B C (b && grpB f A B C xs) W)
 obtain ⟨ao, cap, rfl⟩ := srow_shape h
 clear h hn
 rcases b with _ | _
 ·simp only [Bool.false_and] at CC ⊢
  generalize cod6 f A B C false = cc at CC ⊢
  clear CG
  go_enter Tryz.func55, Tryz.ntmps55
  go_wp2_with fail
  refine wp_region_held_drew (S := (fun W => (W.cell? ⟨w.heap.size, 0, none⟩ = some (.int .i64 A) ∧ W.cell? ⟨w.heap.size, 1, none⟩ = some (.int .i64 B) ∧ W.cell? ⟨w.heap.size, 2, none⟩ = some (.int .i64 C)))) (by kernel_rfl) ?_ (fun hHeld => ?_)
  ·exact L0.cells
  refine tkSb8 (i := 0) (v := ?_) (hy := Or.inl ⟨by rfl, ?_⟩) (h := ?_)
  rotate_left 1
  ·(intro w hSw; (try dsimp only at hSw); go_simp) <;> with_reducible rfl
  (try simp only [Act.put, List.setIfInBounds_toArray, List.set_cons_zero, List.set_cons_succ])
  refine tkSb8 (i := 1) (v := ?_) (hy := Or.inl ⟨by rfl, ?_⟩) (h := ?_)
  rotate_left 1
  ·(intro w hSw; (try dsimp only at hSw); go_simp) <;> with_reducible rfl
  (try simp only [Act.put, List.setIfInBounds_toArray, List.set_cons_zero, List.set_cons_succ])
  refine tkSb8 (i := 2) (v := ?_) (hy := Or.inl ⟨by rfl, ?_⟩) (h := ?_)
  rotate_left 1
  ·(intro w hSw; (try dsimp only at hSw); go_simp) <;> with_reducible rfl
  (try simp only [Act.put, List.setIfInBounds_toArray, List.set_cons_zero, List.set_cons_succ])
  refine tkSb8 (i := 3) (v := ?_) (hy := Or.inl ⟨by rfl, ?_⟩) (h := ?_)
  rotate_left 1
  ·(intro w hSw; (try dsimp only at hSw); go_simp) <;> with_reducible rfl
  (try simp only [Act.put, List.setIfInBounds_toArray, List.set_cons_zero, List.set_cons_succ])
  refine tkSb8 (i := 4) (v := undef) (hy := Or.inr ⟨by rfl, rfl⟩) (h := ?_)
  (try simp only [Act.put, List.setIfInBounds_toArray, List.set_cons_zero, List.set_cons_succ])
  refine tkSb8 (i := 5) (v := undef) (hy := Or.inr ⟨by rfl, rfl⟩) (h := ?_)
  (try simp only [Act.put, List.setIfInBounds_toArray, List.set_cons_zero, List.set_cons_succ])
  refine tkSb8 (i := 6) (v := undef) (hy := Or.inr ⟨by rfl, rfl⟩) (h := ?_)
  (try simp only [Act.put, List.setIfInBounds_toArray, List.set_cons_zero, List.set_cons_succ])
  refine tkSb8 (i := 7) (v := undef) (hy := Or.inr ⟨by rfl, rfl⟩) (h := ?_)
  (try simp only [Act.put, List.setIfInBounds_toArray, List.set_cons_zero, List.set_cons_succ])
  refine tkSb8 (i := 8) (v := ?_) (hy := Or.inl ⟨by rfl, ?_⟩) (h := ?_)
  rotate_left 1
  ·(intro w hSw; (try dsimp only at hSw); go_simp) <;> with_reducible rfl
  (try simp only [Act.put, List.setIfInBounds_toArray, List.set_cons_zero, List.set_cons_succ])
  refine wpAnyH_ready (rs := [9]) (by kernel_rfl) (by simp) ?_
  refine AllReadyH.cons (o := _) (by (simp only [List.getElem?_toArray, List.getElem?_cons_succ, List.getElem?_cons_zero]); rfl) (fun K hK => ?_) AllReadyH.nil
  go_simp
  go_at_call 84
  refine (CC.out _).mono ?_
  rintro e u1 ⟨rfl, hb1⟩
  have L1 : Kt (w.heap.size) A B C u1 := (by with_reducible exact pkSb82)
  have B1 : Below w.heap.size w u1 := (by with_reducible repeat (first | assumption | refine Below.drew ?_ | refine bstep ?_ (by assumption)))
  clear hb1
  go_wp2_with fail
  refine hK.out _ _ ?_ (fun hHeld => ?_)
  ·(try dsimp only)
   exact L1.cells
  clear hK K
  (try simp only [Act.put, List.setIfInBounds_toArray, List.set_cons_zero, List.set_cons_succ])
  refine tkSb8 (i := 10) (v := ?_) (hy := Or.inl ⟨by rfl, ?_⟩) (h := ?_)
  rotate_left 1
  ·(intro w hSw; (try dsimp only at hSw); go_simp) <;> with_reducible rfl
  (try simp only [Act.put, List.setIfInBounds_toArray, List.set_cons_zero, List.set_cons_succ])
  refine wpAnyH_done (by kernel_rfl) ?_ _
  go_wp2
  go_ret
  exact ⟨rfl, by exact pkSb80⟩
 ·simp only [Bool.true_and] at CC ⊢
  generalize grpB f A B C xs = r at CG CC ⊢
  generalize cod6 f A B C r = cc at CC ⊢
  go_enter Tryz.func55, Tryz.ntmps55
  go_wp2_with fail
  go_region_held3 (fun W => (W.cell? ⟨w.heap.size, 0, none⟩ = some (.int .i64 A) ∧ W.cell? ⟨w.heap.size, 1, none⟩ = some (.int .i64 B) ∧ W.cell? ⟨w.heap.size, 2, none⟩ = some (.int .i64 C))) ((refine Kt.cells ?_) <;> with_reducible exact pkSb82)
   (first
    | (go_at_call 71; with_reducible refine (CG.out _ (by exact pkSb81)).mono ?_; rintro e u1 ⟨rfl, hb1⟩; have L1 : Kt w.heap.size A B C u1 := (by with_reducible exact pkSb82); have B1 : Below w.heap.size w u1 := (by exact pkSb81))
    | (go_at_call 84; with_reducible refine (CC.out _).mono ?_; rintro e u2 ⟨rfl, hb2⟩; have L2 : Kt w.heap.size A B C u2 := (by with_reducible exact pkSb82); have B2 : Below w.heap.size w u2 := (by exact pkSb81)))
  all_goals
   go_wp2
   go_ret
   exact ⟨rfl, by exact pkSb80⟩

def GwPost (f A B C : Int) (xs : List M6) (r : Bool) (w : World) (e : Ending) (w' : World) : Prop :=
 ∃ v : Value, e = .returned (.tuple #[v, .int .i64 (cod6 f A B C r)]) ∧ (r = true → w'.ownsRow w.heap.size 136 6 v xs.length (cells6 xs)) ∧ (r = false → v = .slice none 0 0) ∧ Below w.heap.size w w'
set_option maxRecDepth 100000 in
set_option maxHeartbeats 8000000 in
theorem groupWithCells_any {lo hi lo' hi' : Nat} {v u : Value} {xs : List M6} {vs : List V2} {w : World} (f A B C : Int) (h : SRow lo hi 6 v xs.length (fm xs) w) (hn : xs.length ≤ 1048576) (hu : SRow lo' hi' 2 u vs.length (intAt (cells2 vs)) w) (hvn : vs.length ≤ 1000) (hU : UnitOK w) :
  Calls Tryz.prog 65 #[.int .i64 f, .agg #[.int .i64 A, .int .i64 B, .int .i64 C], v, u] w (GwPost f A B C xs (gwB f A B C xs vs) w) := by
 have HV := Lib.hid hu
 have L0 : Kt w.heap.size A B C (w.alloc (.cells #[.int .i64 A, .int .i64 B, .int .i64 C] 32)) := Kt.at _ rfl
 have B0 : Below w.heap.size w (w.alloc (.cells #[.int .i64 A, .int .i64 B, .int .i64 C] 32)) := (Below.refl _ _).alloc (Nat.le_refl _) _
 have A0 : SRow lo hi 6 v xs.length (fm xs) (w.alloc (.cells #[.int .i64 A, .int .i64 B, .int .i64 C] 32)) := h.grow ((Below.refl w.heap.size w).alloc (Nat.le_refl _) _) h.1
 have U0 : UnitOK (w.alloc (.cells #[.int .i64 A, .int .i64 B, .int .i64 C] 32)) := Kq.alloc hU _
 have L0c := L0.cells
 have CG := Lib.hid (groupOf_any f A B C A0 hn U0)
 obtain ⟨ao, cap, rfl⟩ := srow_shape hu
 have hv2 : (vs.length : Int) ≤ 1000 := by omega
 clear h hn hU A0 U0 hu hvn
 rcases cod6_cases f A B C xs with ⟨hg, hc⟩ | ⟨hg, hc⟩
 case inr =>
  have HG := Lib.hid hg
  have HR := Lib.hid (show gwB f A B C xs vs = false by simp [gwB, hg])
  rw [hg] at hc
  have HC : Hid (cod6 f A B C (grpB f A B C xs) = cod6 f A B C false) := Lib.hid (by rw [hg])
  clear hg
  rw [HR.out]
  go_enter Tryz.func65, Tryz.ntmps65
  go_wp2_with fail
  refine CG.out.mono ?_
  rintro e w1 ⟨v1, rfl, _, hv, hb1⟩
  rw [HC.out]
  have hv1 := hv HG.out
  subst hv1
  have B1 := bstep B0 hb1
  obtain ⟨cc, hcc⟩ : ∃ cc, cc = cod6 f A B C false := ⟨_, rfl⟩
  rw [← hcc] at hc ⊢
  have HCC := Lib.hid hcc.symm
  clear hv hb1 B0 L0 L0c CG HC HR hcc
  go_wp2
  go_ret2
  exact ⟨_, by rw [HCC.out]; rfl, fun h => (nomatch h), fun _ => rfl, B1⟩
 have HG := Lib.hid hg
 have HC := Lib.hid hc
 clear hg hc
 go_enter Tryz.func65, Tryz.ntmps65
 go_wp2_with fail
 refine CG.out.mono ?_
 rintro e w1 ⟨v1, rfl, hr, _, hb1⟩
 rw [HC.out]
 have O1 := Lib.hid (hr HG.out)
 have B1 := bstep B0 hb1
 have L1 := L0.call hb1
 have S1 := Lib.hid (HV.out.grow B1 HV.out.1)
 have z01 : w.heap.size < w1.heap.size := L1.1
 clear hr hb1 B0 L0 L0c CG
 go_wp2_with fail
 go_loopw [26] (fun s26 W => ∃ k : Nat, s26 = .int .i64 (k : Int) ∧ k ≤ vs.length ∧ (∀ i (h : i < vs.length), i < k → celB A C vs[i] = true) ∧ Below w1.heap.size w1 W) (fun s26 _ => vs.length - (intOf s26).toNat)
 case atStart => exact ⟨0, rfl, by omega, fun i _ h => by omega, Below.refl _ _⟩
 case round =>
  obtain ⟨k, rfl, hk, hP, hB⟩ := hrel
  by_cases hk1 : k < vs.length
  ·have hk2 : (k : Int) < (vs.length : Int) := by omega
   have hk3 : (k : Int) ≤ 1000 := by omega
   have hres := S1.out.2.2.resolve_left (fun h => by omega)
   have hhi := S1.out.1
   obtain ⟨g, cap', e9, _, hg, RA⟩ := hres
   simp only [Value.slice.injEq, true_and] at e9
   obtain ⟨rfl, rfl⟩ := e9
   have q1 := (RA.grow hB (by omega)).v27 k hk1
   have HK := Lib.hid hk1
   have HPP := Lib.hid hP
   have HT : Hid (celB A C vs[k] = true → ∀ i (h : i < vs.length), i < k + 1 → celB A C vs[i] = true) := Lib.hid (fun h i hi hik => by
    by_cases e : i = k
    ·subst e; exact h
    ·exact hP i hi (by omega))
   have HF : Hid (celB A C vs[k] = false → gwB f A B C xs vs = false) := Lib.hid (fun h => by
    unfold gwB
    rw [Bool.and_eq_false_iff]
    right
    exact List.all_eq_false.2 ⟨vs[k], List.getElem_mem hk1, by rw [h]; decide⟩)
   clear RA hg hhi hk hP
   generalize vs[k] = m at q1 HT HF
   clear hk1
   obtain ⟨p, q⟩ := m
   dsimp only at q1
   have q1c := q1.cells
   have L3 := L1.grow hB z01
   have L3c := (L3.alloc (.cells #[.int .i64 p, .int .i64 q] 55)).cells
   have V3 : Kg wr.heap.size p q (wr.alloc (.cells #[.int .i64 p, .int .i64 q] 55)) := Kg.at2 _ rfl
   have V3c := V3.cells
   have zB := hB.size
   have B3 : Below w1.heap.size w1 (wr.alloc (.cells #[.int .i64 p, .int .i64 q] 55)) := hB.alloc zB _
   have CH := Lib.hid (fun W => hasCell_any A B C p q W)
   rcases hc : celB A C (p, q) with _ | _
   ·rw [hc] at CH
    have HR := Lib.hid (HF.out hc)
    have HC2 := Lib.hid (cod6_rng HG.out)
    clear hc HF HT
    rw [HR.out]
    go_wp2_with fail
    refine (CH.out _).mono ?_
    rintro e w3 ⟨rfl, hb3⟩
    have B4 := B1.trans ((bstep B3 hb3).mono (Nat.le_of_lt z01))
    clear hb3 hB B3 q1 q1c L3 L3c V3 V3c zB CH
    go_wp2
    go_ret2
    exact ⟨_, by (first | rw [HR.out, HC2.out] | rw [HC2.out]); rfl, fun h => (by first | (rw [HR.out] at h; cases h) | cases h), fun _ => rfl, B4⟩
   ·rw [hc] at CH
    have HQ := Lib.hid (HT.out hc)
    clear hc HF HT
    go_wp2_with fail
    refine (CH.out _).mono ?_
    rintro e w3 ⟨rfl, hb3⟩
    have B4 := bstep B3 hb3
    clear hb3 hB B3 q1 q1c L3 L3c V3 V3c zB CH
    go_wp2
    go_roundw
    case rel => exact ⟨k + 1, by go_num, by have := HK.out; omega, HQ.out, B4⟩
    case measure => (have := HK.out); first | (simp [intOf]; done) | (simp [intOf]; omega)
  ·obtain rfl : k = vs.length := by omega
   have HR := Lib.hid (show gwB f A B C xs vs = true by
    unfold gwB
    rw [HG.out, Bool.true_and, List.all_eq_true]
    intro m hm
    obtain ⟨i, hi, rfl⟩ := List.getElem_of_mem hm
    exact hP i hi hi)
   have HC2 := Lib.hid (cod6_ok HG.out)
   have O9 := Lib.hid (ownsRow_lower (ownsRow_grow O1.out hB (Nat.le_refl _)) (show w.heap.size ≤ (w.alloc (.cells #[.int .i64 A, .int .i64 B, .int .i64 C] 32)).heap.size by simp))
   have B9 := B1.trans (hB.mono (Nat.le_of_lt z01))
   clear hk hk1 hP hB
   rw [HR.out]
   go_wp2
   go_ret2
   exact ⟨_, by (first | rw [HR.out, HC2.out] | rw [HC2.out]); rfl, fun _ => O9.out, fun h => (by first | (rw [HR.out] at h; cases h) | cases h), B9⟩

end Go.Proofs.YtdgophfembpniaaGreatDoor
