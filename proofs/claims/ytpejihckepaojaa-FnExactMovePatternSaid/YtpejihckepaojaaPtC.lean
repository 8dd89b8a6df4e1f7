/-
  How many cells have each colour, in the program and in the model. Condition: a slice that lies in a block of its own.
-/
import Derived.Test.YtpejihckepaojaaPtA
import Derived.BigRegion
namespace Go.Proofs.Ytpejihckepaojaa
open Go.RowKit
set_option linter.unusedSimpArgs false
set_option linter.unusedVariables false

def cntF (F : Nat → Int) : Nat → Nat → Int
  | 0, _ => 0
  | n + 1, c => if F n = (c : Int) then cntF F n c + 1 else cntF F n c
theorem cntF_bd (F : Nat → Int) : ∀ (n c : Nat), 0 ≤ cntF F n c ∧ cntF F n c ≤ n
  | 0, _ => by simp [cntF]
  | n + 1, c => by
    have h := cntF_bd F n c
    simp only [cntF]
    split <;> omega
abbrev LR := Nat × (Nat → Int) × Int
/- a call's answer: a row of numbers in new memory, and a code -/
def LAns (r : LR) (W : World) (e : Ending) (w' : World) : Prop :=
  ∃ (m : Nat) (G : Nat → Int) (c : Int) (v : Value), r = (m, G, c) ∧ e = .returned (.tuple #[v, .int .i64 c]) ∧ SRow W.heap.size w'.heap.size 1 v m G w' ∧ Below W.heap.size W w'
def cntA (f A B C : Int) (n : Nat) (F : Nat → Int) : LR := if patB f A B C n F = true then (10, cntF F n, 0) else (0, fun _ => 0, 1)
theorem cntA_len (f A B C : Int) (n : Nat) (F : Nat → Int) : (cntA f A B C n F).1 ≤ 10 := by unfold cntA; split <;> simp
theorem SRow.nil9 {lo : Nat} (F : Nat → Int) (W : World) : SRow lo W.heap.size 1 (.slice none 0 0) 0 F W := SRow.nil lo 1 F W
theorem made_zero9 (n : Nat) : ∀ u ∈ (madeCells (Value.cells (.int .i64 0)) (n * 1)).toList, u = .int .i64 0 := by
  intro u hu
  unfold madeCells at hu
  simp only [Value.cells] at hu
  rw [Array.mem_toList_iff, Array.mem_map] at hu
  obtain ⟨i, _, rfl⟩ := hu
  have h : ∀ j, j < 1 → (#[Value.int .i64 0] : Array Value)[j]! = .int .i64 0 := by
    intro j hj
    have : j = 0 := by omega
    subst this
    rfl
  exact h _ (Nat.mod_lt _ (by simp))
theorem made10 {W w1 : World} (h : w1.ownsRow W.heap.size 2 1 (.slice (some ⟨W.heap.size, 0, none⟩) 10 10) 10 (madeCells (Value.cells (.int .i64 0)) (10 * 1)).toList) : IRow W.heap.size 10 (fun _ => 0) w1 := by
  have hl := h.lt W.heap.size rfl
  refine ⟨hl.2, fun t ht => ⟨?_, h.frozenAt t⟩⟩
  rw [h.cellAt t (by omega), List.getElem?_eq_getElem (by rw [h.1]; omega)]
  exact congrArg some (made_zero9 10 _ (List.getElem_mem _))
set_option maxRecDepth 100000 in
set_option maxHeartbeats 8000000 in
theorem implCnt_any {lo hi n : Nat} {v : Value} {F : Nat → Int} {w : World} (f A B C : Int) (hv : SRow lo hi 1 v n F w) :
    Calls Try.prog 20 #[.agg #[.int .i64 f, .int .i64 A, .int .i64 B, .int .i64 C, v]] w (LAns (cntA f A B C n F) w) := by
  obtain ⟨i0, hinf, hz0, hz1, hz2⟩ := info_parts infoI64
  have R := Lib.hid hv
  obtain ⟨ao, cap, rfl⟩ := hv.slice
  clear hv
  have P0 : Bx w.heap.size [.int .i64 f, .int .i64 A, .int .i64 B, .int .i64 C, (.slice ao n cap)] (w.alloc (.cells #[.int .i64 f, .int .i64 A, .int .i64 B, .int .i64 C, .slice ao n cap] 31)) := Bx.at _ rfl
  have B0 : Below w.heap.size w (w.alloc (.cells #[.int .i64 f, .int .i64 A, .int .i64 B, .int .i64 C, .slice ao n cap] 31)) := (Below.refl _ _).alloc (Nat.le_refl _) _
  rcases h1 : patB f A B C n F with _ | _
  · have EA := Lib.hid (show cntA f A B C n F = (0, fun _ => 0, 1) by simp [cntA, h1])
    go_enter Try.func20, Try.ntmps20
    go_wp2_with fail
    with_reducible refine (patValid_any f A B C (R.out.call B0)).mono ?_
    rintro e w1 ⟨rfl, hb1⟩
    rw [h1]
    have P1 := P0.call hb1
    have B1 := bstep B0 hb1
    clear P0 B0 hb1
    have p1c0 := P1.c0
    have p1c1 := P1.c1
    have p1c2 := P1.c2
    have p1c3 := P1.c3
    have p1c4 := P1.c4
    have p1l := P1.lt
    go_wp2
    go_ret2
    exact ⟨_, _, _, _, EA.out, rfl, SRow.nil9 _ _, B1⟩
  · have EA := Lib.hid (show cntA f A B C n F = (10, cntF F n, 0) by simp [cntA, h1])
    obtain ⟨p, q, rfl, rfl, hp⟩ := patB_of h1
    obtain ⟨_, _, _, _, hn64, hn1⟩ := hp.bd
    have HC := Lib.hid hp.col
    clear hp
    have hni : (n : Int) ≤ 64 := by omega
    go_enter Try.func20, Try.ntmps20
    go_wp2_with fail
    with_reducible refine (patValid_any f (p : Int) B (q : Int) (R.out.call B0)).mono ?_
    rintro e w1 ⟨rfl, hb1⟩
    rw [h1]
    have P1 := P0.call hb1
    have B1 := bstep B0 hb1
    clear P0 B0 hb1
    have p1c0 := P1.c0
    have p1c1 := P1.c1
    have p1c2 := P1.c2
    have p1c3 := P1.c3
    have p1c4 := P1.c4
    have p1l := P1.lt
    go_wp2_with (refine wpList_make_full _ rfl _ _ _ rfl w1.heap.size 2 i0 (.int .i64 0) 1 Try.underlying24 hinf hz0 hz1 .i64 .i64 _ _ 10 rfl rfl rfl rfl (by rw [hz2]; omega) (by unfold maxLen; omega) (Nat.le_refl _) ?_; intro w2 hown2 hgr2; have B2' : Below w1.heap.size w1 w2 := Below.grown (Below.refl _ _) hgr2 (Nat.le_refl _) (fun r hr => by cases hr); have P2 := P1.call B2'; have p2c4 := P2.c4; have p2l := P2.lt)
    have R2 := made10 hown2
    have hbs := B1.size
    have hw1 : w.heap.size < w1.heap.size := P1.lt
    have B2 := bstep B1 B2'
    have C2 : Below w1.heap.size w1 w2 := B2'
    clear hown2 hgr2 B2' P1 B1 p1c0 p1c1 p1c2 p1c3 p1c4 p1l
    (try go_wp2_with fail)
    go_loopw [6, 14] (fun _ s X => ∃ k : Nat, s = .int .i64 (k : Int) ∧ k ≤ n ∧ IRow w1.heap.size 10 (cntF F k) X ∧ Bx w.heap.size [.int .i64 f, .int .i64 (p : Int), .int .i64 B, .int .i64 (q : Int), (.slice ao n cap)] X ∧ Below w.heap.size w X ∧ w1.heap.size ≤ X.heap.size) (fun _ s _ => n - (intOf s).toNat)
    case atStart => exact ⟨0, rfl, by omega, R2.ext (fun _ _ => rfl), P2, B2, C2.size⟩
    case round =>
      clear R2 P2 B2 C2 p2c4 p2l
      obtain ⟨k, rfl, hk, R3, P3, B3, hz3⟩ := hrel
      have p3c4 := P3.c4
      have p3l := P3.lt
      by_cases hk1 : k < n
      · have hk2 : (k : Int) < (n : Int) := by omega
        obtain ⟨_, _, hr⟩ := R.out.call B3
        obtain ⟨g, cap', e, _, _, r⟩ := hr.resolve_left (fun h => by omega)
        simp only [Value.slice.injEq] at e
        obtain ⟨rfl, _, rfl⟩ := e
        clear hr
        have hgl := r.1
        obtain ⟨c, hc⟩ : ∃ c : Nat, (c : Int) = F k := ⟨(F k).toNat, by have := HC.out k hk1; omega⟩
        have hc10 : c < 10 := by have := HC.out k hk1; omega
        have hci : (c : Int) < 10 := by omega
        have c0 := r.at k (by omega)
        rw [← hc] at c0
        have r0 := R3.at c hc10
        have rf := R3.free c hc10
        have rl := R3.1
        obtain ⟨z, hz⟩ : ∃ z, z = cntF F k c := ⟨_, rfl⟩
        rw [← hz] at r0
        have hzb : 0 ≤ z ∧ z ≤ 64 := by rw [hz]; have := cntF_bd F k c; omega
        have HCZ := Lib.hid (And.intro hc hz)
        clear hc hz r
        go_wp2
        go_roundw
        case rel =>
          refine ⟨k + 1, by go_num, by omega, IRow.ext (R3.put c hc10 (z + 1)) ?_, P3.far (by dsimp only; omega), B3.setCell (by dsimp only; omega) _, by first | exact hz3 | simpa [World.setCell] using hz3⟩
          intro t ht
          simp only [cntF]
          by_cases e0 : t = c
          · subst e0; rw [if_pos rfl, if_pos HCZ.out.1.symm, HCZ.out.2]
          · rw [if_neg e0, if_neg (fun h => e0 (by have := HCZ.out.1; omega))]
        case measure => first | (simp [intOf]; done) | (simp [intOf]; omega)
      · obtain rfl : k = n := by omega
        have rl := R3.1
        go_wp2
        go_ret2
        exact ⟨_, _, _, _, EA.out, rfl, ⟨Nat.le_refl _, by omega, .inr ⟨w1.heap.size, 10, rfl, by omega, rl, R3⟩⟩, B3⟩
set_option maxRecDepth 100000 in
set_option maxHeartbeats 8000000 in
theorem specCnt_any {lo hi n : Nat} {v : Value} {F : Nat → Int} {w : World} (f A B C : Int) (hv : SRow lo hi 1 v n F w) :
    Calls Try.prog 19 #[.agg #[.int .i64 f, .int .i64 A, .int .i64 B, .int .i64 C, v]] w (LAns (cntA f A B C n F) w) := by
  obtain ⟨i0, hinf, hz0, hz1, hz2⟩ := info_parts infoI64
  have R := Lib.hid hv
  obtain ⟨ao, cap, rfl⟩ := hv.slice
  clear hv
  have P0 : Bx w.heap.size [.int .i64 f, .int .i64 A, .int .i64 B, .int .i64 C, (.slice ao n cap)] (w.alloc (.cells #[.int .i64 f, .int .i64 A, .int .i64 B, .int .i64 C, .slice ao n cap] 31)) := Bx.at _ rfl
  have B0 : Below w.heap.size w (w.alloc (.cells #[.int .i64 f, .int .i64 A, .int .i64 B, .int .i64 C, .slice ao n cap] 31)) := (Below.refl _ _).alloc (Nat.le_refl _) _
  rcases h1 : patB f A B C n F with _ | _
  · have EA := Lib.hid (show cntA f A B C n F = (0, fun _ => 0, 1) by simp [cntA, h1])
    go_enter Try.func19, Try.ntmps19
    go_wp2_with fail
    with_reducible refine (specIsPat_any f A B C (R.out.call B0)).mono ?_
    rintro e w1 ⟨rfl, hb1⟩
    rw [h1]
    have P1 := P0.call hb1
    have B1 := bstep B0 hb1
    clear P0 B0 hb1
    have p1c0 := P1.c0
    have p1c1 := P1.c1
    have p1c2 := P1.c2
    have p1c3 := P1.c3
    have p1c4 := P1.c4
    have p1l := P1.lt
    go_wp2
    go_ret2
    exact ⟨_, _, _, _, EA.out, rfl, SRow.nil9 _ _, B1⟩
  · have EA := Lib.hid (show cntA f A B C n F = (10, cntF F n, 0) by simp [cntA, h1])
    obtain ⟨p, q, rfl, rfl, hp⟩ := patB_of h1
    obtain ⟨_, _, _, _, hn64, hn1⟩ := hp.bd
    have HC := Lib.hid hp.col
    clear hp
    have hni : (n : Int) ≤ 64 := by omega
    go_enter Try.func19, Try.ntmps19
    go_wp2_with fail
    with_reducible refine (specIsPat_any f (p : Int) B (q : Int) (R.out.call B0)).mono ?_
    rintro e w1 ⟨rfl, hb1⟩
    rw [h1]
    have P1 := P0.call hb1
    have B1 := bstep B0 hb1
    clear P0 B0 hb1
    have p1c0 := P1.c0
    have p1c1 := P1.c1
    have p1c2 := P1.c2
    have p1c3 := P1.c3
    have p1c4 := P1.c4
    have p1l := P1.lt
    go_wp2_with (refine wpList_make_full _ rfl _ _ _ rfl w1.heap.size 2 i0 (.int .i64 0) 1 Try.underlying24 hinf hz0 hz1 .i64 .i64 _ _ 10 rfl rfl rfl rfl (by rw [hz2]; omega) (by unfold maxLen; omega) (Nat.le_refl _) ?_; intro w2 hown2 hgr2; have B2' : Below w1.heap.size w1 w2 := Below.grown (Below.refl _ _) hgr2 (Nat.le_refl _) (fun r hr => by cases hr); have P2 := P1.call B2'; have p2c4 := P2.c4; have p2l := P2.lt)
    have R2 := made10 hown2
    have hbs := B1.size
    have hw1 : w.heap.size < w1.heap.size := P1.lt
    have B2 := bstep B1 B2'
    have C2 : Below w1.heap.size w1 w2 := B2'
    clear hown2 hgr2 B2' P1 B1 p1c0 p1c1 p1c2 p1c3 p1c4 p1l
    (try go_wp2_with fail)
    go_loopw [5] (fun s X => ∃ k : Nat, s = .int .i64 (k : Int) ∧ k ≤ n ∧ IRow w1.heap.size 10 (cntF F k) X ∧ Bx w.heap.size [.int .i64 f, .int .i64 (p : Int), .int .i64 B, .int .i64 (q : Int), (.slice ao n cap)] X ∧ Below w.heap.size w X ∧ w1.heap.size ≤ X.heap.size) (fun s _ => n - (intOf s).toNat)
    case atStart => exact ⟨0, rfl, by omega, R2.ext (fun _ _ => rfl), P2, B2, C2.size⟩
    case round =>
      clear R2 P2 B2 C2 p2c4 p2l
      obtain ⟨k, rfl, hk, R3, P3, B3, hz3⟩ := hrel
      have p3c4 := P3.c4
      have p3l := P3.lt
      by_cases hk1 : k < n
      · have hk2 : (k : Int) < (n : Int) := by omega
        obtain ⟨_, _, hr⟩ := R.out.call B3
        obtain ⟨g, cap', e, _, _, r⟩ := hr.resolve_left (fun h => by omega)
        simp only [Value.slice.injEq] at e
        obtain ⟨rfl, _, rfl⟩ := e
        clear hr
        have hgl := r.1
        obtain ⟨c, hc⟩ : ∃ c : Nat, (c : Int) = F k := ⟨(F k).toNat, by have := HC.out k hk1; omega⟩
        have hc10 : c < 10 := by have := HC.out k hk1; omega
        have hci : (c : Int) < 10 := by omega
        have c0 := r.at k (by omega)
        rw [← hc] at c0
        have r0 := R3.at c hc10
        have rf := R3.free c hc10
        have rl := R3.1
        obtain ⟨z, hz⟩ : ∃ z, z = cntF F k c := ⟨_, rfl⟩
        rw [← hz] at r0
        have hzb : 0 ≤ z ∧ z ≤ 64 := by rw [hz]; have := cntF_bd F k c; omega
        have HCZ := Lib.hid (And.intro hc hz)
        clear hc hz r
        go_wp2_with fail
        go_region
        go_wp2
        go_roundw
        case rel =>
          refine ⟨k + 1, by go_num, by omega, IRow.ext (R3.drewP.put c hc10 (z + 1)) ?_, P3.drew.far (by dsimp only; omega), B3.drew.setCell (by dsimp only; omega) _, by first | exact hz3 | simpa [World.setCell] using hz3⟩
          intro t ht
          simp only [cntF]
          by_cases e0 : t = c
          · subst e0; rw [if_pos rfl, if_pos HCZ.out.1.symm, HCZ.out.2]
          · rw [if_neg e0, if_neg (fun h => e0 (by have := HCZ.out.1; omega))]
        case measure => first | (simp [intOf]; done) | (simp [intOf]; omega)
      · obtain rfl : k = n := by omega
        have rl := R3.1
        go_wp2
        go_ret2
        exact ⟨_, _, _, _, EA.out, rfl, ⟨Nat.le_refl _, by omega, .inr ⟨w1.heap.size, 10, rfl, by omega, rl, R3⟩⟩, B3⟩
end Go.Proofs.Ytpejihckepaojaa
