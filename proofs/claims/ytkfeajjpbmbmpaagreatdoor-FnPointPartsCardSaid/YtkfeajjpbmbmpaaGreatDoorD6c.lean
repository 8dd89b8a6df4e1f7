/-
  The draw of a frame, a lattice and a list of motions, mostly a group (the model's l06Draw): it returns a list of at most 769 motions in a row of its own, and turns nothing that was there but the source. Condition: the source's bytes can be read.
-/
import Derived.Test.YtkfeajjpbmbmpaaGreatDoorD6b
import Derived.Test.YtkfeajjpbmbmpaaGreatDoorD6g
import Derived.Test.YtkfeajjpbmbmpaaGreatDoorMc6
import Derived.Test.YtkfeajjpbmbmpaaGreatDoorGh
import Derived.Test.YtkfeajjpbmbmpaaGreatDoorGk
import Derived.Deep.RegionHeld3
import Derived.IntWalk
namespace Go.Proofs.YtkfeajjpbmbmpaaGreatDoor
open Go.RowKit
set_option linter.unusedSimpArgs false
set_option linter.unusedVariables false

theorem own_only {W w1 : World} {base p n size : Nat} {e : TypeId} {v : Value} {xs : List Value} (h : W.ownsRow base e size v n xs) (o : Only p W w1) (hp : p < base) : w1.ownsRow base e size v n xs := by
  rcases h.2 with h' | ⟨g, cap, cur, rfl, r1, r2, r3⟩
  · exact ⟨h.1, .inl h'⟩
  · exact ⟨h.1, .inr ⟨g, cap, cur, rfl, r1, (o.block g (Array.getElem?_eq_some_iff.1 r2).1 (by omega)).trans r2, r3⟩⟩
theorem Kt.onlyD {R p : Nat} {a b c : Int} {W w1 : World} (h : Kt R a b c W) (o : Only p W w1) (hp : R ≠ p) : Kt R a b c w1 :=
  ⟨Nat.lt_of_lt_of_le h.1 o.size, by rw [o.cell h.1 hp]; exact h.c0, by rw [o.cell h.1 hp]; exact h.c1, by rw [o.cell h.1 hp]; exact h.c2⟩
def NextD (m : Nat) (p : Nat) (a0 : Option Addr) (len cap : Nat) (w : World) (e : Ending) (w' : World) : Prop :=
  ∃ k : Nat, e = .returned (.int .i64 k) ∧ k < m ∧ Src p a0 len cap w' ∧ Only p w w'
theorem next_lt (m p : Nat) (a0 : Option Addr) (len cap : Nat) (w : World) (h : Src p a0 len cap w) (hm : 1 ≤ m) :
    Calls Tryz.prog 122 #[.pointer (some ⟨p, 0, none⟩), .int .i64 (m : Int)] w (NextD m p a0 len cap w) := by
  by_cases h0 : m = 1
  · subst h0
    go_enter Tryz.func122, Tryz.ntmps122
    go_wp2
    go_ret
    exact ⟨0, rfl, Nat.lt_succ_self 0, h, Only.refl _ _⟩
  · refine (next_any (m : Int) p a0 len cap w h).mono ?_
    rintro e w1 ⟨x, rfl, x0, x1, S, O⟩
    obtain ⟨k, rfl⟩ := Int.eq_ofNat_of_zero_le x0
    exact ⟨k, rfl, by have := x1 (by omega); omega, S, O⟩
theorem one_srow (W : World) (a b c d x y : Int) : SRow W.heap.size (W.heap.size + 1) 6 (.slice (some ⟨W.heap.size, 0, none⟩) 1 1) ([(a, b, c, d, x, y)] : List M6).length (fm [(a, b, c, d, x, y)]) (W.alloc (.cells #[.int .i64 a, .int .i64 b, .int .i64 c, .int .i64 d, .int .i64 x, .int .i64 y] 37)) := by
  have h := SRow.of6 (KOw.one (W := W) (base := W.heap.size) (T := 37) (a, b, c, d, x, y) rfl (Nat.le_refl _)) (by simp)
  simpa using h
def GrPost (p : Nat) (a0 : Option Addr) (len cap : Nat) (w : World) (e : Ending) (w' : World) : Prop :=
  ∃ (f A B C : Int) (v : Value) (n : Nat) (F : Nat → Int), e = .returned (.tuple #[.int .i64 f, .agg #[.int .i64 A, .int .i64 B, .int .i64 C], v]) ∧ n ≤ 769 ∧ SRow w.heap.size w'.heap.size 6 v n F w' ∧ Src p a0 len cap w' ∧ Only p w w'
theorem Kt.farX {g : Nat} {a b c : Int} {W : World} {q : Addr} {u : Value} (hq : q.block ≠ g) (h : Kt g a b c W) : Kt g a b c (W.setCell q u) :=
  ⟨by simpa [World.setCell] using h.1, (World.cell?_of_block (Below.heap_setCell _ _ _ g (fun e => hq e.symm))).trans h.c0, (World.cell?_of_block (Below.heap_setCell _ _ _ g (fun e => hq e.symm))).trans h.c1, (World.cell?_of_block (Below.heap_setCell _ _ _ g (fun e => hq e.symm))).trans h.c2⟩
theorem SRow.lower7X {lo lo' hi K n : Nat} {v : Value} {F : Nat → Int} {W : World} (h : SRow lo hi K v n F W) (hl : lo' ≤ lo) : SRow lo' hi K v n F W := by
  obtain ⟨h1, h2, h3⟩ := h
  refine ⟨h1, h2, h3.imp id ?_⟩
  rintro ⟨g, cap, e, a, b, r⟩
  exact ⟨g, cap, e, by omega, b, r⟩
theorem SRow.upX {lo hi K n : Nat} {F : Nat → Int} {v : Value} {W : World} (h : SRow lo hi K v n F W) : SRow lo W.heap.size K v n F W := by
  obtain ⟨h1, h2, h3⟩ := h
  refine ⟨Nat.le_refl _, h2, h3.imp id ?_⟩
  rintro ⟨g, cap, e, a, b, r⟩
  exact ⟨g, cap, e, a, by omega, r⟩
theorem SRow.putX {lo hi K n : Nat} {F : Nat → Int} {v : Value} {W : World} {q : Addr} (hq : q.block < lo) (u : Value) (h : SRow lo hi K v n F W) : SRow lo hi K v n F (W.setCell q u) := by
  obtain ⟨h1, h2, h3⟩ := h
  refine ⟨by simpa [World.setCell] using h1, h2, h3.imp id ?_⟩
  rintro ⟨g, cap, e, a, b, r⟩
  refine ⟨g, cap, e, a, b, by simpa [World.setCell] using r.1, fun t ht => ?_⟩
  have hb := Below.heap_setCell W q u g (by omega)
  exact ⟨(World.cell?_of_block (w := W) hb).trans (r.2 t ht).1, (World.frozen?_of_block (w := W) hb).trans (r.2 t ht).2⟩
theorem SRow.drewX {lo hi K n : Nat} {F : Nat → Int} {v : Value} {W : World} (h : SRow lo hi K v n F W) : SRow lo hi K v n F W.drew := h.call (Below.refl _ _).drew
set_option maxRecDepth 100000 in
set_option maxHeartbeats 16000000 in
theorem drawGr_any (p : Nat) (a0 : Option Addr) (len cap : Nat) (w : World) (h : Src p a0 len cap w) :
    Calls Tryz.prog 132 #[.pointer (some ⟨p, 0, none⟩)] w (GrPost p a0 len cap w) := by
  obtain ⟨i0, hinf, hz0, hz1, hz2⟩ := info_parts infoMo6
  have hp := h.lt
  have hne : w.heap.size ≠ p := by omega
  go_enter Tryz.func132, Tryz.ntmps132
  go_wp2_with fail
  refine (drawFL_any p a0 len cap _ (h.alloc _)).mono ?_
  rintro e w1 ⟨f, A, B, C, rfl, S1, O1⟩
  have Z1 : KL w.heap.size 0 0 0 w1 := KL.only (KL.at _ rfl) O1 hne
  have P1 : Only p w w1 := ((Only.refl _ _).alloc _).trans O1
  have z1 : w.heap.size < w1.heap.size := Z1.lt
  clear O1 h
  have J2 : Kt w1.heap.size A B C ((w1.alloc (.cells #[.int .i64 A, .int .i64 B, .int .i64 C] 25)).alloc (.cells #[] 37)) := (Kt.at _ rfl).alloc _
  have Z2 : KL w.heap.size 0 0 0 ((w1.alloc (.cells #[.int .i64 A, .int .i64 B, .int .i64 C] 25)).alloc (.cells #[] 37)) := (Z1.alloc _).alloc _
  have S2 : Src p a0 len cap ((w1.alloc (.cells #[.int .i64 A, .int .i64 B, .int .i64 C] 25)).alloc (.cells #[] 37)) := (S1.alloc _).alloc _
  have P2 : Only p w ((w1.alloc (.cells #[.int .i64 A, .int .i64 B, .int .i64 C] 25)).alloc (.cells #[] 37)) := (P1.alloc _).alloc _
  have Q2 : ((w1.alloc (.cells #[.int .i64 A, .int .i64 B, .int .i64 C] 25)).alloc (.cells #[] 37)).ownsRow (w1.heap.size + 1) 37 6 (.slice (some ⟨w1.heap.size + 1, 0, none⟩) 0 0) ([] : List M6).length (cells6 []) := by
    have h := World.ownsRow_lit (base := w1.heap.size + 1) (e := 37) (size := 6) (w1.alloc (.cells #[.int .i64 A, .int .i64 B, .int .i64 C] 25)) #[] 0 (by simp) (by unfold maxLen; omega) rfl
    simpa [cells6] using h
  obtain ⟨j0, j1, j2, j3⟩ := id J2
  go_wp2_with fail
  with_reducible refine (l04Code_any f A B C _).mono ?_
  rintro e w3 ⟨rfl, hb3⟩
  have J3 := J2.call hb3
  have Z3 := Z2.call hb3
  have S3 := S2.call hb3
  have P3 := P2.then hb3
  have Q3 := ownsRow_call Q2 hb3
  clear J2 Z2 S2 P2 Q2 hb3 j0 j1 j2 j3 S1 P1 Z1
  have hglp : w1.heap.size ≠ p := by omega
  have hpg : p < w1.heap.size + 1 := by omega
  generalize hgl : w1.heap.size = gl at *
  unfold flC
  rcases hfl : flB f A B C with _ | _
  · simp only [cond_false]
    have SR3 : Hid (SRow (gl + 1) w3.heap.size 6 (.slice (some ⟨gl + 1, 0, none⟩) 0 0) 0 (fun _ => 0) w3) := Lib.hid ⟨Nat.le_refl _, by omega, .inl ⟨rfl, _, _, rfl⟩⟩
    clear Q3
    have j9c := J3.cells
    have j9l := J3.1
    obtain ⟨z0, z1, z2, z3, z4, z5, z6⟩ := id Z3
    have hsl9 := S3.lt
    go_wp2_with fail
    go_region_held3 (fun W => (W.cell? ⟨gl, 0, none⟩ = some (.int .i64 A) ∧ W.cell? ⟨gl, 1, none⟩ = some (.int .i64 B) ∧ W.cell? ⟨gl, 2, none⟩ = some (.int .i64 C))) ((refine Kt.cells ?_; repeat (first | with_reducible assumption | with_reducible refine Kt.drew ?_ | (with_reducible refine Kt.farX (by first | omega | (dsimp only; omega)) ?_))))
      (fail)
    all_goals
      go_wp2
      refine bodyPost_ret (v := .tuple #[.int .i64 f, .agg #[.int .i64 A, .int .i64 B, .int .i64 C], (.slice (some ⟨gl + 1, 0, none⟩) 0 0)]) (by simp [results, Tryz.results132, go_sem, *]) rfl ⟨f, A, B, C, (.slice (some ⟨gl + 1, 0, none⟩) 0 0), 0, (fun _ => 0), rfl, by omega, ?_, ?_, ?_⟩
      · refine SRow.upX (hi := w3.heap.size) (SRow.lower7X (lo := gl + 1) ?_ (by omega))
        repeat (first | with_reducible exact SR3.out | with_reducible refine SRow.putX (by first | omega | (dsimp only; omega)) _ ?_ | with_reducible refine SRow.drewX ?_)
      · repeat (first | with_reducible assumption | (with_reducible refine Src.put (by first | omega | (simp; omega)) ?_) | with_reducible refine Src.alloc ?_ _ | with_reducible refine Src.drew ?_)
      · repeat (first | with_reducible assumption | (with_reducible refine Only.put ?_ (by first | exact Nat.le_refl _ | omega | (simp; omega)) _) | with_reducible refine Only.alloc ?_ _ | with_reducible refine Only.drew ?_)
  · have hla : latI A B C := by simp only [flB, Bool.and_eq_true] at hfl; exact latB_iff.1 hfl.2
    have hfr : frB f = true := by simp only [flB, Bool.and_eq_true] at hfl; exact hfl.1
    have HFL := Lib.hid hfl
    have HLA := Lib.hid hla
    have HG : Hid (∀ {a b c d x y : Int}, (flB f A B C = true → (a, b, c, d) ∈ stabL f A B C ∧ vecB x y = true) → okM f A B C (a, b, c, d, x, y) = true) := Lib.hid (fun h => drawn_ok hfl (h hfl).1 (h hfl).2)
    simp only [cond_true]
    go_wp2_with fail
    with_reducible refine (next_any _ p a0 len cap _ S3).mono ?_
    rintro e w4 ⟨x, rfl, x0, x1, S4, O4'⟩
    have x2 := x1 (by omega)
    obtain ⟨k0, rfl⟩ : ∃ k : Nat, x = (k : Int) := ⟨x.toNat, by omega⟩
    have J4 := J3.onlyD O4' hglp
    have Z4 := Z3.only O4' hne
    have P4 := P3.trans O4'
    have Q4 := own_only Q3 O4' hpg
    clear J3 Z3 S3 P3 Q3 O4' x1
    go_wp2_with fail
    go_loopw [7, 8] (fun v n W => ∃ (k : Nat) (R : List M6), n = .int .i64 (k : Int) ∧ k + R.length ≤ 2 ∧ GoodR f A B C R ∧ W.ownsRow (gl + 1) 37 6 v R.length (cells6 R) ∧ Kt gl A B C W ∧ KL w.heap.size 0 0 0 W ∧ Src p a0 len cap W ∧ Only p w W) (fun _ n _ => (intOf n).toNat)
    case atStart => exact ⟨k0, [], rfl, by simp; omega, (fun r hr => by cases hr), Q4, J4, Z4, S4, P4⟩
    case round =>
      clear Q4 J4 Z4 S4 P4 x0 x2 hla hfl
      obtain ⟨k, R, rfl, hk, hR, Q5, J5, Z5, S5, P5⟩ := hrel
      have HT : Hid (R.length ≤ 2) := Lib.hid (by omega)
      have HR := Lib.hid hR
      clear hR
      by_cases hk0 : (0 : Int) < (k : Int)
      · have HKK := Lib.hid hk
        have HK0 := Lib.hid hk0
        have j5c := J5.cells
        have jl := J5.1
        go_wp2_with fail
        go_region_held3 (fun W => (W.cell? ⟨gl, 0, none⟩ = some (.int .i64 A) ∧ W.cell? ⟨gl, 1, none⟩ = some (.int .i64 B) ∧ W.cell? ⟨gl, 2, none⟩ = some (.int .i64 C))) ((refine Kt.cells ?_; repeat (first | with_reducible assumption | with_reducible refine Kt.drew ?_ | with_reducible refine Kt.alloc ?_ _ | with_reducible refine Kt.call ?_ (by with_reducible assumption))))
          (first
            | (go_at_call 152; ((with_reducible refine (drawDM_any f A B C p a0 len cap _ ?_).mono ?_); (repeat (first | with_reducible exact S5 | with_reducible refine Src.drew ?_ | with_reducible refine Src.alloc ?_ _))); rintro e u1 ⟨a, b, c, d, x, y, rfl, hgd, T1, V1⟩; have hok := Lib.hid (HG.out hgd); have hmi := Lib.hid (drawn_mid (hgd HFL.out).2); have J1 : Kt gl A B C u1 := (Kt.onlyD (by (repeat (first | with_reducible exact J5 | with_reducible refine Kt.drew ?_ | with_reducible refine Kt.alloc ?_ _))) V1 hglp); have Z1 : KL w.heap.size 0 0 0 u1 := (KL.only (by (repeat (first | with_reducible exact Z5 | with_reducible refine KL.drew ?_ | with_reducible refine KL.alloc ?_ _))) V1 hne); have Q1 : u1.ownsRow (gl + 1) 37 6 u7 R.length (cells6 R) := (own_only (by (repeat (first | with_reducible exact Q5 | with_reducible refine ownsRow_call ?_ (Below.drew (Below.refl _ _)) | with_reducible refine ownsRow_call ?_ (Below.alloc (Below.refl _ _) (Nat.le_refl _) _)))) V1 hpg); have P1 : Only p w u1 := (Only.trans (by (repeat (first | with_reducible exact P5 | with_reducible refine Only.drew ?_ | with_reducible refine Only.alloc ?_ _))) V1); have zz1 : gl + 1 ≤ u1.heap.size := J1.1)
            | (go_at_call 157; ((with_reducible refine (l06Reduce_any A B C a b c d x y _ HLA.out hmi.out.1 hmi.out.2).mono ?_); rintro e u2 ⟨rfl, hb2⟩; have J2 : Kt gl A B C u2 := (Kt.call (by (repeat (first | with_reducible exact J1 | with_reducible refine Kt.drew ?_ | with_reducible refine Kt.alloc ?_ _))) hb2); have Z2 : KL w.heap.size 0 0 0 u2 := (KL.call (by (repeat (first | with_reducible exact Z1 | with_reducible refine KL.drew ?_ | with_reducible refine KL.alloc ?_ _))) hb2); have Q2 : u2.ownsRow (gl + 1) 37 6 u7 R.length (cells6 R) := (ownsRow_call (by (repeat (first | with_reducible exact Q1 | with_reducible refine ownsRow_call ?_ (Below.drew (Below.refl _ _)) | with_reducible refine ownsRow_call ?_ (Below.alloc (Below.refl _ _) (Nat.le_refl _) _)))) hb2); have P2 : Only p w u2 := (Only.then (by (repeat (first | with_reducible exact P1 | with_reducible refine Only.drew ?_ | with_reducible refine Only.alloc ?_ _))) hb2); have T2 : Src p a0 len cap u2 := (Src.call (by (repeat (first | with_reducible exact T1 | with_reducible refine Src.drew ?_ | with_reducible refine Src.alloc ?_ _))) hb2); have zz2 : gl + 1 ≤ u2.heap.size := J2.1))
            | (rw [if_pos (by rfl)]; refine wp_append_own _ _ _ 48 rfl (gl + 1) 37 i0 (.agg #[.int .i64 0, .int .i64 0, .int .i64 0, .int .i64 0, .int .i64 0, .int .i64 0]) 6 48 Tryz.underlying48 hinf hz0 hz1 hz2 rfl (by decide) _ _ _ rfl (Q2.alloc _) ⟨u2.heap.size, 0, none⟩ 1 1 [.int .i64 a, .int .i64 b, .int .i64 c, .int .i64 d, .int .i64 (redX A B C x y), .int .i64 (redY C y)] rfl rfl (new_six _ _ _ _ _ _ _ rfl) one_six (by have := HT.out; unfold maxLen; omega) (by have := HT.out; omega) (by (try simp); omega) ?_; intro v9 w9 hown9 hgrow _; have Q9 : w9.ownsRow (gl + 1) 37 6 v9 (R ++ [(a, b, c, d, redX A B C x y, redY C y)]).length (cells6 (R ++ [(a, b, c, d, redX A B C x y, redY C y)])) := own_next6 hown9; have hb9 : Below (gl + 1) (u2.alloc (.cells #[.int .i64 a, .int .i64 b, .int .i64 c, .int .i64 d, .int .i64 (redX A B C x y), .int .i64 (redY C y)] 37)) w9 := Below.grown (Below.refl _ _) hgrow (by simp; omega) (fun r hr => by have := (Q2.lt r hr).1; omega); have J9 : Kt gl A B C w9 := Kt.grow (J2.alloc _) hb9 (by omega); have Z9 : KL w.heap.size 0 0 0 w9 := KL.grow (Z2.alloc _) hb9 (by omega); have T9 : Src p a0 len cap w9 := Src.grow (T2.alloc _) hb9 (by omega); have P9 : Only p w w9 := Only.thenB (P2.alloc _) (by omega) hb9))
        all_goals
          go_wp2
          go_roundw
          case rel => exact ⟨k - 1, _, by (have := HK0.out; first | (rw [show ((k - 1 : Nat) : Int) = (k : Int) - 1 by omega]; done) | go_num), by simp; (have := HKK.out; have := HK0.out; omega), good_snoc HR.out (drawn_good HLA.out hok.out), Q9, J9, Z9, T9, P9⟩
          case measure => (have := HK0.out); first | (simp [intOf]; done) | (simp [intOf]; omega)
      · obtain rfl : k = 0 := by omega
        have SR := SRow.of6 Q5 (by have := HT.out; omega)
        have hl81 : R.length ≤ 1048576 := by have := HT.out; omega
        have j5c := J5.cells
        have jl := J5.1
        go_wp2_with fail
        with_reducible refine (l06Close_any f A B C hfr HLA.out HR.out SR hl81).mono ?_
        rintro e w5 ⟨g, c, O, rfl, hcl, hO, hb5⟩
        have J6 := J5.call hb5
        have Z6 := Z5.call hb5
        have S6 := S5.call hb5
        have P6 := P5.then hb5
        have hO6 : w5.ownsRow (gl + 1) 37 6 (.slice (some ⟨g, 0, none⟩) O.length c) O.length (cells6 O) := hO.lower (show gl + 1 ≤ wr.heap.size from jl)
        have hlen := clos_len hfr HLA.out HR.out hcl
        have hpos : 1 ≤ O.length := clos_pos hcl
        have HGO := Lib.hid (fun (m : M6) (hm : m ∈ O) => reach_good HLA.out HR.out ((hcl.2 m).1 hm))
        clear J5 Z5 S5 P5 Q5 hb5 j5c jl SR hl81 HR HT hk hk0 hO hcl
        by_cases h24 : (24 : Int) < (O.length : Int)
        · go_wp2_with fail
          refine wp_region_T 9 (fun W9 => Kt gl A B C W9 ∧ KOw g (gl + 1) c 37 O W9) (by kernel_rfl) ⟨J6.drew, hO6.drew⟩ (fun hHeld inv => ?_)
          refine wpAnyT_take (i := 0) (v := ?_) (by kernel_rfl) (by kernel_rfl) (by decide) (by kernel_rfl) inv rfl (by decide) (by kernel_rfl) (by kernel_rfl) (fun _ _ _ h => h) (Or.inl ⟨by rfl, ?_⟩) (by assumption) (fun inv => ?_)
          rotate_left
          · (intro w hSw; obtain ⟨hSJ, hSK⟩ := hSw; have hc9 := hSJ.cells; (try dsimp only at hSw); go_simp; try with_reducible rfl)
          simp only [Act.put, List.setIfInBounds_toArray, List.set_cons_zero, List.set_cons_succ]
          refine wpAnyT_take (i := 1) (v := ?_) (by kernel_rfl) (by kernel_rfl) (by decide) (by kernel_rfl) inv rfl (by decide) (by kernel_rfl) (by kernel_rfl) (fun _ _ _ h => h) (Or.inl ⟨by rfl, ?_⟩) (by assumption) (fun inv => ?_)
          rotate_left
          · (intro w hSw; (try dsimp only at hSw); go_simp; try with_reducible rfl)
          simp only [Act.put, List.setIfInBounds_toArray, List.set_cons_zero, List.set_cons_succ]
          refine wpAnyT_take (i := 2) (v := ?_) (by kernel_rfl) (by kernel_rfl) (by decide) (by kernel_rfl) inv rfl (by decide) (by kernel_rfl) (by kernel_rfl) (fun _ _ _ h => h) (Or.inl ⟨by rfl, ?_⟩) (by assumption) (fun inv => ?_)
          rotate_left
          · (intro w hSw; (try dsimp only at hSw); go_simp; try with_reducible rfl)
          simp only [Act.put, List.setIfInBounds_toArray, List.set_cons_zero, List.set_cons_succ]
          refine wpAnyT_take (i := 3) (v := ?_) (by kernel_rfl) (by kernel_rfl) (by decide) (by kernel_rfl) inv rfl (by decide) (by kernel_rfl) (by kernel_rfl) (fun _ _ _ h => h) (Or.inl ⟨by rfl, ?_⟩) (by assumption) (fun inv => ?_)
          rotate_left
          · (intro w hSw; (try dsimp only at hSw); go_simp; try with_reducible rfl)
          simp only [Act.put, List.setIfInBounds_toArray, List.set_cons_zero, List.set_cons_succ]
          refine wpAnyT_take (i := 4) (v := ?_) (by kernel_rfl) (by kernel_rfl) (by decide) (by kernel_rfl) inv rfl (by decide) (by kernel_rfl) (by kernel_rfl) (fun _ _ _ h => h) (Or.inl ⟨by rfl, ?_⟩) (by assumption) (fun inv => ?_)
          rotate_left
          · (intro w hSw; (try dsimp only at hSw); go_simp; try with_reducible rfl)
          simp only [Act.put, List.setIfInBounds_toArray, List.set_cons_zero, List.set_cons_succ]
          have HI5 := Lib.hid inv
          refine wpAnyT_one (i := 5) (by kernel_rfl) rfl (fun K hK => ?_)
          go_simp
          go_at_call 122
          refine (next_lt O.length p a0 len cap _ (Src.drew S6) hpos).mono ?_
          rintro e u1 ⟨k, rfl, hkO, T1, V1⟩
          have J7 : Kt gl A B C u1 := Kt.onlyD J6.drew V1 hglp
          have Z7 : KL w.heap.size 0 0 0 u1 := KL.only Z6.drew V1 hne
          have Q7 : KOw g (gl + 1) c 37 O u1 := own_only (KOw.drew hO6) V1 hpg
          have P7 : Only p w u1 := Only.trans (Only.drew P6) V1
          refine hK.out _ _ (fun _ => ⟨J7, Q7⟩) ?_
          clear hK K inv hHeld
          have hHeld : (fun W9 => Kt gl A B C W9 ∧ KOw g (gl + 1) c 37 O W9) _ := ⟨J7, Q7⟩
          have inv := HI5.out.set (i := 5) (List.contains_iff_mem.1 (by kernel_rfl)) (by decide)
          try simp only [Act.put, List.setIfInBounds_toArray, List.set_cons_zero, List.set_cons_succ]
          try simp only [List.setIfInBounds_toArray, List.set_cons_zero, List.set_cons_succ] at inv
          have HM7 := Lib.hid (HGO.out _ (List.getElem_mem hkO))
          have HCELL := Lib.hid (fun (W : World) (h : KOw g (gl + 1) c 37 O W) => (KOw.mo h (by omega) k hkO).cells)
          have hkO2 : (k : Int) < (O.length : Int) := by omega
          generalize O[k] = m at HCELL HM7
          obtain ⟨a, b, c', d, x, y⟩ := m
          dsimp only at HCELL
          refine wpAnyT_take (i := 6) (v := ?_) (by kernel_rfl) (by kernel_rfl) (by decide) (by kernel_rfl) inv rfl (by decide) (by kernel_rfl) (by kernel_rfl) (fun _ _ _ h => h) (Or.inl ⟨by rfl, ?_⟩) (by assumption) (fun inv => ?_)
          rotate_left
          · (intro w hSw; (try dsimp only at hSw); go_simp; try with_reducible rfl)
          simp only [Act.put, List.setIfInBounds_toArray, List.set_cons_zero, List.set_cons_succ]
          refine wpAnyT_take (i := 7) (v := ?_) (by kernel_rfl) (by kernel_rfl) (by decide) (by kernel_rfl) inv rfl (by decide) (by kernel_rfl) (by kernel_rfl) (fun _ _ _ h => h) (Or.inl ⟨by rfl, ?_⟩) (by assumption) (fun inv => ?_)
          rotate_left
          · (intro w hSw; obtain ⟨hSJ, hSK⟩ := hSw; have hc9 := HCELL.out _ hSK; (try dsimp only at hSw); go_simp; try with_reducible rfl)
          simp only [Act.put, List.setIfInBounds_toArray, List.set_cons_zero, List.set_cons_succ]
          have HI8 := Lib.hid inv
          refine wpAnyT_one (i := 8) (by kernel_rfl) rfl (fun K hK => ?_)
          go_simp
          refine hK.out _ _ (fun _ => ⟨J7.alloc (.cells #[.int .i64 a, .int .i64 b, .int .i64 c', .int .i64 d, .int .i64 x, .int .i64 y] 37), KOw.alloc Q7 (.cells #[.int .i64 a, .int .i64 b, .int .i64 c', .int .i64 d, .int .i64 x, .int .i64 y] 37)⟩) ?_
          clear hK K inv hHeld
          have hHeld : (fun W9 => Kt gl A B C W9 ∧ KOw g (gl + 1) c 37 O W9) _ := ⟨J7.alloc (.cells #[.int .i64 a, .int .i64 b, .int .i64 c', .int .i64 d, .int .i64 x, .int .i64 y] 37), KOw.alloc Q7 (.cells #[.int .i64 a, .int .i64 b, .int .i64 c', .int .i64 d, .int .i64 x, .int .i64 y] 37)⟩
          have inv := HI8.out.set (i := 8) (List.contains_iff_mem.1 (by kernel_rfl)) (by decide)
          try simp only [Act.put, List.setIfInBounds_toArray, List.set_cons_zero, List.set_cons_succ]
          try simp only [List.setIfInBounds_toArray, List.set_cons_zero, List.set_cons_succ] at inv
          refine wpAnyT_seq (k := 9) (by decide) rfl rfl (by kernel_rfl) ?_
          clear hHeld inv
          have hone : ([(a, b, c', d, x, y)] : List M6).length ≤ 1048576 := (by simp)
          have HS9 : SRow u1.heap.size (u1.heap.size + 1) 6 (.slice (some ⟨u1.heap.size, 0, none⟩) 1 1) ([(a, b, c', d, x, y)] : List M6).length (fm [(a, b, c', d, x, y)]) (u1.alloc (.cells #[.int .i64 a, .int .i64 b, .int .i64 c', .int .i64 d, .int .i64 x, .int .i64 y] 37)) := one_srow u1 a b c' d x y
          have HGR : Hid (GoodR f A B C [(a, b, c', d, x, y)]) := Lib.hid (fun r hr => by rw [List.mem_singleton] at hr; rw [hr]; exact HM7.out)
          have J8 := J7.alloc (.cells #[.int .i64 a, .int .i64 b, .int .i64 c', .int .i64 d, .int .i64 x, .int .i64 y] 37)
          have Z8 := Z7.alloc (.cells #[.int .i64 a, .int .i64 b, .int .i64 c', .int .i64 d, .int .i64 x, .int .i64 y] 37)
          have S8 := Src.alloc T1 (.cells #[.int .i64 a, .int .i64 b, .int .i64 c', .int .i64 d, .int .i64 x, .int .i64 y] 37)
          have P8 := Only.alloc P7 (.cells #[.int .i64 a, .int .i64 b, .int .i64 c', .int .i64 d, .int .i64 x, .int .i64 y] 37)
          have hz8 : gl + 1 ≤ u1.heap.size := J7.1
          go_wp2_with fail
          refine (l06Close_any f A B C hfr HLA.out HGR.out HS9 hone).mono ?_
          rintro e w6 ⟨g2, c2, O2, rfl, hcl2, hO2, hb6⟩
          have J9 := J8.call hb6
          have Z9 := Z8.call hb6
          have S9 := S8.call hb6
          have P9 := P8.then hb6
          have hO9 : KOw g2 (gl + 1) c2 37 O2 w6 := hO2.lower (by simp; omega)
          have hlen9 := clos_len hfr HLA.out HGR.out hcl2
          have hpos9 : 1 ≤ O2.length := clos_pos hcl2
          clear J7 Z7 Q7 P7 T1 V1 J8 Z8 S8 P8 J6 Z6 S6 P6 hO6 hb6 hcl2 hO2 HS9 hone HCELL HM7 hkO hkO2 hz8
          have hl0 : (O2.length : Int) > 0 := by omega
          have hl7 : (O2.length : Int) ≤ 768 := by omega
          go_wp2_with fail
          refine (next_lt O2.length p a0 len cap _ S9 (by omega)).mono ?_
          rintro e u7 ⟨k, rfl, hkO, S17, V7⟩
          have J17 := J9.onlyD V7 hglp
          have Z17 := Z9.only V7 hne
          have P17 := P9.trans V7
          have hO17 : KOw g2 (gl + 1) c2 37 O2 u7 := own_only hO9 V7 hpg
          clear J9 Z9 S9 P9 hO9 V7
          go_wp2_with fail
          refine (next_any _ p a0 len cap _ S17).mono ?_
          rintro e u8 ⟨x, rfl, x0, x1, S18, V8⟩
          have J18 := J17.onlyD V8 hglp
          have Z18 := Z17.only V8 hne
          have P18 := P17.trans V8
          have hO18 : KOw g2 (gl + 1) c2 37 O2 u8 := own_only hO17 V8 hpg
          clear J17 Z17 S17 P17 hO17 V8 x1
          have hkO2 : (k : Int) < (O2.length : Int) := by omega
          by_cases hx0 : x = 0
          · subst hx0
            have hcl := KOw.cap_le hO18
            have hpL : k ≤ O2.length := by omega
            have hpc : k ≤ c2 := by omega
            obtain ⟨k1, hk1⟩ : ∃ k1, k1 = k + 1 := ⟨_, rfl⟩
            have hk1i : (k : Int) + 1 = (k1 : Int) := by omega
            have hk1w : IntKind.i64.wrap (k1 : Int) = (k1 : Int) := by rw [IntKind.wrap_i64]; omega
            have hk1L : k1 ≤ O2.length := by omega
            have hk1c : k1 ≤ c2 := by omega
            have hk1j : (k1 : Int) ≤ (O2.length : Int) := by omega
            have hk1k : (k1 : Int) ≤ (c2 : Int) := by omega
            have hkc : (k : Int) ≤ (c2 : Int) := by omega
            have HK1 := Lib.hid hk1
            have hck : ¬ c2 = k := by omega
            have hgw : g2 < u8.heap.size := (KOw.lt hO18).2
            have jl18 := J18.1
            have j18c := J18.cells
            by_cases hcp : c2 = k1
            · have hok1 := Lib.hid (show O2.length = k1 by omega)
              subst hcp
              clear hk1
              go_wp2_with fail
              go_region_held3 (fun W => (W.cell? ⟨gl, 0, none⟩ = some (.int .i64 A) ∧ W.cell? ⟨gl, 1, none⟩ = some (.int .i64 B) ∧ W.cell? ⟨gl, 2, none⟩ = some (.int .i64 C))) ((refine Kt.cells ?_; repeat (first | with_reducible assumption | with_reducible refine Kt.drew ?_ | with_reducible refine Kt.alloc ?_ _ | with_reducible refine Kt.call ?_ (by with_reducible assumption))))
                (first
                  | (rw [if_pos (by rfl)]; refine wp_append_own _ _ _ 48 rfl u8.heap.size 37 i0 (.agg #[.int .i64 0, .int .i64 0, .int .i64 0, .int .i64 0, .int .i64 0, .int .i64 0]) 6 48 Tryz.underlying48 hinf hz0 hz1 hz2 rfl (by decide) _ 0 [] rfl (by first | exact (lit6 u8 u8.heap.size rfl (Nat.le_refl _)) | exact KOwV.drew (lit6 u8 u8.heap.size rfl (Nat.le_refl _)) | exact (lit6 _ _ (by rfl) (by first | exact Nat.le_refl _ | (simp <;> omega)))) ⟨g2, 0, none⟩ k _ (cells6 (O2.take k)) rfl (take6_len hpL) (kow_take (show KOw g2 (gl + 1) c2 37 O2 _ from KOw.call hO18 (by repeat (first | with_reducible assumption | with_reducible exact Below.refl _ _ | with_reducible refine Below.drew ?_ | with_reducible refine Below.alloc ?_ (by first | omega | (simp <;> omega)) _ | with_reducible refine bstep ?_ (by with_reducible assumption))))) (cells6_one _) (by unfold maxLen; omega) (by omega) (by first | omega | (simp <;> omega)) ?_; intro v26 w26 hown26 hgr26 _; have O26 : KOwV u8.heap.size 37 v26 (O2.take k) w26 := (by have h := hown26; unfold KOwV; rw [List.length_take, Nat.min_eq_left hpL]; simpa using h); have B26 : Below u8.heap.size u8 w26 := Below.grown (by repeat (first | with_reducible assumption | with_reducible exact Below.refl _ _ | with_reducible refine Below.drew ?_ | with_reducible refine Below.alloc ?_ (by first | omega | (simp <;> omega)) _ | with_reducible refine bstep ?_ (by with_reducible assumption))) hgr26 (by first | omega | (simp <;> omega)) (fun r hr => by have e2 := Option.some.inj hr; first | omega | (simp at e2; omega)); have J26 := Kt.call J18 B26; have z26 := Below.size B26)
                  | (rw [if_pos (by rfl)]; refine wp_append_own _ _ _ 48 rfl u8.heap.size 37 i0 (.agg #[.int .i64 0, .int .i64 0, .int .i64 0, .int .i64 0, .int .i64 0, .int .i64 0]) 6 48 Tryz.underlying48 hinf hz0 hz1 hz2 rfl (by decide) _ (O2.take k).length (cells6 (O2.take k)) rfl (show KOwV u8.heap.size 37 v26 (O2.take k) _ from by repeat (first | with_reducible assumption | with_reducible refine KOwV.drew ?_ | with_reducible refine KOwV.alloc ?_ _)) _ 0 _ [] rfl rfl (by intro j u hj; simp at hj) (by first | exact cells6_one _ | (intro u hu; simp at hu)) (by have hh := take6_len hpL; rw [cells6_len] at hh; unfold maxLen; omega) (by have hh := take6_len hpL; rw [cells6_len] at hh; omega) (by first | omega | (simp <;> omega)) ?_; intro v33 w33 hown33 hgr33 _; have B33 : Below u8.heap.size u8 w33 := Below.grown (by repeat (first | with_reducible assumption | with_reducible exact Below.refl _ _ | with_reducible refine Below.drew ?_ | with_reducible refine Below.alloc ?_ (by first | omega | (simp <;> omega)) _ | with_reducible refine bstep ?_ (by with_reducible assumption))) hgr33 (by first | omega | (simp <;> omega)) (fun r hr => (World.ownsRow.lt O26 _ hr).1); have J33 := Kt.call J18 B33))
              all_goals
                have O33 : KOwV u8.heap.size 37 v33 (O2.take k) w33 := (by have h := hown33; unfold KOwV; simpa using h)
                have Z33 := Z18.call B33
                have S33 := S18.call B33
                have P33 := P18.then B33
                have hz33 := B33.size
                have hlst : (O2.take k).length ≤ 769 := by have := HK1.out; first | (rw [List.length_append, List.length_take, List.length_drop]; omega) | (rw [List.length_take]; omega)
                have SR33 := Lib.hid (SRow.lower7X (SRow.of6 O33 (by omega)) (show gl + 1 ≤ u8.heap.size from J18.1))
                generalize hn33 : (O2.take k).length = n33 at SR33 hlst
                clear hown33 hgr33 O33 O26 hown26 hgr26 J18 Z18 S18 P18 hO18 B26 B33 J26
                have j9c := J33.cells
                have j9l := J33.1
                obtain ⟨z0, z1, z2, z3, z4, z5, z6⟩ := id Z33
                have hsl9 := S33.lt
                go_wp2_with fail
                go_region_held3 (fun W => (W.cell? ⟨gl, 0, none⟩ = some (.int .i64 A) ∧ W.cell? ⟨gl, 1, none⟩ = some (.int .i64 B) ∧ W.cell? ⟨gl, 2, none⟩ = some (.int .i64 C))) ((refine Kt.cells ?_; repeat (first | with_reducible assumption | with_reducible refine Kt.drew ?_ | (with_reducible refine Kt.farX (by first | omega | (dsimp only; omega)) ?_))))
                  (fail)
                all_goals
                  go_wp2
                  refine bodyPost_ret (v := .tuple #[.int .i64 f, .agg #[.int .i64 A, .int .i64 B, .int .i64 C], v33]) (by simp [results, Tryz.results132, go_sem, *]) rfl ⟨f, A, B, C, v33, n33, (fm (O2.take k)), rfl, by omega, ?_, ?_, ?_⟩
                  · refine SRow.upX (hi := w33.heap.size) (SRow.lower7X (lo := gl + 1) ?_ (by omega))
                    repeat (first | with_reducible exact SR33.out | with_reducible refine SRow.putX (by first | omega | (dsimp only; omega)) _ ?_ | with_reducible refine SRow.drewX ?_)
                  · repeat (first | with_reducible assumption | (with_reducible refine Src.put (by first | omega | (simp; omega)) ?_) | with_reducible refine Src.alloc ?_ _ | with_reducible refine Src.drew ?_)
                  · repeat (first | with_reducible assumption | (with_reducible refine Only.put ?_ (by first | exact Nat.le_refl _ | omega | (simp; omega)) _) | with_reducible refine Only.alloc ?_ _ | with_reducible refine Only.drew ?_)
            · have hcp2 : ¬ k1 = c2 := fun e => hcp e.symm
              clear hk1
              go_wp2_with fail
              go_region_held3 (fun W => (W.cell? ⟨gl, 0, none⟩ = some (.int .i64 A) ∧ W.cell? ⟨gl, 1, none⟩ = some (.int .i64 B) ∧ W.cell? ⟨gl, 2, none⟩ = some (.int .i64 C))) ((refine Kt.cells ?_; repeat (first | with_reducible assumption | with_reducible refine Kt.drew ?_ | with_reducible refine Kt.alloc ?_ _ | with_reducible refine Kt.call ?_ (by with_reducible assumption))))
                (first
                  | (rw [if_pos (by rfl)]; refine wp_append_own _ _ _ 48 rfl u8.heap.size 37 i0 (.agg #[.int .i64 0, .int .i64 0, .int .i64 0, .int .i64 0, .int .i64 0, .int .i64 0]) 6 48 Tryz.underlying48 hinf hz0 hz1 hz2 rfl (by decide) _ 0 [] rfl (by first | exact (lit6 u8 u8.heap.size rfl (Nat.le_refl _)) | exact KOwV.drew (lit6 u8 u8.heap.size rfl (Nat.le_refl _)) | exact (lit6 _ _ (by rfl) (by first | exact Nat.le_refl _ | (simp <;> omega)))) ⟨g2, 0, none⟩ k _ (cells6 (O2.take k)) rfl (take6_len hpL) (kow_take (show KOw g2 (gl + 1) c2 37 O2 _ from KOw.call hO18 (by repeat (first | with_reducible assumption | with_reducible exact Below.refl _ _ | with_reducible refine Below.drew ?_ | with_reducible refine Below.alloc ?_ (by first | omega | (simp <;> omega)) _ | with_reducible refine bstep ?_ (by with_reducible assumption))))) (cells6_one _) (by unfold maxLen; omega) (by omega) (by first | omega | (simp <;> omega)) ?_; intro v26 w26 hown26 hgr26 _; have O26 : KOwV u8.heap.size 37 v26 (O2.take k) w26 := (by have h := hown26; unfold KOwV; rw [List.length_take, Nat.min_eq_left hpL]; simpa using h); have B26 : Below u8.heap.size u8 w26 := Below.grown (by repeat (first | with_reducible assumption | with_reducible exact Below.refl _ _ | with_reducible refine Below.drew ?_ | with_reducible refine Below.alloc ?_ (by first | omega | (simp <;> omega)) _ | with_reducible refine bstep ?_ (by with_reducible assumption))) hgr26 (by first | omega | (simp <;> omega)) (fun r hr => by have e2 := Option.some.inj hr; first | omega | (simp at e2; omega)); have J26 := Kt.call J18 B26; have z26 := Below.size B26)
                  | (rw [if_pos (by rfl)]; refine wp_append_own _ _ _ 48 rfl u8.heap.size 37 i0 (.agg #[.int .i64 0, .int .i64 0, .int .i64 0, .int .i64 0, .int .i64 0, .int .i64 0]) 6 48 Tryz.underlying48 hinf hz0 hz1 hz2 rfl (by decide) _ (O2.take k).length (cells6 (O2.take k)) rfl (show KOwV u8.heap.size 37 v26 (O2.take k) _ from by repeat (first | with_reducible assumption | with_reducible refine KOwV.drew ?_ | with_reducible refine KOwV.alloc ?_ _)) _ (O2.length - k1) _ (cells6 (O2.drop k1)) rfl (drop6_len hk1L) (kow_drop (show KOw g2 (gl + 1) c2 37 O2 _ from KOw.call (KOw.call hO18 B26) (by repeat (first | with_reducible assumption | with_reducible exact Below.refl _ _ | with_reducible refine Below.drew ?_ | with_reducible refine Below.alloc ?_ (by first | omega | (simp <;> omega)) _ | with_reducible refine bstep ?_ (by with_reducible assumption)))) hk1L) (by first | exact cells6_one _ | (intro u hu; simp at hu)) (by have hh := take6_len hpL; rw [cells6_len] at hh; unfold maxLen; omega) (by have hh := take6_len hpL; rw [cells6_len] at hh; omega) (by first | omega | (simp <;> omega)) ?_; intro v33 w33 hown33 hgr33 _; have B33 : Below u8.heap.size u8 w33 := Below.grown (by repeat (first | with_reducible assumption | with_reducible exact Below.refl _ _ | with_reducible refine Below.drew ?_ | with_reducible refine Below.alloc ?_ (by first | omega | (simp <;> omega)) _ | with_reducible refine bstep ?_ (by with_reducible assumption))) hgr33 (by first | omega | (simp <;> omega)) (fun r hr => (World.ownsRow.lt O26 _ hr).1); have J33 := Kt.call J18 B33))
              all_goals
                have O33 : KOwV u8.heap.size 37 v33 (O2.take k ++ O2.drop k1) w33 := (by have h := hown33; unfold KOwV; rw [cells6_app (O2.take k) (O2.drop k1), app_len (O2.take k) (O2.drop k1), List.length_drop]; exact h)
                have Z33 := Z18.call B33
                have S33 := S18.call B33
                have P33 := P18.then B33
                have hz33 := B33.size
                have hlst : (O2.take k ++ O2.drop k1).length ≤ 769 := by have := HK1.out; first | (rw [List.length_append, List.length_take, List.length_drop]; omega) | (rw [List.length_take]; omega)
                have SR33 := Lib.hid (SRow.lower7X (SRow.of6 O33 (by omega)) (show gl + 1 ≤ u8.heap.size from J18.1))
                generalize hn33 : (O2.take k ++ O2.drop k1).length = n33 at SR33 hlst
                clear hown33 hgr33 O33 O26 hown26 hgr26 J18 Z18 S18 P18 hO18 B26 B33 J26
                have j9c := J33.cells
                have j9l := J33.1
                obtain ⟨z0, z1, z2, z3, z4, z5, z6⟩ := id Z33
                have hsl9 := S33.lt
                go_wp2_with fail
                go_region_held3 (fun W => (W.cell? ⟨gl, 0, none⟩ = some (.int .i64 A) ∧ W.cell? ⟨gl, 1, none⟩ = some (.int .i64 B) ∧ W.cell? ⟨gl, 2, none⟩ = some (.int .i64 C))) ((refine Kt.cells ?_; repeat (first | with_reducible assumption | with_reducible refine Kt.drew ?_ | (with_reducible refine Kt.farX (by first | omega | (dsimp only; omega)) ?_))))
                  (fail)
                all_goals
                  go_wp2
                  refine bodyPost_ret (v := .tuple #[.int .i64 f, .agg #[.int .i64 A, .int .i64 B, .int .i64 C], v33]) (by simp [results, Tryz.results132, go_sem, *]) rfl ⟨f, A, B, C, v33, n33, (fm (O2.take k ++ O2.drop k1)), rfl, by omega, ?_, ?_, ?_⟩
                  · refine SRow.upX (hi := w33.heap.size) (SRow.lower7X (lo := gl + 1) ?_ (by omega))
                    repeat (first | with_reducible exact SR33.out | with_reducible refine SRow.putX (by first | omega | (dsimp only; omega)) _ ?_ | with_reducible refine SRow.drewX ?_)
                  · repeat (first | with_reducible assumption | (with_reducible refine Src.put (by first | omega | (simp; omega)) ?_) | with_reducible refine Src.alloc ?_ _ | with_reducible refine Src.drew ?_)
                  · repeat (first | with_reducible assumption | (with_reducible refine Only.put ?_ (by first | exact Nat.le_refl _ | omega | (simp; omega)) _) | with_reducible refine Only.alloc ?_ _ | with_reducible refine Only.drew ?_)
          have b0 : (x == 0) = false := by simpa using hx0
          by_cases hx1 : x = 1
          · subst hx1
            have q18 := KOw.mo hO18 (by omega) k hkO
            have hgw : g2 < u8.heap.size := (KOw.lt hO18).2
            have jl18 := J18.1
            generalize O2[k] = m at q18
            obtain ⟨a, b, c', d, x, y⟩ := m
            dsimp only at q18
            have q18c := q18.cells
            go_wp2_with (at_builtin; refine wpList_append_own _ rfl _ _ 48 rfl (gl + 1) 37 i0 (.agg #[.int .i64 0, .int .i64 0, .int .i64 0, .int .i64 0, .int .i64 0, .int .i64 0]) 6 48 Tryz.underlying48 hinf hz0 hz1 hz2 rfl (by decide) _ _ _ rfl (KOw.alloc hO18 _) ⟨u8.heap.size, 0, none⟩ 1 1 [.int .i64 a, .int .i64 b, .int .i64 c', .int .i64 d, .int .i64 x, .int .i64 y] rfl rfl (new_six _ _ _ _ _ _ _ rfl) one_six (by unfold maxLen; omega) (by omega) (by (try simp only [World.size_alloc]); first | omega | (simp <;> omega)) ?_)
            intro v33 w33 hown33 hgr33 _
            have O33 : w33.ownsRow (gl + 1) 37 6 v33 (O2 ++ [(a, b, c', d, x, y)]).length (cells6 (O2 ++ [(a, b, c', d, x, y)])) := own_next6 hown33
            have B33 : Below (gl + 1) u8 w33 := Below.grown (Below.alloc (Below.refl _ _) (by omega) _) hgr33 (by first | omega | (simp <;> omega)) (fun r hr => by have := (World.ownsRow.lt hO18 _ hr).1; omega)
            have J33 := J18.grow B33 (by omega)
            have Z33 := Z18.grow B33 (by have := Z18.lt; omega)
            have S33 := S18.grow B33 hpg
            have P33 := P18.thenB (by omega) B33
            have hlst : (O2 ++ [(a, b, c', d, x, y)]).length ≤ 769 := by rw [List.length_append]; simp; omega
            have SR33 := Lib.hid (SRow.of6 O33 (by omega))
            generalize hn33 : (O2 ++ [(a, b, c', d, x, y)]).length = n33 at SR33 hlst
            clear hown33 hgr33 O33 J18 Z18 S18 P18 hO18 B33 q18 q18c
            have j9c := J33.cells
            have j9l := J33.1
            obtain ⟨z0, z1, z2, z3, z4, z5, z6⟩ := id Z33
            have hsl9 := S33.lt
            go_wp2_with fail
            go_region_held3 (fun W => (W.cell? ⟨gl, 0, none⟩ = some (.int .i64 A) ∧ W.cell? ⟨gl, 1, none⟩ = some (.int .i64 B) ∧ W.cell? ⟨gl, 2, none⟩ = some (.int .i64 C))) ((refine Kt.cells ?_; repeat (first | with_reducible assumption | with_reducible refine Kt.drew ?_ | (with_reducible refine Kt.farX (by first | omega | (dsimp only; omega)) ?_))))
              (fail)
            all_goals
              go_wp2
              refine bodyPost_ret (v := .tuple #[.int .i64 f, .agg #[.int .i64 A, .int .i64 B, .int .i64 C], v33]) (by simp [results, Tryz.results132, go_sem, *]) rfl ⟨f, A, B, C, v33, n33, (fm (O2 ++ [(a, b, c', d, x, y)])), rfl, by omega, ?_, ?_, ?_⟩
              · refine SRow.upX (hi := w33.heap.size) (SRow.lower7X (lo := gl + 1) ?_ (by omega))
                repeat (first | with_reducible exact SR33.out | with_reducible refine SRow.putX (by first | omega | (dsimp only; omega)) _ ?_ | with_reducible refine SRow.drewX ?_)
              · repeat (first | with_reducible assumption | (with_reducible refine Src.put (by first | omega | (simp; omega)) ?_) | with_reducible refine Src.alloc ?_ _ | with_reducible refine Src.drew ?_)
              · repeat (first | with_reducible assumption | (with_reducible refine Only.put ?_ (by first | exact Nat.le_refl _ | omega | (simp; omega)) _) | with_reducible refine Only.alloc ?_ _ | with_reducible refine Only.drew ?_)
          have b1 : (x == 1) = false := by simpa using hx1
          by_cases hx2 : x = 2
          · subst hx2
            have SRx := SRow.of6 hO18 (by omega)
            obtain ⟨gx, cx, ex, _, hgx, rx⟩ := SRx.2.2.resolve_left (fun h => by omega)
            simp only [Value.slice.injEq, Option.some.injEq, Addr.mk.injEq, and_true, true_and] at ex
            obtain ⟨rfl, rfl⟩ := ex
            have hglt := (KOw.lt hO18).1
            have hgw : g2 < u8.heap.size := (KOw.lt hO18).2
            have jl18 := J18.1
            have cx4 := rx.at (k * 6 + 4) (by omega)
            have fx4 := rx.free (k * 6 + 4) (by omega)
            obtain ⟨z9, hz9⟩ : ∃ z, z = fm O2 (k * 6 + 4) := ⟨_, rfl⟩
            rw [← hz9] at cx4
            obtain ⟨y9, hy9⟩ : ∃ y, IntKind.i64.wrap (z9 + 1) = y := ⟨_, rfl⟩
            have hy8 : wrap64 (z9 + 1) = y9 := by rw [← hy9, IntKind.wrap_i64]; first | (unfold wrap64; rfl) | (unfold wrap64; omega)
            have R33 := rx.put (k * 6 + 4) (by omega) y9
            have B33 : Below (gl + 1) u8 (u8.setCell ⟨g2, k * 6 + 4, none⟩ (.int .i64 y9)) := (Below.refl _ _).setCell (by dsimp only; omega) _
            have J33 := J18.grow B33 (by omega)
            have Z33 := Z18.grow B33 (by have := Z18.lt; omega)
            have S33 := S18.grow B33 hpg
            have P33 := P18.thenB (by omega) B33
            have hlst : O2.length ≤ 769 := by omega
            obtain ⟨FX, SR33⟩ : ∃ FX, Hid (SRow (gl + 1) (u8.setCell ⟨g2, k * 6 + 4, none⟩ (.int .i64 y9)).heap.size 6 (.slice (some ⟨g2, 0, none⟩) O2.length c2) O2.length FX (u8.setCell ⟨g2, k * 6 + 4, none⟩ (.int .i64 y9))) := ⟨_, Lib.hid ⟨Nat.le_refl _, by omega, .inr ⟨g2, c2, rfl, hglt, R33.1, R33⟩⟩⟩
            clear rx hz9 SRx R33 B33 J18 Z18 S18 P18 hO18
            go_upto_region 20 with fail
            generalize u8.setCell ⟨g2, k * 6 + 4, none⟩ (.int .i64 y9) = w33 at *
            have j9c := J33.cells
            have j9l := J33.1
            obtain ⟨z0, z1, z2, z3, z4, z5, z6⟩ := id Z33
            have hsl9 := S33.lt
            go_region_held3 (fun W => (W.cell? ⟨gl, 0, none⟩ = some (.int .i64 A) ∧ W.cell? ⟨gl, 1, none⟩ = some (.int .i64 B) ∧ W.cell? ⟨gl, 2, none⟩ = some (.int .i64 C))) ((refine Kt.cells ?_; repeat (first | with_reducible assumption | with_reducible refine Kt.drew ?_ | (with_reducible refine Kt.farX (by first | omega | (dsimp only; omega)) ?_))))
              (fail)
            all_goals
              go_wp2
              refine bodyPost_ret (v := .tuple #[.int .i64 f, .agg #[.int .i64 A, .int .i64 B, .int .i64 C], (.slice (some ⟨g2, 0, none⟩) O2.length c2)]) (by simp [results, Tryz.results132, go_sem, *]) rfl ⟨f, A, B, C, (.slice (some ⟨g2, 0, none⟩) O2.length c2), O2.length, FX, rfl, by omega, ?_, ?_, ?_⟩
              · refine SRow.upX (hi := w33.heap.size) (SRow.lower7X (lo := gl + 1) ?_ (by omega))
                repeat (first | with_reducible exact SR33.out | with_reducible refine SRow.putX (by first | omega | (dsimp only; omega)) _ ?_ | with_reducible refine SRow.drewX ?_)
              · repeat (first | with_reducible assumption | (with_reducible refine Src.put (by first | omega | (simp; omega)) ?_) | with_reducible refine Src.alloc ?_ _ | with_reducible refine Src.drew ?_)
              · repeat (first | with_reducible assumption | (with_reducible refine Only.put ?_ (by first | exact Nat.le_refl _ | omega | (simp; omega)) _) | with_reducible refine Only.alloc ?_ _ | with_reducible refine Only.drew ?_)
          have b2 : (x == 2) = false := by simpa using hx2
          have SR18 := Lib.hid (SRow.of6 hO18 (by omega))
          have hlst : O2.length ≤ 769 := by omega
          clear hO18
          have j9c := J18.cells
          have j9l := J18.1
          obtain ⟨z0, z1, z2, z3, z4, z5, z6⟩ := id Z18
          have hsl9 := S18.lt
          go_wp2_with fail
          go_region_held3 (fun W => (W.cell? ⟨gl, 0, none⟩ = some (.int .i64 A) ∧ W.cell? ⟨gl, 1, none⟩ = some (.int .i64 B) ∧ W.cell? ⟨gl, 2, none⟩ = some (.int .i64 C))) ((refine Kt.cells ?_; repeat (first | with_reducible assumption | with_reducible refine Kt.drew ?_ | (with_reducible refine Kt.farX (by first | omega | (dsimp only; omega)) ?_))))
            (fail)
          all_goals
            go_wp2
            refine bodyPost_ret (v := .tuple #[.int .i64 f, .agg #[.int .i64 A, .int .i64 B, .int .i64 C], (.slice (some ⟨g2, 0, none⟩) O2.length c2)]) (by simp [results, Tryz.results132, go_sem, *]) rfl ⟨f, A, B, C, (.slice (some ⟨g2, 0, none⟩) O2.length c2), O2.length, (fm O2), rfl, by omega, ?_, ?_, ?_⟩
            · refine SRow.upX (hi := u8.heap.size) (SRow.lower7X (lo := gl + 1) ?_ (by omega))
              repeat (first | with_reducible exact SR18.out | with_reducible refine SRow.putX (by first | omega | (dsimp only; omega)) _ ?_ | with_reducible refine SRow.drewX ?_)
            · repeat (first | with_reducible assumption | (with_reducible refine Src.put (by first | omega | (simp; omega)) ?_) | with_reducible refine Src.alloc ?_ _ | with_reducible refine Src.drew ?_)
            · repeat (first | with_reducible assumption | (with_reducible refine Only.put ?_ (by first | exact Nat.le_refl _ | omega | (simp; omega)) _) | with_reducible refine Only.alloc ?_ _ | with_reducible refine Only.drew ?_)
        · have hlen6 := hlen
          have hl0 : (O.length : Int) > 0 := by omega
          have hl7 : (O.length : Int) ≤ 768 := by omega
          go_wp2_with fail
          refine (next_lt O.length p a0 len cap _ S6 (by omega)).mono ?_
          rintro e u7 ⟨k, rfl, hkO, S17, V7⟩
          have J17 := J6.onlyD V7 hglp
          have Z17 := Z6.only V7 hne
          have P17 := P6.trans V7
          have hO17 : KOw g (gl + 1) c 37 O u7 := own_only hO6 V7 hpg
          clear J6 Z6 S6 P6 hO6 V7
          go_wp2_with fail
          refine (next_any _ p a0 len cap _ S17).mono ?_
          rintro e u8 ⟨x, rfl, x0, x1, S18, V8⟩
          have J18 := J17.onlyD V8 hglp
          have Z18 := Z17.only V8 hne
          have P18 := P17.trans V8
          have hO18 : KOw g (gl + 1) c 37 O u8 := own_only hO17 V8 hpg
          clear J17 Z17 S17 P17 hO17 V8 x1
          have hkO2 : (k : Int) < (O.length : Int) := by omega
          by_cases hx0 : x = 0
          · subst hx0
            have hcl := KOw.cap_le hO18
            have hpL : k ≤ O.length := by omega
            have hpc : k ≤ c := by omega
            obtain ⟨k1, hk1⟩ : ∃ k1, k1 = k + 1 := ⟨_, rfl⟩
            have hk1i : (k : Int) + 1 = (k1 : Int) := by omega
            have hk1w : IntKind.i64.wrap (k1 : Int) = (k1 : Int) := by rw [IntKind.wrap_i64]; omega
            have hk1L : k1 ≤ O.length := by omega
            have hk1c : k1 ≤ c := by omega
            have hk1j : (k1 : Int) ≤ (O.length : Int) := by omega
            have hk1k : (k1 : Int) ≤ (c : Int) := by omega
            have hkc : (k : Int) ≤ (c : Int) := by omega
            have HK1 := Lib.hid hk1
            have hck : ¬ c = k := by omega
            have hgw : g < u8.heap.size := (KOw.lt hO18).2
            have jl18 := J18.1
            have j18c := J18.cells
            by_cases hcp : c = k1
            · have hok1 := Lib.hid (show O.length = k1 by omega)
              subst hcp
              clear hk1
              go_wp2_with fail
              go_region_held3 (fun W => (W.cell? ⟨gl, 0, none⟩ = some (.int .i64 A) ∧ W.cell? ⟨gl, 1, none⟩ = some (.int .i64 B) ∧ W.cell? ⟨gl, 2, none⟩ = some (.int .i64 C))) ((refine Kt.cells ?_; repeat (first | with_reducible assumption | with_reducible refine Kt.drew ?_ | with_reducible refine Kt.alloc ?_ _ | with_reducible refine Kt.call ?_ (by with_reducible assumption))))
                (first
                  | (rw [if_pos (by rfl)]; refine wp_append_own _ _ _ 48 rfl u8.heap.size 37 i0 (.agg #[.int .i64 0, .int .i64 0, .int .i64 0, .int .i64 0, .int .i64 0, .int .i64 0]) 6 48 Tryz.underlying48 hinf hz0 hz1 hz2 rfl (by decide) _ 0 [] rfl (by first | exact (lit6 u8 u8.heap.size rfl (Nat.le_refl _)) | exact KOwV.drew (lit6 u8 u8.heap.size rfl (Nat.le_refl _)) | exact (lit6 _ _ (by rfl) (by first | exact Nat.le_refl _ | (simp <;> omega)))) ⟨g, 0, none⟩ k _ (cells6 (O.take k)) rfl (take6_len hpL) (kow_take (show KOw g (gl + 1) c 37 O _ from KOw.call hO18 (by repeat (first | with_reducible assumption | with_reducible exact Below.refl _ _ | with_reducible refine Below.drew ?_ | with_reducible refine Below.alloc ?_ (by first | omega | (simp <;> omega)) _ | with_reducible refine bstep ?_ (by with_reducible assumption))))) (cells6_one _) (by unfold maxLen; omega) (by omega) (by first | omega | (simp <;> omega)) ?_; intro v26 w26 hown26 hgr26 _; have O26 : KOwV u8.heap.size 37 v26 (O.take k) w26 := (by have h := hown26; unfold KOwV; rw [List.length_take, Nat.min_eq_left hpL]; simpa using h); have B26 : Below u8.heap.size u8 w26 := Below.grown (by repeat (first | with_reducible assumption | with_reducible exact Below.refl _ _ | with_reducible refine Below.drew ?_ | with_reducible refine Below.alloc ?_ (by first | omega | (simp <;> omega)) _ | with_reducible refine bstep ?_ (by with_reducible assumption))) hgr26 (by first | omega | (simp <;> omega)) (fun r hr => by have e2 := Option.some.inj hr; first | omega | (simp at e2; omega)); have J26 := Kt.call J18 B26; have z26 := Below.size B26)
                  | (rw [if_pos (by rfl)]; refine wp_append_own _ _ _ 48 rfl u8.heap.size 37 i0 (.agg #[.int .i64 0, .int .i64 0, .int .i64 0, .int .i64 0, .int .i64 0, .int .i64 0]) 6 48 Tryz.underlying48 hinf hz0 hz1 hz2 rfl (by decide) _ (O.take k).length (cells6 (O.take k)) rfl (show KOwV u8.heap.size 37 v26 (O.take k) _ from by repeat (first | with_reducible assumption | with_reducible refine KOwV.drew ?_ | with_reducible refine KOwV.alloc ?_ _)) _ 0 _ [] rfl rfl (by intro j u hj; simp at hj) (by first | exact cells6_one _ | (intro u hu; simp at hu)) (by have hh := take6_len hpL; rw [cells6_len] at hh; unfold maxLen; omega) (by have hh := take6_len hpL; rw [cells6_len] at hh; omega) (by first | omega | (simp <;> omega)) ?_; intro v33 w33 hown33 hgr33 _; have B33 : Below u8.heap.size u8 w33 := Below.grown (by repeat (first | with_reducible assumption | with_reducible exact Below.refl _ _ | with_reducible refine Below.drew ?_ | with_reducible refine Below.alloc ?_ (by first | omega | (simp <;> omega)) _ | with_reducible refine bstep ?_ (by with_reducible assumption))) hgr33 (by first | omega | (simp <;> omega)) (fun r hr => (World.ownsRow.lt O26 _ hr).1); have J33 := Kt.call J18 B33))
              all_goals
                have O33 : KOwV u8.heap.size 37 v33 (O.take k) w33 := (by have h := hown33; unfold KOwV; simpa using h)
                have Z33 := Z18.call B33
                have S33 := S18.call B33
                have P33 := P18.then B33
                have hz33 := B33.size
                have hlst : (O.take k).length ≤ 769 := by have := HK1.out; first | (rw [List.length_append, List.length_take, List.length_drop]; omega) | (rw [List.length_take]; omega)
                have SR33 := Lib.hid (SRow.lower7X (SRow.of6 O33 (by omega)) (show gl + 1 ≤ u8.heap.size from J18.1))
                generalize hn33 : (O.take k).length = n33 at SR33 hlst
                clear hown33 hgr33 O33 O26 hown26 hgr26 J18 Z18 S18 P18 hO18 B26 B33 J26
                have j9c := J33.cells
                have j9l := J33.1
                obtain ⟨z0, z1, z2, z3, z4, z5, z6⟩ := id Z33
                have hsl9 := S33.lt
                go_wp2_with fail
                go_region_held3 (fun W => (W.cell? ⟨gl, 0, none⟩ = some (.int .i64 A) ∧ W.cell? ⟨gl, 1, none⟩ = some (.int .i64 B) ∧ W.cell? ⟨gl, 2, none⟩ = some (.int .i64 C))) ((refine Kt.cells ?_; repeat (first | with_reducible assumption | with_reducible refine Kt.drew ?_ | (with_reducible refine Kt.farX (by first | omega | (dsimp only; omega)) ?_))))
                  (fail)
                all_goals
                  go_wp2
                  refine bodyPost_ret (v := .tuple #[.int .i64 f, .agg #[.int .i64 A, .int .i64 B, .int .i64 C], v33]) (by simp [results, Tryz.results132, go_sem, *]) rfl ⟨f, A, B, C, v33, n33, (fm (O.take k)), rfl, by omega, ?_, ?_, ?_⟩
                  · refine SRow.upX (hi := w33.heap.size) (SRow.lower7X (lo := gl + 1) ?_ (by omega))
                    repeat (first | with_reducible exact SR33.out | with_reducible refine SRow.putX (by first | omega | (dsimp only; omega)) _ ?_ | with_reducible refine SRow.drewX ?_)
                  · repeat (first | with_reducible assumption | (with_reducible refine Src.put (by first | omega | (simp; omega)) ?_) | with_reducible refine Src.alloc ?_ _ | with_reducible refine Src.drew ?_)
                  · repeat (first | with_reducible assumption | (with_reducible refine Only.put ?_ (by first | exact Nat.le_refl _ | omega | (simp; omega)) _) | with_reducible refine Only.alloc ?_ _ | with_reducible refine Only.drew ?_)
            · have hcp2 : ¬ k1 = c := fun e => hcp e.symm
              clear hk1
              go_wp2_with fail
              go_region_held3 (fun W => (W.cell? ⟨gl, 0, none⟩ = some (.int .i64 A) ∧ W.cell? ⟨gl, 1, none⟩ = some (.int .i64 B) ∧ W.cell? ⟨gl, 2, none⟩ = some (.int .i64 C))) ((refine Kt.cells ?_; repeat (first | with_reducible assumption | with_reducible refine Kt.drew ?_ | with_reducible refine Kt.alloc ?_ _ | with_reducible refine Kt.call ?_ (by with_reducible assumption))))
                (first
                  | (rw [if_pos (by rfl)]; refine wp_append_own _ _ _ 48 rfl u8.heap.size 37 i0 (.agg #[.int .i64 0, .int .i64 0, .int .i64 0, .int .i64 0, .int .i64 0, .int .i64 0]) 6 48 Tryz.underlying48 hinf hz0 hz1 hz2 rfl (by decide) _ 0 [] rfl (by first | exact (lit6 u8 u8.heap.size rfl (Nat.le_refl _)) | exact KOwV.drew (lit6 u8 u8.heap.size rfl (Nat.le_refl _)) | exact (lit6 _ _ (by rfl) (by first | exact Nat.le_refl _ | (simp <;> omega)))) ⟨g, 0, none⟩ k _ (cells6 (O.take k)) rfl (take6_len hpL) (kow_take (show KOw g (gl + 1) c 37 O _ from KOw.call hO18 (by repeat (first | with_reducible assumption | with_reducible exact Below.refl _ _ | with_reducible refine Below.drew ?_ | with_reducible refine Below.alloc ?_ (by first | omega | (simp <;> omega)) _ | with_reducible refine bstep ?_ (by with_reducible assumption))))) (cells6_one _) (by unfold maxLen; omega) (by omega) (by first | omega | (simp <;> omega)) ?_; intro v26 w26 hown26 hgr26 _; have O26 : KOwV u8.heap.size 37 v26 (O.take k) w26 := (by have h := hown26; unfold KOwV; rw [List.length_take, Nat.min_eq_left hpL]; simpa using h); have B26 : Below u8.heap.size u8 w26 := Below.grown (by repeat (first | with_reducible assumption | with_reducible exact Below.refl _ _ | with_reducible refine Below.drew ?_ | with_reducible refine Below.alloc ?_ (by first | omega | (simp <;> omega)) _ | with_reducible refine bstep ?_ (by with_reducible assumption))) hgr26 (by first | omega | (simp <;> omega)) (fun r hr => by have e2 := Option.some.inj hr; first | omega | (simp at e2; omega)); have J26 := Kt.call J18 B26; have z26 := Below.size B26)
                  | (rw [if_pos (by rfl)]; refine wp_append_own _ _ _ 48 rfl u8.heap.size 37 i0 (.agg #[.int .i64 0, .int .i64 0, .int .i64 0, .int .i64 0, .int .i64 0, .int .i64 0]) 6 48 Tryz.underlying48 hinf hz0 hz1 hz2 rfl (by decide) _ (O.take k).length (cells6 (O.take k)) rfl (show KOwV u8.heap.size 37 v26 (O.take k) _ from by repeat (first | with_reducible assumption | with_reducible refine KOwV.drew ?_ | with_reducible refine KOwV.alloc ?_ _)) _ (O.length - k1) _ (cells6 (O.drop k1)) rfl (drop6_len hk1L) (kow_drop (show KOw g (gl + 1) c 37 O _ from KOw.call (KOw.call hO18 B26) (by repeat (first | with_reducible assumption | with_reducible exact Below.refl _ _ | with_reducible refine Below.drew ?_ | with_reducible refine Below.alloc ?_ (by first | omega | (simp <;> omega)) _ | with_reducible refine bstep ?_ (by with_reducible assumption)))) hk1L) (by first | exact cells6_one _ | (intro u hu; simp at hu)) (by have hh := take6_len hpL; rw [cells6_len] at hh; unfold maxLen; omega) (by have hh := take6_len hpL; rw [cells6_len] at hh; omega) (by first | omega | (simp <;> omega)) ?_; intro v33 w33 hown33 hgr33 _; have B33 : Below u8.heap.size u8 w33 := Below.grown (by repeat (first | with_reducible assumption | with_reducible exact Below.refl _ _ | with_reducible refine Below.drew ?_ | with_reducible refine Below.alloc ?_ (by first | omega | (simp <;> omega)) _ | with_reducible refine bstep ?_ (by with_reducible assumption))) hgr33 (by first | omega | (simp <;> omega)) (fun r hr => (World.ownsRow.lt O26 _ hr).1); have J33 := Kt.call J18 B33))
              all_goals
                have O33 : KOwV u8.heap.size 37 v33 (O.take k ++ O.drop k1) w33 := (by have h := hown33; unfold KOwV; rw [cells6_app (O.take k) (O.drop k1), app_len (O.take k) (O.drop k1), List.length_drop]; exact h)
                have Z33 := Z18.call B33
                have S33 := S18.call B33
                have P33 := P18.then B33
                have hz33 := B33.size
                have hlst : (O.take k ++ O.drop k1).length ≤ 769 := by have := HK1.out; first | (rw [List.length_append, List.length_take, List.length_drop]; omega) | (rw [List.length_take]; omega)
                have SR33 := Lib.hid (SRow.lower7X (SRow.of6 O33 (by omega)) (show gl + 1 ≤ u8.heap.size from J18.1))
                generalize hn33 : (O.take k ++ O.drop k1).length = n33 at SR33 hlst
                clear hown33 hgr33 O33 O26 hown26 hgr26 J18 Z18 S18 P18 hO18 B26 B33 J26
                have j9c := J33.cells
                have j9l := J33.1
                obtain ⟨z0, z1, z2, z3, z4, z5, z6⟩ := id Z33
                have hsl9 := S33.lt
                go_wp2_with fail
                go_region_held3 (fun W => (W.cell? ⟨gl, 0, none⟩ = some (.int .i64 A) ∧ W.cell? ⟨gl, 1, none⟩ = some (.int .i64 B) ∧ W.cell? ⟨gl, 2, none⟩ = some (.int .i64 C))) ((refine Kt.cells ?_; repeat (first | with_reducible assumption | with_reducible refine Kt.drew ?_ | (with_reducible refine Kt.farX (by first | omega | (dsimp only; omega)) ?_))))
                  (fail)
                all_goals
                  go_wp2
                  refine bodyPost_ret (v := .tuple #[.int .i64 f, .agg #[.int .i64 A, .int .i64 B, .int .i64 C], v33]) (by simp [results, Tryz.results132, go_sem, *]) rfl ⟨f, A, B, C, v33, n33, (fm (O.take k ++ O.drop k1)), rfl, by omega, ?_, ?_, ?_⟩
                  · refine SRow.upX (hi := w33.heap.size) (SRow.lower7X (lo := gl + 1) ?_ (by omega))
                    repeat (first | with_reducible exact SR33.out | with_reducible refine SRow.putX (by first | omega | (dsimp only; omega)) _ ?_ | with_reducible refine SRow.drewX ?_)
                  · repeat (first | with_reducible assumption | (with_reducible refine Src.put (by first | omega | (simp; omega)) ?_) | with_reducible refine Src.alloc ?_ _ | with_reducible refine Src.drew ?_)
                  · repeat (first | with_reducible assumption | (with_reducible refine Only.put ?_ (by first | exact Nat.le_refl _ | omega | (simp; omega)) _) | with_reducible refine Only.alloc ?_ _ | with_reducible refine Only.drew ?_)
          have b0 : (x == 0) = false := by simpa using hx0
          by_cases hx1 : x = 1
          · subst hx1
            have q18 := KOw.mo hO18 (by omega) k hkO
            have hgw : g < u8.heap.size := (KOw.lt hO18).2
            have jl18 := J18.1
            generalize O[k] = m at q18
            obtain ⟨a, b, c', d, x, y⟩ := m
            dsimp only at q18
            have q18c := q18.cells
            go_wp2_with (at_builtin; refine wpList_append_own _ rfl _ _ 48 rfl (gl + 1) 37 i0 (.agg #[.int .i64 0, .int .i64 0, .int .i64 0, .int .i64 0, .int .i64 0, .int .i64 0]) 6 48 Tryz.underlying48 hinf hz0 hz1 hz2 rfl (by decide) _ _ _ rfl (KOw.alloc hO18 _) ⟨u8.heap.size, 0, none⟩ 1 1 [.int .i64 a, .int .i64 b, .int .i64 c', .int .i64 d, .int .i64 x, .int .i64 y] rfl rfl (new_six _ _ _ _ _ _ _ rfl) one_six (by unfold maxLen; omega) (by omega) (by (try simp only [World.size_alloc]); first | omega | (simp <;> omega)) ?_)
            intro v33 w33 hown33 hgr33 _
            have O33 : w33.ownsRow (gl + 1) 37 6 v33 (O ++ [(a, b, c', d, x, y)]).length (cells6 (O ++ [(a, b, c', d, x, y)])) := own_next6 hown33
            have B33 : Below (gl + 1) u8 w33 := Below.grown (Below.alloc (Below.refl _ _) (by omega) _) hgr33 (by first | omega | (simp <;> omega)) (fun r hr => by have := (World.ownsRow.lt hO18 _ hr).1; omega)
            have J33 := J18.grow B33 (by omega)
            have Z33 := Z18.grow B33 (by have := Z18.lt; omega)
            have S33 := S18.grow B33 hpg
            have P33 := P18.thenB (by omega) B33
            have hlst : (O ++ [(a, b, c', d, x, y)]).length ≤ 769 := by rw [List.length_append]; simp; omega
            have SR33 := Lib.hid (SRow.of6 O33 (by omega))
            generalize hn33 : (O ++ [(a, b, c', d, x, y)]).length = n33 at SR33 hlst
            clear hown33 hgr33 O33 J18 Z18 S18 P18 hO18 B33 q18 q18c
            have j9c := J33.cells
            have j9l := J33.1
            obtain ⟨z0, z1, z2, z3, z4, z5, z6⟩ := id Z33
            have hsl9 := S33.lt
            go_wp2_with fail
            go_region_held3 (fun W => (W.cell? ⟨gl, 0, none⟩ = some (.int .i64 A) ∧ W.cell? ⟨gl, 1, none⟩ = some (.int .i64 B) ∧ W.cell? ⟨gl, 2, none⟩ = some (.int .i64 C))) ((refine Kt.cells ?_; repeat (first | with_reducible assumption | with_reducible refine Kt.drew ?_ | (with_reducible refine Kt.farX (by first | omega | (dsimp only; omega)) ?_))))
              (fail)
            all_goals
              go_wp2
              refine bodyPost_ret (v := .tuple #[.int .i64 f, .agg #[.int .i64 A, .int .i64 B, .int .i64 C], v33]) (by simp [results, Tryz.results132, go_sem, *]) rfl ⟨f, A, B, C, v33, n33, (fm (O ++ [(a, b, c', d, x, y)])), rfl, by omega, ?_, ?_, ?_⟩
              · refine SRow.upX (hi := w33.heap.size) (SRow.lower7X (lo := gl + 1) ?_ (by omega))
                repeat (first | with_reducible exact SR33.out | with_reducible refine SRow.putX (by first | omega | (dsimp only; omega)) _ ?_ | with_reducible refine SRow.drewX ?_)
              · repeat (first | with_reducible assumption | (with_reducible refine Src.put (by first | omega | (simp; omega)) ?_) | with_reducible refine Src.alloc ?_ _ | with_reducible refine Src.drew ?_)
              · repeat (first | with_reducible assumption | (with_reducible refine Only.put ?_ (by first | exact Nat.le_refl _ | omega | (simp; omega)) _) | with_reducible refine Only.alloc ?_ _ | with_reducible refine Only.drew ?_)
          have b1 : (x == 1) = false := by simpa using hx1
          by_cases hx2 : x = 2
          · subst hx2
            have SRx := SRow.of6 hO18 (by omega)
            obtain ⟨gx, cx, ex, _, hgx, rx⟩ := SRx.2.2.resolve_left (fun h => by omega)
            simp only [Value.slice.injEq, Option.some.injEq, Addr.mk.injEq, and_true, true_and] at ex
            obtain ⟨rfl, rfl⟩ := ex
            have hglt := (KOw.lt hO18).1
            have hgw : g < u8.heap.size := (KOw.lt hO18).2
            have jl18 := J18.1
            have cx4 := rx.at (k * 6 + 4) (by omega)
            have fx4 := rx.free (k * 6 + 4) (by omega)
            obtain ⟨z9, hz9⟩ : ∃ z, z = fm O (k * 6 + 4) := ⟨_, rfl⟩
            rw [← hz9] at cx4
            obtain ⟨y9, hy9⟩ : ∃ y, IntKind.i64.wrap (z9 + 1) = y := ⟨_, rfl⟩
            have hy8 : wrap64 (z9 + 1) = y9 := by rw [← hy9, IntKind.wrap_i64]; first | (unfold wrap64; rfl) | (unfold wrap64; omega)
            have R33 := rx.put (k * 6 + 4) (by omega) y9
            have B33 : Below (gl + 1) u8 (u8.setCell ⟨g, k * 6 + 4, none⟩ (.int .i64 y9)) := (Below.refl _ _).setCell (by dsimp only; omega) _
            have J33 := J18.grow B33 (by omega)
            have Z33 := Z18.grow B33 (by have := Z18.lt; omega)
            have S33 := S18.grow B33 hpg
            have P33 := P18.thenB (by omega) B33
            have hlst : O.length ≤ 769 := by omega
            obtain ⟨FX, SR33⟩ : ∃ FX, Hid (SRow (gl + 1) (u8.setCell ⟨g, k * 6 + 4, none⟩ (.int .i64 y9)).heap.size 6 (.slice (some ⟨g, 0, none⟩) O.length c) O.length FX (u8.setCell ⟨g, k * 6 + 4, none⟩ (.int .i64 y9))) := ⟨_, Lib.hid ⟨Nat.le_refl _, by omega, .inr ⟨g, c, rfl, hglt, R33.1, R33⟩⟩⟩
            clear rx hz9 SRx R33 B33 J18 Z18 S18 P18 hO18
            go_upto_region 20 with fail
            generalize u8.setCell ⟨g, k * 6 + 4, none⟩ (.int .i64 y9) = w33 at *
            have j9c := J33.cells
            have j9l := J33.1
            obtain ⟨z0, z1, z2, z3, z4, z5, z6⟩ := id Z33
            have hsl9 := S33.lt
            go_region_held3 (fun W => (W.cell? ⟨gl, 0, none⟩ = some (.int .i64 A) ∧ W.cell? ⟨gl, 1, none⟩ = some (.int .i64 B) ∧ W.cell? ⟨gl, 2, none⟩ = some (.int .i64 C))) ((refine Kt.cells ?_; repeat (first | with_reducible assumption | with_reducible refine Kt.drew ?_ | (with_reducible refine Kt.farX (by first | omega | (dsimp only; omega)) ?_))))
              (fail)
            all_goals
              go_wp2
              refine bodyPost_ret (v := .tuple #[.int .i64 f, .agg #[.int .i64 A, .int .i64 B, .int .i64 C], (.slice (some ⟨g, 0, none⟩) O.length c)]) (by simp [results, Tryz.results132, go_sem, *]) rfl ⟨f, A, B, C, (.slice (some ⟨g, 0, none⟩) O.length c), O.length, FX, rfl, by omega, ?_, ?_, ?_⟩
              · refine SRow.upX (hi := w33.heap.size) (SRow.lower7X (lo := gl + 1) ?_ (by omega))
                repeat (first | with_reducible exact SR33.out | with_reducible refine SRow.putX (by first | omega | (dsimp only; omega)) _ ?_ | with_reducible refine SRow.drewX ?_)
              · repeat (first | with_reducible assumption | (with_reducible refine Src.put (by first | omega | (simp; omega)) ?_) | with_reducible refine Src.alloc ?_ _ | with_reducible refine Src.drew ?_)
              · repeat (first | with_reducible assumption | (with_reducible refine Only.put ?_ (by first | exact Nat.le_refl _ | omega | (simp; omega)) _) | with_reducible refine Only.alloc ?_ _ | with_reducible refine Only.drew ?_)
          have b2 : (x == 2) = false := by simpa using hx2
          have SR18 := Lib.hid (SRow.of6 hO18 (by omega))
          have hlst : O.length ≤ 769 := by omega
          clear hO18
          have j9c := J18.cells
          have j9l := J18.1
          obtain ⟨z0, z1, z2, z3, z4, z5, z6⟩ := id Z18
          have hsl9 := S18.lt
          go_wp2_with fail
          go_region_held3 (fun W => (W.cell? ⟨gl, 0, none⟩ = some (.int .i64 A) ∧ W.cell? ⟨gl, 1, none⟩ = some (.int .i64 B) ∧ W.cell? ⟨gl, 2, none⟩ = some (.int .i64 C))) ((refine Kt.cells ?_; repeat (first | with_reducible assumption | with_reducible refine Kt.drew ?_ | (with_reducible refine Kt.farX (by first | omega | (dsimp only; omega)) ?_))))
            (fail)
          all_goals
            go_wp2
            refine bodyPost_ret (v := .tuple #[.int .i64 f, .agg #[.int .i64 A, .int .i64 B, .int .i64 C], (.slice (some ⟨g, 0, none⟩) O.length c)]) (by simp [results, Tryz.results132, go_sem, *]) rfl ⟨f, A, B, C, (.slice (some ⟨g, 0, none⟩) O.length c), O.length, (fm O), rfl, by omega, ?_, ?_, ?_⟩
            · refine SRow.upX (hi := u8.heap.size) (SRow.lower7X (lo := gl + 1) ?_ (by omega))
              repeat (first | with_reducible exact SR18.out | with_reducible refine SRow.putX (by first | omega | (dsimp only; omega)) _ ?_ | with_reducible refine SRow.drewX ?_)
            · repeat (first | with_reducible assumption | (with_reducible refine Src.put (by first | omega | (simp; omega)) ?_) | with_reducible refine Src.alloc ?_ _ | with_reducible refine Src.drew ?_)
            · repeat (first | with_reducible assumption | (with_reducible refine Only.put ?_ (by first | exact Nat.le_refl _ | omega | (simp; omega)) _) | with_reducible refine Only.alloc ?_ _ | with_reducible refine Only.drew ?_)
end Go.Proofs.YtkfeajjpbmbmpaaGreatDoor
