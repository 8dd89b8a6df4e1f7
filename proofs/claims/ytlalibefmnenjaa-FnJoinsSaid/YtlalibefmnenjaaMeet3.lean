/-
  Contracts of chapter 3's MeetLattices: the program's function and the model's have one and the same answer. No condition.
-/
import Derived.Test.YtlalibefmnenjaaMeet1
namespace Go.Proofs.Ytlalibefmnenjaa
open Go.RowKit
set_option linter.unusedSimpArgs false
set_option linter.unusedVariables false

def meetC (A B C A' B' C' : Int) : Int := ((A * C * (A' * C')).tdiv ((latL (joinL A B C A' B' C')).1 * (latL (joinL A B C A' B' C')).2.2)).tdiv (lcmA A A')
def meetB (A B C A' B' C' : Int) : Int := ((List.range (lcmA A A').toNat).find? (fun x : Nat => hasB A B C (x : Int) (meetC A B C A' B' C') && hasB A' B' C' (x : Int) (meetC A B C A' B' C'))).elim 0 (fun x => (x : Int))
def meetR (A B C A' B' C' : Int) : Int × Int × Int × Int := bif latB A B C && latB A' B' C' then limR (lcmA A A', meetB A B C A' B' C', meetC A B C A' B' C') else (0, 0, 0, 1)
def meetT (A B C A' B' C' : Int) : Value := latT (meetR A B C A' B' C')
theorem meet_nums {A B C A' B' C' b c i : Int} (hA : 0 < A) (hA' : 0 < A') (MF : MeetF A B C A' B' C' (lcmA A A') b c i ((latL (joinL A B C A' B' C')).1) ((latL (joinL A B C A' B' C')).2.2)) : meetC A B C A' B' C' = c ∧ meetB A B C A' B' C' = b := by
  have hc : meetC A B C A' B' C' = c := MF.hc
  refine ⟨hc, ?_⟩
  unfold meetB
  rw [hc]
  have b1 := MF.b1
  have b2 := MF.b2
  have hb := both_iff.1 MF.hb
  cases hf : (List.range (lcmA A A').toNat).find? (fun x : Nat => hasB A B C (x : Int) c && hasB A' B' C' (x : Int) c) with
  | none =>
    have h1 := List.find?_eq_none.1 hf b.toNat (List.mem_range.2 (by omega))
    rw [show ((b.toNat : Nat) : Int) = b by omega, hb.1, hb.2] at h1
    exact absurd rfl h1
  | some x =>
    have h1 := List.find?_some hf
    have h2 := List.mem_range.1 (List.mem_of_find?_eq_some hf)
    simp only [Bool.and_eq_true] at h1
    have h3 := MF.uniq hA hA' (both_iff.2 h1)
    rw [Int.emod_eq_of_lt (by omega) (by omega)] at h3
    exact h3

set_option maxHeartbeats 8000000 in
theorem implMeet_any (A B C A' B' C' : Int) (w : World) :
    Calls Try.prog 31 #[.agg #[.int .i64 A, .int .i64 B, .int .i64 C], .agg #[.int .i64 A', .int .i64 B', .int .i64 C']] w fun e w' => e = .returned (meetT A B C A' B' C') ∧ Below w.heap.size w w' := by
  rcases hu : latB A B C with _ | _
  · have ea : meetT A B C A' B' C' = .tuple #[.agg #[.int .i64 0, .int .i64 0, .int .i64 0], .int .i64 1] := by simp [meetT, latT, meetR, hu]
    have EA := Lib.hid ea
    clear ea
    go_enter Try.func31, Try.ntmps31
    go_wp2_with fail
    refine (isValidL_any _ _ _ _).mono ?_
    rintro e w1 ⟨rfl, hb1⟩
    obtain ⟨hc1, hf1⟩ := bcell hb1
    obtain ⟨hz1a, hz1b, hz1c⟩ : w.heap.size < w1.heap.size ∧ w.heap.size + 1 < w1.heap.size ∧ w.heap.size + 1 + 1 < w1.heap.size := by have := hb1.size; (try simp at this); omega
    go_wp2
    refine bodyPost_ret (v := .tuple #[.agg #[.int .i64 0, .int .i64 0, .int .i64 0], .int .i64 1]) (by simp [results, Try.results31, go_sem, hc1, hz1a, hz1b, hz1c]) rfl ⟨ret_val EA.out.symm, ?_⟩
    repeat (first | exact Below.refl _ _ | refine Below.setCell ?_ (by first | omega | (simp <;> omega)) _ | refine Below.alloc ?_ (by first | omega | (simp <;> omega)) _ | refine bstep ?_ (by assumption) | refine Below.drew ?_)
  rcases hv : latB A' B' C' with _ | _
  · have ea : meetT A B C A' B' C' = .tuple #[.agg #[.int .i64 0, .int .i64 0, .int .i64 0], .int .i64 1] := by simp [meetT, latT, meetR, hv]
    have EA := Lib.hid ea
    clear ea
    go_enter Try.func31, Try.ntmps31
    go_wp2_with fail
    refine (isValidL_any _ _ _ _).mono ?_
    rintro e w1 ⟨rfl, hb1⟩
    obtain ⟨hc1, hf1⟩ := bcell hb1
    obtain ⟨hz1a, hz1b, hz1c⟩ : w.heap.size < w1.heap.size ∧ w.heap.size + 1 < w1.heap.size ∧ w.heap.size + 1 + 1 < w1.heap.size := by have := hb1.size; (try simp at this); omega
    go_wp2_with fail
    refine (isValidL_any _ _ _ _).mono ?_
    rintro e w2 ⟨rfl, hb2⟩
    obtain ⟨hc2, hf2⟩ := bcell hb2
    obtain ⟨hz2a, hz2b, hz2c⟩ : w.heap.size < w2.heap.size ∧ w.heap.size + 1 < w2.heap.size ∧ w.heap.size + 1 + 1 < w2.heap.size := by have := hb2.size; (try simp at this); omega
    go_wp2
    refine bodyPost_ret (v := .tuple #[.agg #[.int .i64 0, .int .i64 0, .int .i64 0], .int .i64 1]) (by simp [results, Try.results31, go_sem, hc1, hz1a, hz1b, hz1c, hc2, hz2a, hz2b, hz2c]) rfl ⟨ret_val EA.out.symm, ?_⟩
    repeat (first | exact Below.refl _ _ | refine Below.setCell ?_ (by first | omega | (simp <;> omega)) _ | refine Below.alloc ?_ (by first | omega | (simp <;> omega)) _ | refine bstep ?_ (by assumption) | refine Below.drew ?_)
  · skip
    have hi := latB_iff.1 hu
    have hj := latB_iff.1 hv
    obtain ⟨b, c, i, MF⟩ := meet_facts hi hj
    obtain ⟨n1, n2⟩ := meet_nums (by have := hi.1; omega) (by have := hj.1; omega) MF
    have ea : meetT A B C A' B' C' = .tuple #[.agg #[.int .i64 ((limR (lcmA A A', b, c)).1), .int .i64 ((limR (lcmA A A', b, c)).2.1), .int .i64 ((limR (lcmA A A', b, c)).2.2.1)], .int .i64 (limR (lcmA A A', b, c)).2.2.2] := by simp [meetT, latT, meetR, hu, hv, n1, n2]
    clear n1 n2
    have EA := Lib.hid ea
    clear ea
    go_enter Try.func31, Try.ntmps31
    go_wp2_with fail
    refine (isValidL_any _ _ _ _).mono ?_
    rintro e w1 ⟨rfl, hb1⟩
    obtain ⟨hc1, hf1⟩ := bcell hb1
    obtain ⟨hz1a, hz1b, hz1c⟩ : w.heap.size < w1.heap.size ∧ w.heap.size + 1 < w1.heap.size ∧ w.heap.size + 1 + 1 < w1.heap.size := by have := hb1.size; (try simp at this); omega
    go_wp2_with fail
    refine (isValidL_any _ _ _ _).mono ?_
    rintro e w2 ⟨rfl, hb2⟩
    obtain ⟨hc2, hf2⟩ := bcell hb2
    obtain ⟨hz2a, hz2b, hz2c⟩ : w.heap.size < w2.heap.size ∧ w.heap.size + 1 < w2.heap.size ∧ w.heap.size + 1 + 1 < w2.heap.size := by have := hb2.size; (try simp at this); omega
    have KR2 : KL (w.heap.size + 1 + 1) 0 0 0 w2 := KL.call (KL.call (KL.at _ (by simp)) hb1) hb2
    have KM2 : Kt (w.heap.size + 1) A' B' C' w2 := Kt.call (Kt.call (Kt.alloc (Kt.at _ (by simp)) _) hb1) hb2
    have KL2 : Kt w.heap.size A B C w2 := Kt.call (Kt.call (Kt.alloc (Kt.alloc (Kt.at _ rfl) _) _) hb1) hb2
    have B2 : Below w.heap.size w w2 := by
      repeat (first | exact Below.refl _ _ | refine Below.setCell ?_ (by first | omega | (simp <;> omega)) _ | refine Below.alloc ?_ (by first | omega | (simp <;> omega)) _ | refine bstep ?_ (by assumption) | refine Below.drew ?_)
    clear hb1 hb2 hc1 hc2 hf1 hf2
    obtain ⟨m0, m1, m2, m3⟩ := id KM2
    obtain ⟨l0, l1, l2, l3⟩ := id KL2
    go_wp2_with fail
    refine (meet_call A B C A' B' C' (lcmA A A') b c i _ hi hj MF).mono ?_
    rintro e w4 ⟨rfl, hb4⟩
    have KR4 := KR2.call hb4
    have B4 := bstep B2 hb4
    clear hb4 KM2 KL2 m0 m1 m2 m3 l0 l1 l2 l3 KR2 B2
    go_wp2_with fail
    refine (limLat_any _ _ _ _).mono ?_
    rintro e w5 ⟨he, hb5⟩
    unfold latT at he
    subst he
    have B5 := bstep B4 hb5
    have KR := KR4.call hb5
    obtain ⟨b0, b1, b2, b3, b4, b5, b6⟩ := id KR
    clear hb5
    go_wp2
    refine bodyPost_ret (v := .tuple #[.agg #[.int .i64 ((limR (lcmA A A', b, c)).1), .int .i64 ((limR (lcmA A A', b, c)).2.1), .int .i64 ((limR (lcmA A A', b, c)).2.2.1)], .int .i64 (limR (lcmA A A', b, c)).2.2.2]) (by simp [results, Try.results31, go_sem, b0, b1, b2, b3, b4, b5, b6]) rfl ⟨ret_val EA.out.symm, ?_⟩
    repeat (first | assumption | refine Below.setCell ?_ (by first | omega | (simp <;> omega)) _ | refine Below.drew ?_)

set_option maxHeartbeats 8000000 in
theorem specMeet_any (A B C A' B' C' : Int) (w : World) :
    Calls Try.prog 32 #[.agg #[.int .i64 A, .int .i64 B, .int .i64 C], .agg #[.int .i64 A', .int .i64 B', .int .i64 C']] w fun e w' => e = .returned (meetT A B C A' B' C') ∧ Below w.heap.size w w' := by
  rcases hu : latB A B C with _ | _
  · have ea : meetT A B C A' B' C' = .tuple #[.agg #[.int .i64 0, .int .i64 0, .int .i64 0], .int .i64 1] := by simp [meetT, latT, meetR, hu]
    have EA := Lib.hid ea
    clear ea
    go_enter Try.func32, Try.ntmps32
    go_wp2_with fail
    refine (specIsLattice_any _ _ _ _).mono ?_
    rintro e w1 ⟨rfl, hb1⟩
    obtain ⟨hc1, hf1⟩ := bcell hb1
    obtain ⟨hz1a, hz1b, hz1c⟩ : w.heap.size < w1.heap.size ∧ w.heap.size + 1 < w1.heap.size ∧ w.heap.size + 1 + 1 < w1.heap.size := by have := hb1.size; (try simp at this); omega
    go_wp2
    refine bodyPost_ret (v := .tuple #[.agg #[.int .i64 0, .int .i64 0, .int .i64 0], .int .i64 1]) (by simp [results, Try.results32, go_sem, hc1, hz1a, hz1b, hz1c]) rfl ⟨ret_val EA.out.symm, ?_⟩
    repeat (first | exact Below.refl _ _ | refine Below.setCell ?_ (by first | omega | (simp <;> omega)) _ | refine Below.alloc ?_ (by first | omega | (simp <;> omega)) _ | refine bstep ?_ (by assumption) | refine Below.drew ?_)
  rcases hv : latB A' B' C' with _ | _
  · have ea : meetT A B C A' B' C' = .tuple #[.agg #[.int .i64 0, .int .i64 0, .int .i64 0], .int .i64 1] := by simp [meetT, latT, meetR, hv]
    have EA := Lib.hid ea
    clear ea
    go_enter Try.func32, Try.ntmps32
    go_wp2_with fail
    refine (specIsLattice_any _ _ _ _).mono ?_
    rintro e w1 ⟨rfl, hb1⟩
    obtain ⟨hc1, hf1⟩ := bcell hb1
    obtain ⟨hz1a, hz1b, hz1c⟩ : w.heap.size < w1.heap.size ∧ w.heap.size + 1 < w1.heap.size ∧ w.heap.size + 1 + 1 < w1.heap.size := by have := hb1.size; (try simp at this); omega
    go_wp2_with fail
    refine (specIsLattice_any _ _ _ _).mono ?_
    rintro e w2 ⟨rfl, hb2⟩
    obtain ⟨hc2, hf2⟩ := bcell hb2
    obtain ⟨hz2a, hz2b, hz2c⟩ : w.heap.size < w2.heap.size ∧ w.heap.size + 1 < w2.heap.size ∧ w.heap.size + 1 + 1 < w2.heap.size := by have := hb2.size; (try simp at this); omega
    go_wp2
    refine bodyPost_ret (v := .tuple #[.agg #[.int .i64 0, .int .i64 0, .int .i64 0], .int .i64 1]) (by simp [results, Try.results32, go_sem, hc1, hz1a, hz1b, hz1c, hc2, hz2a, hz2b, hz2c]) rfl ⟨ret_val EA.out.symm, ?_⟩
    repeat (first | exact Below.refl _ _ | refine Below.setCell ?_ (by first | omega | (simp <;> omega)) _ | refine Below.alloc ?_ (by first | omega | (simp <;> omega)) _ | refine bstep ?_ (by assumption) | refine Below.drew ?_)
  · skip
    have hi := latB_iff.1 hu
    have hj := latB_iff.1 hv
    obtain ⟨b, c, i, MF⟩ := meet_facts hi hj
    obtain ⟨n1, n2⟩ := meet_nums (by have := hi.1; omega) (by have := hj.1; omega) MF
    have ea : meetT A B C A' B' C' = .tuple #[.agg #[.int .i64 ((limR (lcmA A A', b, c)).1), .int .i64 ((limR (lcmA A A', b, c)).2.1), .int .i64 ((limR (lcmA A A', b, c)).2.2.1)], .int .i64 (limR (lcmA A A', b, c)).2.2.2] := by simp [meetT, latT, meetR, hu, hv, n1, n2]
    clear n1 n2
    have EA := Lib.hid ea
    clear ea
    go_enter Try.func32, Try.ntmps32
    go_wp2_with fail
    refine (specIsLattice_any _ _ _ _).mono ?_
    rintro e w1 ⟨rfl, hb1⟩
    obtain ⟨hc1, hf1⟩ := bcell hb1
    obtain ⟨hz1a, hz1b, hz1c⟩ : w.heap.size < w1.heap.size ∧ w.heap.size + 1 < w1.heap.size ∧ w.heap.size + 1 + 1 < w1.heap.size := by have := hb1.size; (try simp at this); omega
    go_wp2_with fail
    refine (specIsLattice_any _ _ _ _).mono ?_
    rintro e w2 ⟨rfl, hb2⟩
    obtain ⟨hc2, hf2⟩ := bcell hb2
    obtain ⟨hz2a, hz2b, hz2c⟩ : w.heap.size < w2.heap.size ∧ w.heap.size + 1 < w2.heap.size ∧ w.heap.size + 1 + 1 < w2.heap.size := by have := hb2.size; (try simp at this); omega
    have KR2 : KL (w.heap.size + 1 + 1) 0 0 0 w2 := KL.call (KL.call (KL.at _ (by simp)) hb1) hb2
    have KM2 : Kt (w.heap.size + 1) A' B' C' w2 := Kt.call (Kt.call (Kt.alloc (Kt.at _ (by simp)) _) hb1) hb2
    have KL2 : Kt w.heap.size A B C w2 := Kt.call (Kt.call (Kt.alloc (Kt.alloc (Kt.at _ rfl) _) _) hb1) hb2
    have B2 : Below w.heap.size w w2 := by
      repeat (first | exact Below.refl _ _ | refine Below.setCell ?_ (by first | omega | (simp <;> omega)) _ | refine Below.alloc ?_ (by first | omega | (simp <;> omega)) _ | refine bstep ?_ (by assumption) | refine Below.drew ?_)
    clear hb1 hb2 hc1 hc2 hf1 hf2
    have ba := latI_bd hi
    have bb := latI_bd hj
    have HI := Lib.hid hi
    have HJ := Lib.hid hj
    have HF := Lib.hid MF
    have hA : 0 < A := by have := hi.1; omega
    have hA' : 0 < A' := by have := hj.1; omega
    have a1 := MF.a1
    have a2 := MF.a2
    have c1 := MF.c1
    have c2 := MF.c2
    have n1 := MF.b1
    have n2 := MF.b2
    generalize lcmA A A' = a at *
    clear MF hi hj
    go_wp2_with fail
    go_loopw [6] (fun s W => ∃ x : Int, s = .int .i64 x ∧ 1 ≤ x ∧ x ≤ a ∧ MidM w A B C A' B' C' W) (fun s _ => (a - intOf s).toNat)
    case atStart => exact ⟨1, rfl, by omega, a1, KL2, KM2, KR2, B2⟩
    case round =>
      clear KL2 KM2 KR2 B2
      obtain ⟨x, rfl, x1, x2, PL, PM, PR, PB⟩ := hrel
      obtain ⟨m0, m1, m2, m3⟩ := id PM
      obtain ⟨l0, l1, l2, l3⟩ := id PL
      have hax := HF.out.axis hA hA' x1 x2
      by_cases hxa : x = a
      · subst hxa
        simp only [decide_true, Bool.and_eq_true] at hax
        have H1 := Lib.hid hax.1
        have H2 := Lib.hid hax.2
        clear hax
        go_wp2_with fail
        refine (l03Has_any A B C x 0 _ HI.out (by unfold midI; omega) (by unfold midI; omega)).mono ?_
        rintro e u1 ⟨rfl, hb1⟩
        rw [H1.out]
        have PL1 := PL.call hb1
        have PM1 := PM.call hb1
        have PR1 := PR.call hb1
        have PB1 := bstep PB hb1
        clear hb1 l0 l1 l2 l3 m0 m1 m2 m3 PL PM PR PB
        have PL := PL1
        have PM := PM1
        have PR := PR1
        have PB := PB1
        clear PL1 PM1 PR1 PB1
        obtain ⟨l0, l1, l2, l3⟩ := id PL
        obtain ⟨m0, m1, m2, m3⟩ := id PM
        go_wp2_with fail
        refine (l03Has_any A' B' C' x 0 _ HJ.out (by unfold midI; omega) (by unfold midI; omega)).mono ?_
        rintro e u2 ⟨rfl, hb2⟩
        rw [H2.out]
        have PL2 := PL.call hb2
        have PM2 := PM.call hb2
        have PR2 := PR.call hb2
        have PB2 := bstep PB hb2
        clear hb2 l0 l1 l2 l3 m0 m1 m2 m3 PL PM PR PB
        have PL := PL2
        have PM := PM2
        have PR := PR2
        have PB := PB2
        clear PL2 PM2 PR2 PB2
        obtain ⟨l0, l1, l2, l3⟩ := id PL
        obtain ⟨m0, m1, m2, m3⟩ := id PM
        clear H1 H2
        go_wp2_with fail
        go_loopw [7] (fun s W => ∃ y : Int, s = .int .i64 y ∧ 1 ≤ y ∧ y ≤ c ∧ MidM w A B C A' B' C' W) (fun s _ => (c - intOf s).toNat)
        case atStart => exact ⟨1, rfl, by omega, c1, PL, PM, PR, PB⟩
        case round =>
          clear PL PM PR PB l0 l1 l2 l3 m0 m1 m2 m3
          obtain ⟨y, rfl, y1, y2, PL, PM, PR, PB⟩ := hrel
          go_wp2_with fail
          go_loopw [8] (fun s W => ∃ z : Int, s = .int .i64 z ∧ 0 ≤ z ∧ z ≤ x ∧ Hid (y = c → z ≤ b) ∧ MidM w A B C A' B' C' W) (fun s _ => (x - intOf s).toNat)
          case atStart => exact ⟨0, rfl, by omega, by omega, Lib.hid (fun _ => n1), PL, PM, PR, PB⟩
          case round =>
            clear PL PM PR PB
            obtain ⟨z, rfl, z1, z2, HZ, PL, PM, PR, PB⟩ := hrel
            by_cases hz : z < x
            · have PL' := PL.alloc (.cells #[.int .i64 z, .int .i64 y] 27)
              have PM' := PM.alloc (.cells #[.int .i64 z, .int .i64 y] 27)
              have PR' := PR.alloc (.cells #[.int .i64 z, .int .i64 y] 27)
              have PB' := PB.alloc PB.size (.cells #[.int .i64 z, .int .i64 y] 27)
              have KZ : Kg wr.heap.size z y (wr.alloc (.cells #[.int .i64 z, .int .i64 y] 27)) := Kg.at3 _ rfl
              clear PL PM PR PB
              have PL := PL'
              have PM := PM'
              have PR := PR'
              have PB := PB'
              clear PL' PM' PR' PB'
              obtain ⟨l0, l1, l2, l3⟩ := id PL
              obtain ⟨m0, m1, m2, m3⟩ := id PM
              have hzlt := KZ.1
              rcases hh : hasB A B C z y with _ | _
              · have H1 := Lib.hid hh
                have HN := Lib.hid (show y = c → z + 1 ≤ b by
                  intro hy
                  have h1 := HZ.out hy
                  by_cases hzb : z = b
                  · have h2 := (both_iff.1 HF.out.hb).1
                    rw [← hy, ← hzb, H1.out] at h2
                    cases h2
                  · omega)
                clear hh
                go_wp2_with fail
                refine (l03Has_any A B C z y _ HI.out (by unfold midI; omega) (by unfold midI; omega)).mono ?_
                rintro e u1 ⟨rfl, hb1⟩
                rw [H1.out]
                have PL1 := PL.call hb1
                have PM1 := PM.call hb1
                have PR1 := PR.call hb1
                have PB1 := bstep PB hb1
                clear hb1 l0 l1 l2 l3 m0 m1 m2 m3 PL PM PR PB
                have PL := PL1
                have PM := PM1
                have PR := PR1
                have PB := PB1
                clear PL1 PM1 PR1 PB1
                obtain ⟨l0, l1, l2, l3⟩ := id PL
                obtain ⟨m0, m1, m2, m3⟩ := id PM
                go_wp2
                go_roundw
                case rel => exact ⟨z + 1, rfl, by omega, by omega, HN, PL, PM, PR, PB⟩
                case measure => simp [intOf]; omega
              · have H1 := Lib.hid hh
                rcases hh2 : hasB A' B' C' z y with _ | _
                · have H2 := Lib.hid hh2
                  have HN := Lib.hid (show y = c → z + 1 ≤ b by
                    intro hy
                    have h1 := HZ.out hy
                    by_cases hzb : z = b
                    · have h2 := (both_iff.1 HF.out.hb).2
                      rw [← hy, ← hzb, H2.out] at h2
                      cases h2
                    · omega)
                  clear hh hh2
                  have KZ' := KZ
                  obtain ⟨kz0, kz1, kz2⟩ := id KZ
                  go_wp2_with fail
                  refine (l03Has_any A B C z y _ HI.out (by unfold midI; omega) (by unfold midI; omega)).mono ?_
                  rintro e u1 ⟨rfl, hb1⟩
                  rw [H1.out]
                  have PL1 := PL.call hb1
                  have PM1 := PM.call hb1
                  have PR1 := PR.call hb1
                  have PB1 := bstep PB hb1
                  have KZ1 := KZ.call hb1
                  obtain ⟨kz0, kz1, kz2⟩ := id KZ1
                  clear hb1 l0 l1 l2 l3 m0 m1 m2 m3 PL PM PR PB
                  have PL := PL1
                  have PM := PM1
                  have PR := PR1
                  have PB := PB1
                  clear PL1 PM1 PR1 PB1
                  obtain ⟨l0, l1, l2, l3⟩ := id PL
                  obtain ⟨m0, m1, m2, m3⟩ := id PM
                  go_wp2_with fail
                  refine (l03Has_any A' B' C' z y _ HJ.out (by unfold midI; omega) (by unfold midI; omega)).mono ?_
                  rintro e u2 ⟨rfl, hb2⟩
                  rw [H2.out]
                  have PL2 := PL.call hb2
                  have PM2 := PM.call hb2
                  have PR2 := PR.call hb2
                  have PB2 := bstep PB hb2
                  clear hb2 l0 l1 l2 l3 m0 m1 m2 m3 PL PM PR PB
                  have PL := PL2
                  have PM := PM2
                  have PR := PR2
                  have PB := PB2
                  clear PL2 PM2 PR2 PB2
                  obtain ⟨l0, l1, l2, l3⟩ := id PL
                  obtain ⟨m0, m1, m2, m3⟩ := id PM
                  go_wp2
                  go_roundw
                  case rel => exact ⟨z + 1, rfl, by omega, by omega, HN, PL, PM, PR, PB⟩
                  case measure => simp [intOf]; omega
                · have H2 := Lib.hid hh2
                  obtain ⟨e1, e2⟩ := HF.out.hit hA hA' (both_iff.2 ⟨hh, hh2⟩) y1 y2 z1 hz
                  subst e1 e2
                  clear hh hh2
                  obtain ⟨kz0, kz1, kz2⟩ := id KZ
                  go_wp2_with fail
                  refine (l03Has_any A B C z y _ HI.out (by unfold midI; omega) (by unfold midI; omega)).mono ?_
                  rintro e u1 ⟨rfl, hb1⟩
                  rw [H1.out]
                  have PL1 := PL.call hb1
                  have PM1 := PM.call hb1
                  have PR1 := PR.call hb1
                  have PB1 := bstep PB hb1
                  have KZ1 := KZ.call hb1
                  obtain ⟨kz0, kz1, kz2⟩ := id KZ1
                  clear hb1 l0 l1 l2 l3 m0 m1 m2 m3 PL PM PR PB
                  have PL := PL1
                  have PM := PM1
                  have PR := PR1
                  have PB := PB1
                  clear PL1 PM1 PR1 PB1
                  obtain ⟨l0, l1, l2, l3⟩ := id PL
                  obtain ⟨m0, m1, m2, m3⟩ := id PM
                  go_wp2_with fail
                  refine (l03Has_any A' B' C' z y _ HJ.out (by unfold midI; omega) (by unfold midI; omega)).mono ?_
                  rintro e u2 ⟨rfl, hb2⟩
                  rw [H2.out]
                  have PL2 := PL.call hb2
                  have PM2 := PM.call hb2
                  have PR2 := PR.call hb2
                  have PB2 := bstep PB hb2
                  clear hb2 l0 l1 l2 l3 m0 m1 m2 m3 PL PM PR PB
                  have PL := PL2
                  have PM := PM2
                  have PR := PR2
                  have PB := PB2
                  clear PL2 PM2 PR2 PB2
                  obtain ⟨l0, l1, l2, l3⟩ := id PL
                  obtain ⟨m0, m1, m2, m3⟩ := id PM
                  go_wp2_with fail
                  refine (resLat_any _ _ _ _).mono ?_
                  rintro e w5 ⟨he, hb5⟩
                  unfold latT at he
                  subst he
                  have B5 := bstep PB hb5
                  have KR := PR.call hb5
                  obtain ⟨b0, b1, b2, b3, b4, b5, b6⟩ := id KR
                  clear hb5
                  go_wp2
                  refine bodyPost_ret (v := .tuple #[.agg #[.int .i64 ((limR (x, z, y)).1), .int .i64 ((limR (x, z, y)).2.1), .int .i64 ((limR (x, z, y)).2.2.1)], .int .i64 (limR (x, z, y)).2.2.2]) (by simp [results, Try.results32, go_sem, b0, b1, b2, b3, b4, b5, b6]) rfl ⟨ret_val EA.out.symm, ?_⟩
                  repeat (first | assumption | refine Below.setCell ?_ (by first | omega | (simp <;> omega)) _ | refine Below.drew ?_)
            · obtain rfl : z = x := by omega
              have hyc : y ≠ c := fun hy => by have := HZ.out hy; omega
              go_wp2
              go_roundw
              case rel => exact ⟨y + 1, rfl, by omega, by omega, PL, PM, PR, PB⟩
              case measure => simp [intOf]; omega
      · simp only [decide_eq_false hxa] at hax
        rcases hh : hasB A B C x 0 with _ | _
        · have H1 := Lib.hid hh
          clear hh hax
          go_wp2_with fail
          refine (l03Has_any A B C x 0 _ HI.out (by unfold midI; omega) (by unfold midI; omega)).mono ?_
          rintro e u1 ⟨rfl, hb1⟩
          rw [H1.out]
          have PL1 := PL.call hb1
          have PM1 := PM.call hb1
          have PR1 := PR.call hb1
          have PB1 := bstep PB hb1
          clear hb1 l0 l1 l2 l3 m0 m1 m2 m3 PL PM PR PB
          have PL := PL1
          have PM := PM1
          have PR := PR1
          have PB := PB1
          clear PL1 PM1 PR1 PB1
          obtain ⟨l0, l1, l2, l3⟩ := id PL
          obtain ⟨m0, m1, m2, m3⟩ := id PM
          go_wp2
          go_roundw
          case rel => exact ⟨x + 1, rfl, by omega, by omega, PL, PM, PR, PB⟩
          case measure => simp [intOf]; omega
        · have H1 := Lib.hid hh
          rw [hh, Bool.true_and] at hax
          have H2 := Lib.hid hax
          clear hh hax
          go_wp2_with fail
          refine (l03Has_any A B C x 0 _ HI.out (by unfold midI; omega) (by unfold midI; omega)).mono ?_
          rintro e u1 ⟨rfl, hb1⟩
          rw [H1.out]
          have PL1 := PL.call hb1
          have PM1 := PM.call hb1
          have PR1 := PR.call hb1
          have PB1 := bstep PB hb1
          clear hb1 l0 l1 l2 l3 m0 m1 m2 m3 PL PM PR PB
          have PL := PL1
          have PM := PM1
          have PR := PR1
          have PB := PB1
          clear PL1 PM1 PR1 PB1
          obtain ⟨l0, l1, l2, l3⟩ := id PL
          obtain ⟨m0, m1, m2, m3⟩ := id PM
          go_wp2_with fail
          refine (l03Has_any A' B' C' x 0 _ HJ.out (by unfold midI; omega) (by unfold midI; omega)).mono ?_
          rintro e u2 ⟨rfl, hb2⟩
          rw [H2.out]
          have PL2 := PL.call hb2
          have PM2 := PM.call hb2
          have PR2 := PR.call hb2
          have PB2 := bstep PB hb2
          clear hb2 l0 l1 l2 l3 m0 m1 m2 m3 PL PM PR PB
          have PL := PL2
          have PM := PM2
          have PR := PR2
          have PB := PB2
          clear PL2 PM2 PR2 PB2
          obtain ⟨l0, l1, l2, l3⟩ := id PL
          obtain ⟨m0, m1, m2, m3⟩ := id PM
          go_wp2
          go_roundw
          case rel => exact ⟨x + 1, rfl, by omega, by omega, PL, PM, PR, PB⟩
          case measure => simp [intOf]; omega

end Go.Proofs.Ytlalibefmnenjaa
