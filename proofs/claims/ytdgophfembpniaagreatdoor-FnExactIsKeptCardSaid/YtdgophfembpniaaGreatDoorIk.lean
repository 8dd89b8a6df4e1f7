/-
 IsKept and OrbitColours in the program and in the model. Conditions: slices that lie in blocks of their own, the list's length is below the model's bound; the program's variable unitMatrix holds the unit.
-/
import Derived.Test.YtdgophfembpniaaGreatDoorOc
import Derived.Test.YtdgophfembpniaaGreatDoorSb8
import Derived.Test.YtdgophfembpniaaGreatDoorMg6
import Derived.Deep.RegionHeld3
import Derived.IntWalk
namespace Go.Proofs.YtdgophfembpniaaGreatDoor
open Go.RowKit
set_option linter.unusedSimpArgs false
set_option linter.unusedVariables false

def gdB (f A B C : Int) (n : Nat) (F : Nat → Int) (xs : List M6) : Bool := patB f A B C n F && grpB f A B C xs
def ikC (f A B C : Int) (n : Nat) (F : Nat → Int) (xs : List M6) : Int := bif patB f A B C n F then cod6 f A B C (grpB f A B C xs) else 1
def ikK (A B C : Int) (F : Nat → Int) (xs : List M6) : Bool := kpG A.toNat B C.toNat F xs
def ikB (f A B C : Int) (n : Nat) (F : Nat → Int) (xs : List M6) : Bool := gdB f A B C n F xs && ikK A B C F xs
def ikT (f A B C : Int) (n : Nat) (F : Nat → Int) (xs : List M6) : Value := .tuple #[.bool (ikB f A B C n F xs), .int .i64 (ikC f A B C n F xs)]
theorem gd_parts {f A B C : Int} {n : Nat} {F : Nat → Int} {xs : List M6} (h : gdB f A B C n F xs = true) : ∃ p q : Nat, A = (p : Int) ∧ C = (q : Int) ∧ PatI f p B q n F ∧ grpB f A B C xs = true ∧ ikC f A B C n F xs = 0 := by
 unfold gdB at h
 rw [Bool.and_eq_true] at h
 obtain ⟨p, q, e1, e2, hp⟩ := patB_of h.1
 refine ⟨p, q, e1, e2, hp, h.2, ?_⟩
 unfold ikC
 rw [h.1, h.2]
 exact cod6_ok h.2
theorem pat_fl {f A B C : Int} {n : Nat} {F : Nat → Int} (h : patB f A B C n F = true) : flB f A B C = true := by
 simp only [patB, Bool.and_eq_true] at h
 simp only [flB, Bool.and_eq_true]
 exact ⟨h.1, h.2.1⟩
theorem gd_bad {f A B C : Int} {n : Nat} {F : Nat → Int} {xs : List M6} (h : gdB f A B C n F xs = false) : (ikC f A B C n F xs != 0) = true ∧ ikB f A B C n F xs = false := by
 refine ⟨?_, by simp [ikB, h]⟩
 unfold ikC
 rcases h1 : patB f A B C n F with _ | _
 ·rfl
 ·have h2 : grpB f A B C xs = false := by unfold gdB at h; simpa [h1] using h
  rw [h2]
  exact cod6_nz f A B C
theorem ok_limK {f A B C : Int} {m : M6} (h : okM f A B C m = true) : limB m.1 m.2.1 m.2.2.1 m.2.2.2.1 = true ∧ vecB m.2.2.2.2.1 m.2.2.2.2.2 = true := by
 have h5 := okM_iff.1 h
 have hfl := h5.1
 simp only [flB, Bool.and_eq_true] at hfl
 exact ⟨keep_lim hfl.1 h5.2.1.1, h5.2.2⟩
theorem grp_okK {f A B C : Int} {L : List M6} (h : grpB f A B C L = true) {m : M6} (hm : m ∈ L) : okM f A B C m = true := by
 have h2 := grp_good h
 have h3 := h2.2.2 m hm
 exact okM_iff.2 ⟨by simp only [flB, Bool.and_eq_true]; exact ⟨h2.2.1, latB_iff.2 h2.1⟩, h3.1, red_vec h2.1 h3.2⟩
theorem kpG_no {p q : Nat} {B : Int} {F : Nat → Int} {G : List M6} {m : M6} (hm : m ∈ G) (h : kpM p B q F m = false) : kpG p B q F G = false := by
 unfold kpG
 rw [List.all_eq_false]
 exact ⟨m, hm, by rw [h]; simp⟩
theorem kpG_yes {p q : Nat} {B : Int} {F : Nat → Int} {G : List M6} (h : ∀ m ∈ G, kpM p B q F m = true) : kpG p B q F G = true := List.all_eq_true.2 h
theorem orbF_head {f : Int} {p q : Nat} {B : Int} {G : List M6} (hG : grpB f (p : Int) B (q : Int) G = true) : ∀ k, k ≤ (cellP q p).length → ∀ u ∈ fstL (p : Int) B (q : Int) G ((cellP q p).take k), ∃ h : 0 < (orbL (p : Int) B (q : Int) G u).length, (orbL (p : Int) B (q : Int) G u)[0] = u
 | 0, _, u, hu => by simp [fstL] at hu
 | k + 1, hk, u, hu => by
  have h0 := orbL_pos hG (cellP_mem7.1 (List.getElem_mem (show k < (cellP q p).length by omega)))
  rw [fst_step hG (show k < (cellP q p).length by omega) h0] at hu
  split at hu
  ·rename_i he
   rcases List.mem_append.1 hu with h1 | h1
   ·exact orbF_head hG k (by omega) u h1
   ·have e : u = (cellP q p)[k] := by simpa using h1
    subst e
    exact ⟨h0, he⟩
  ·exact orbF_head hG k (by omega) u hu
def GoPost (f A B C : Int) (n : Nat) (F : Nat → Int) (xs : List M6) (w : World) (e : Ending) (w' : World) : Prop :=
 ∃ v : Value, e = .returned (.tuple #[v, .int .i64 (ikC f A B C n F xs)]) ∧ (gdB f A B C n F xs = true → w'.ownsRow w.heap.size 136 6 v xs.length (cells6 xs)) ∧ Below w.heap.size w w'
theorem own_lowK {W : World} {b b' n : Nat} {e : TypeId} {size : Nat} {v : Value} {xs : List Value} (h : W.ownsRow b e size v n xs) (hb : b' ≤ b) : W.ownsRow b' e size v n xs := by
 obtain ⟨h1, h2⟩ := h
 refine ⟨h1, h2.imp id ?_⟩
 rintro ⟨g, cap, cur, e9, hg, r⟩
 exact ⟨g, cap, cur, e9, by omega, r⟩
set_option maxRecDepth 100000 in
set_option maxHeartbeats 8000000 in
theorem groupOn_any {lo hi lo' hi' n : Nat} {v v9 : Value} {F : Nat → Int} {xs : List M6} {w : World} (f A B C : Int) (hv : SRow lo hi 1 v n F w) (hx : SRow lo' hi' 6 v9 xs.length (fm xs) w) (hn : xs.length ≤ 1048576) (hU : UnitOK w) :
  Calls Tryz.prog 49 #[.agg #[.int .i64 f, .int .i64 A, .int .i64 B, .int .i64 C, v], v9] w (GoPost f A B C n F xs w) := by
 have R9 := Lib.hid hv
 have RX := Lib.hid hx
 have HN := Lib.hid hn
 obtain ⟨ao, cap, rfl⟩ := hv.slice
 clear hv hx hn
 have HU := Lib.hid hU
 clear hU
 have P0 : Bx w.heap.size [.int .i64 f, .int .i64 A, .int .i64 B, .int .i64 C, .slice ao n cap] (w.alloc (.cells #[.int .i64 f, .int .i64 A, .int .i64 B, .int .i64 C, .slice ao n cap] 34)) := Bx.at _ rfl
 have B0 : Below w.heap.size w (w.alloc (.cells #[.int .i64 f, .int .i64 A, .int .i64 B, .int .i64 C, .slice ao n cap] 34)) := (Below.refl _ _).alloc (Nat.le_refl _) _
 have CV := Lib.hid (patValid_any f A B C (R9.out.call B0))
 have CG := Lib.hid (fun (X : World) (hX : Below w.heap.size w X) => groupOf_any f A B C (RX.out.call hX) HN.out (Kq.call HU.out hX))
 unfold GrpPost at CG
 rcases h1 : patB f A B C n F with _ | _
 ·have HC : Hid (ikC f A B C n F xs = 1 ∧ gdB f A B C n F xs = false) := Lib.hid ⟨by simp [ikC, h1], by simp [gdB, h1]⟩
  rw [h1] at CV
  clear CG
  go_enter Tryz.func49, Tryz.ntmps49
  have p0c0 := P0.c0
  have p0c1 := P0.c1
  have p0c2 := P0.c2
  have p0c3 := P0.c3
  have p0c4 := P0.c4
  have p0l := P0.lt
  go_wp2_with fail
  refine CV.out.mono ?_
  rintro e w1 ⟨rfl, hb1⟩
  have B1 := bstep B0 hb1
  clear hb1
  go_wp2
  go_ret2
  exact ⟨_, by rw [HC.out.1]; rfl, fun e => absurd (HC.out.2.symm.trans e) (by simp), B1⟩
 ·have HC : Hid (ikC f A B C n F xs = cod6 f A B C (grpB f A B C xs) ∧ gdB f A B C n F xs = grpB f A B C xs) := Lib.hid ⟨by simp [ikC, h1], by simp [gdB, h1]⟩
  rw [h1] at CV
  generalize grpB f A B C xs = gb at CG HC
  generalize cod6 f A B C gb = cc at CG HC
  go_enter Tryz.func49, Tryz.ntmps49
  have p0c0 := P0.c0
  have p0c1 := P0.c1
  have p0c2 := P0.c2
  have p0c3 := P0.c3
  have p0c4 := P0.c4
  have p0l := P0.lt
  go_wp2_with fail
  refine CV.out.mono ?_
  rintro e w1 ⟨rfl, hb1⟩
  have B1 := bstep B0 hb1
  have P1 := P0.call hb1
  clear hb1 P0 B0 p0c0 p0c1 p0c2 p0c3 p0c4 p0l
  have p1c0 := P1.c0
  have p1c1 := P1.c1
  have p1c2 := P1.c2
  have p1c3 := P1.c3
  have p1c4 := P1.c4
  have p1l := P1.lt
  have z1 := B1.size
  go_wp2_with fail
  refine (CG.out _ B1).mono ?_
  rintro e w2 ⟨v2, rfl, ho, _, hb2⟩
  have B2 := bstep B1 hb2
  have HO := Lib.hid ho
  clear hb2 ho
  go_wp2
  go_ret2
  exact ⟨_, by rw [HC.out.1]; rfl, fun e => own_lowK (HO.out (HC.out.2.symm.trans e)) z1, B2⟩
set_option maxRecDepth 100000 in
set_option maxHeartbeats 8000000 in
theorem l13Code_any {lo hi lo' hi' n : Nat} {v v9 : Value} {F : Nat → Int} {xs : List M6} {w : World} (f A B C : Int) (hv : SRow lo hi 1 v n F w) (hx : SRow lo' hi' 6 v9 xs.length (fm xs) w) (hn : xs.length ≤ 1048576) :
  Calls Tryz.prog 46 #[.agg #[.int .i64 f, .int .i64 A, .int .i64 B, .int .i64 C, v], v9] w fun e w' => e = .returned (.int .i64 (ikC f A B C n F xs)) ∧ Below w.heap.size w w' := by
 have R9 := Lib.hid hv
 have RX := Lib.hid hx
 have HN := Lib.hid hn
 obtain ⟨ao, cap, rfl⟩ := hv.slice
 clear hv hx hn
 have P0 : Bx w.heap.size [.int .i64 f, .int .i64 A, .int .i64 B, .int .i64 C, .slice ao n cap] (w.alloc (.cells #[.int .i64 f, .int .i64 A, .int .i64 B, .int .i64 C, .slice ao n cap] 34)) := Bx.at _ rfl
 have B0 : Below w.heap.size w (w.alloc (.cells #[.int .i64 f, .int .i64 A, .int .i64 B, .int .i64 C, .slice ao n cap] 34)) := (Below.refl _ _).alloc (Nat.le_refl _) _
 have CV := Lib.hid (specIsPat_any f A B C (R9.out.call B0))
 have CG := Lib.hid (fun (X : World) (hX : Below w.heap.size w X) => specIsGroup_any f A B C (RX.out.call hX) HN.out)
 rcases h1 : patB f A B C n F with _ | _
 ·have HC : Hid (ikC f A B C n F xs = 1) := Lib.hid (by simp [ikC, h1])
  rw [h1] at CV
  clear CG
  go_enter Tryz.func46, Tryz.ntmps46
  have p0c0 := P0.c0
  have p0c1 := P0.c1
  have p0c2 := P0.c2
  have p0c3 := P0.c3
  have p0c4 := P0.c4
  have p0l := P0.lt
  go_wp2_with fail
  refine CV.out.mono ?_
  rintro e w1 ⟨rfl, hb1⟩
  have B1 := bstep B0 hb1
  clear hb1
  go_wp2
  go_ret
  exact ⟨by rw [HC.out]; rfl, B1⟩
 ·have HC : Hid (ikC f A B C n F xs = bif grpB f A B C xs then 0 else 2) := Lib.hid (by simp [ikC, h1, cod6, pat_fl h1])
  rw [h1] at CV
  rcases hg : grpB f A B C xs with _ | _
  all_goals
   rw [hg] at CG HC
   have HC2 := Lib.hid HC.out
   simp only [cond_true, cond_false] at HC2
   clear HC hg
   go_enter Tryz.func46, Tryz.ntmps46
   have p0c0 := P0.c0
   have p0c1 := P0.c1
   have p0c2 := P0.c2
   have p0c3 := P0.c3
   have p0c4 := P0.c4
   have p0l := P0.lt
   go_wp2_with fail
   refine CV.out.mono ?_
   rintro e w1 ⟨rfl, hb1⟩
   have B1 := bstep B0 hb1
   have P1 := P0.call hb1
   clear hb1 P0 B0 p0c0 p0c1 p0c2 p0c3 p0c4 p0l
   have p1c0 := P1.c0
   have p1c1 := P1.c1
   have p1c2 := P1.c2
   have p1c3 := P1.c3
   have p1c4 := P1.c4
   have p1l := P1.lt
   go_wp2_with fail
   refine (CG.out _ B1).mono ?_
   rintro e w2 ⟨rfl, hb2⟩
   have B2 := bstep B1 hb2
   clear hb2
   go_wp2
   go_ret
   exact ⟨by rw [HC2.out]; rfl, B2⟩
set_option maxRecDepth 100000 in
set_option maxHeartbeats 8000000 in
theorem l13Kept_any {lo hi lo' hi' p q n : Nat} {f B : Int} {v v9 : Value} {F : Nat → Int} {xs : List M6} {w : World} (h : PatI f p B q n F) (hG : grpB f (p : Int) B (q : Int) xs = true) (hv : SRow lo hi 1 v n F w) (hx : SRow lo' hi' 6 v9 xs.length (fm xs) w) :
  Calls Tryz.prog 47 #[.agg #[.int .i64 f, .int .i64 (p : Int), .int .i64 B, .int .i64 (q : Int), v], v9] w fun e w' => e = .returned (.bool (kpG p B q F xs)) ∧ Below w.heap.size w w' := by
 have R9 := Lib.hid hv
 have RX := Lib.hid hx
 have HP := Lib.hid h
 have HOK := Lib.hid (fun (m : M6) (hm : m ∈ xs) => ok_limK (grp_okK hG hm))
 have hlen := grp_len hG
 obtain ⟨ao, cap, rfl⟩ := hv.slice
 obtain ⟨ao9, cap9, rfl⟩ := hx.slice
 clear hv hx h hG
 have P0 : Bx w.heap.size [.int .i64 f, .int .i64 (p : Int), .int .i64 B, .int .i64 (q : Int), .slice ao n cap] (w.alloc (.cells #[.int .i64 f, .int .i64 (p : Int), .int .i64 B, .int .i64 (q : Int), .slice ao n cap] 34)) := Bx.at _ rfl
 have B0 : Below w.heap.size w (w.alloc (.cells #[.int .i64 f, .int .i64 (p : Int), .int .i64 B, .int .i64 (q : Int), .slice ao n cap] 34)) := (Below.refl _ _).alloc (Nat.le_refl _) _
 go_enter Tryz.func47, Tryz.ntmps47
 go_wp2_with fail
 go_loopw [5] (fun s X => ∃ k : Nat, s = .int .i64 (k : Int) ∧ k ≤ xs.length ∧ (∀ m ∈ xs.take k, kpM p B q F m = true) ∧ Bx w.heap.size [.int .i64 f, .int .i64 (p : Int), .int .i64 B, .int .i64 (q : Int), .slice ao n cap] X ∧ Below w.heap.size w X) (fun s _ => xs.length - (intOf s).toNat)
 case atStart => exact ⟨0, rfl, by omega, fun m hm => by simp at hm, P0, B0⟩
 case round =>
  clear P0 B0
  obtain ⟨k, rfl, hk, hall, P3, hB⟩ := hrel
  have HALL := Lib.hid hall
  clear hall
  by_cases hk1 : k < xs.length
  ·have hk2 : (k : Int) < (xs.length : Int) := by omega
   have hk3 : (k : Int) ≤ 768 := by omega
   have HK := Lib.hid hk1
   have e2 := RX.out.2.2.resolve_left (fun h => by omega)
   obtain ⟨g, c2, e2, _, hg3, RG⟩ := e2
   simp only [Value.slice.injEq, true_and] at e2
   obtain ⟨rfl, rfl⟩ := e2
   have p0 := (RG.grow hB RG.1).mo k hk1
   obtain ⟨m, hm⟩ : ∃ m, m = xs[k] := ⟨_, rfl⟩
   have q0 : Ko6 g (k * 6) m.1 m.2.1 m.2.2.1 m.2.2.2.1 m.2.2.2.2.1 m.2.2.2.2.2 wr := by rw [hm]; exact p0
   have HMEM := Lib.hid (show m ∈ xs by rw [hm]; exact List.getElem_mem hk1)
   have HT := Lib.hid (show xs.take (k + 1) = xs.take k ++ [m] by rw [hm]; exact List.take_succ_eq_append_getElem hk1)
   have hlim := HOK.out m HMEM.out
   clear p0 hm
   obtain ⟨kb, hkb⟩ : ∃ kb, kb = kpM p B q F m := ⟨_, rfl⟩
   have HKB := Lib.hid hkb
   obtain ⟨a, b, c, d, s, t⟩ := m
   dsimp only at q0 hlim
   have HLI := Lib.hid hlim
   have CK := Lib.hid (fun (X : World) (hX : Below w.heap.size w X) => (show Calls Tryz.prog 78 #[.agg #[.int .i64 f, .int .i64 (p : Int), .int .i64 B, .int .i64 (q : Int), (.slice ao n cap)], .agg #[.int .i64 a, .int .i64 b, .int .i64 c, .int .i64 d, .int .i64 s, .int .i64 t]] X (fun e w' => e = .returned (.bool kb) ∧ Below X.heap.size X w') from by rw [hkb]; exact l09Keeps_any HP.out (R9.out.call hX) a b c d s t HLI.out.1 HLI.out.2))
   have hgw : g < wr.heap.size := q0.1
   have P4 := P3.drew
   have Q4 := q0.drew
   clear hkb hlim
   have p3c0 := P3.c0
   have p3c1 := P3.c1
   have p3c2 := P3.c2
   have p3c3 := P3.c3
   have p3c4 := P3.c4
   have p3l := P3.lt
   have q0c := q0.cells
   rcases kb with _ | _
   ·have HNO := Lib.hid (kpG_no HMEM.out HKB.out.symm)
    go_wp2_with fail
    go_region_held3 (fun W9 => (W9.cell? ⟨w.heap.size, 0, none⟩ = some (.int .i64 f) ∧ W9.cell? ⟨w.heap.size, 1, none⟩ = some (.int .i64 (p : Int)) ∧ W9.cell? ⟨w.heap.size, 2, none⟩ = some (.int .i64 B) ∧ W9.cell? ⟨w.heap.size, 3, none⟩ = some (.int .i64 (q : Int)) ∧ W9.cell? ⟨w.heap.size, 4, none⟩ = some (.slice ao n cap)) ∧ (W9.cell? ⟨g, k * 6, none⟩ = some (.int .i64 a) ∧ W9.cell? ⟨g, k * 6 + 1, none⟩ = some (.int .i64 b) ∧ W9.cell? ⟨g, k * 6 + 2, none⟩ = some (.int .i64 c) ∧ W9.cell? ⟨g, k * 6 + 3, none⟩ = some (.int .i64 d) ∧ W9.cell? ⟨g, k * 6 + 4, none⟩ = some (.int .i64 s) ∧ W9.cell? ⟨g, k * 6 + 5, none⟩ = some (.int .i64 t))) ((refine (And.intro (Bx.cells5 ?_) (Ko6.cells ?_))) <;> (with_reducible repeat (first | assumption | refine Bx.drew ?_ | refine Bx.call ?_ (by assumption) | refine Ko6.drew ?_ | refine Ko6.call ?_ (by assumption))))
     (first
      | (go_at_call 78; with_reducible refine (CK.out _ (by repeat (first | with_reducible assumption | with_reducible exact Below.refl _ _ | with_reducible refine Below.drew ?_ | with_reducible refine Below.alloc ?_ (by first | omega | (simp <;> omega)) _ | with_reducible refine Below.setCell ?_ (by first | omega | (dsimp only; omega)) _ | with_reducible refine bstep ?_ (by with_reducible assumption)))).mono ?_; rintro e u1 ⟨rfl, hc1⟩; have P5 : Bx w.heap.size [.int .i64 f, .int .i64 (p : Int), .int .i64 B, .int .i64 (q : Int), .slice ao n cap] u1 := (by with_reducible repeat (first | assumption | refine Bx.drew ?_ | refine Bx.alloc ?_ _ | refine Bx.call ?_ (by assumption))); have Q5 : Ko6 g (k * 6) a b c d s t u1 := (by with_reducible repeat (first | assumption | refine Ko6.drew ?_ | refine Ko6.call ?_ (by assumption))); have C1 : Below w.heap.size w u1 := (by repeat (first | with_reducible assumption | with_reducible exact Below.refl _ _ | with_reducible refine Below.drew ?_ | with_reducible refine Below.alloc ?_ (by first | omega | (simp <;> omega)) _ | with_reducible refine Below.setCell ?_ (by first | omega | (dsimp only; omega)) _ | with_reducible refine bstep ?_ (by with_reducible assumption)))))
    all_goals
     go_wp2
     go_ret
     exact ⟨by rw [HNO.out]; rfl, C1⟩
   ·have HAL2 := Lib.hid (show ∀ m ∈ xs.take (k + 1), kpM p B q F m = true from fun m hm => by
     rw [HT.out] at hm
     rcases List.mem_append.1 hm with h1 | h1
     ·exact HALL.out m h1
     ·have e : m = (a, b, c, d, s, t) := by simpa using h1
      rw [e]
      exact HKB.out.symm)
    go_wp2_with fail
    go_region_held3 (fun W9 => (W9.cell? ⟨w.heap.size, 0, none⟩ = some (.int .i64 f) ∧ W9.cell? ⟨w.heap.size, 1, none⟩ = some (.int .i64 (p : Int)) ∧ W9.cell? ⟨w.heap.size, 2, none⟩ = some (.int .i64 B) ∧ W9.cell? ⟨w.heap.size, 3, none⟩ = some (.int .i64 (q : Int)) ∧ W9.cell? ⟨w.heap.size, 4, none⟩ = some (.slice ao n cap)) ∧ (W9.cell? ⟨g, k * 6, none⟩ = some (.int .i64 a) ∧ W9.cell? ⟨g, k * 6 + 1, none⟩ = some (.int .i64 b) ∧ W9.cell? ⟨g, k * 6 + 2, none⟩ = some (.int .i64 c) ∧ W9.cell? ⟨g, k * 6 + 3, none⟩ = some (.int .i64 d) ∧ W9.cell? ⟨g, k * 6 + 4, none⟩ = some (.int .i64 s) ∧ W9.cell? ⟨g, k * 6 + 5, none⟩ = some (.int .i64 t))) ((refine (And.intro (Bx.cells5 ?_) (Ko6.cells ?_))) <;> (with_reducible repeat (first | assumption | refine Bx.drew ?_ | refine Bx.call ?_ (by assumption) | refine Ko6.drew ?_ | refine Ko6.call ?_ (by assumption))))
     (first
      | (go_at_call 78; with_reducible refine (CK.out _ (by repeat (first | with_reducible assumption | with_reducible exact Below.refl _ _ | with_reducible refine Below.drew ?_ | with_reducible refine Below.alloc ?_ (by first | omega | (simp <;> omega)) _ | with_reducible refine Below.setCell ?_ (by first | omega | (dsimp only; omega)) _ | with_reducible refine bstep ?_ (by with_reducible assumption)))).mono ?_; rintro e u1 ⟨rfl, hc1⟩; have P5 : Bx w.heap.size [.int .i64 f, .int .i64 (p : Int), .int .i64 B, .int .i64 (q : Int), .slice ao n cap] u1 := (by with_reducible repeat (first | assumption | refine Bx.drew ?_ | refine Bx.alloc ?_ _ | refine Bx.call ?_ (by assumption))); have Q5 : Ko6 g (k * 6) a b c d s t u1 := (by with_reducible repeat (first | assumption | refine Ko6.drew ?_ | refine Ko6.call ?_ (by assumption))); have C1 : Below w.heap.size w u1 := (by repeat (first | with_reducible assumption | with_reducible exact Below.refl _ _ | with_reducible refine Below.drew ?_ | with_reducible refine Below.alloc ?_ (by first | omega | (simp <;> omega)) _ | with_reducible refine Below.setCell ?_ (by first | omega | (dsimp only; omega)) _ | with_reducible refine bstep ?_ (by with_reducible assumption)))))
    all_goals
     clear P3 P4 Q4 Q5 q0 q0c CK hc1 p3c0 p3c1 p3c2 p3c3 p3c4 p3l
     go_wp2
     go_roundw
     case rel => exact ⟨k + 1, by go_num, by have := HK.out; omega, HAL2.out, P5, C1⟩
     case measure => (have := HK.out); first | (simp [intOf]; done) | (simp [intOf]; omega)
  ·obtain rfl : k = xs.length := by omega
   have HY := Lib.hid (kpG_yes (G := xs) (fun m hm => HALL.out m (by rw [List.take_length]; exact hm)))
   go_wp2
   go_ret
   exact ⟨by rw [HY.out]; rfl, hB⟩
set_option maxRecDepth 100000 in
set_option maxHeartbeats 8000000 in
theorem implIk_any {lo hi lo' hi' n : Nat} {v v9 : Value} {F : Nat → Int} {xs : List M6} {w : World} (f A B C : Int) (hv : SRow lo hi 1 v n F w) (hx : SRow lo' hi' 6 v9 xs.length (fm xs) w) (hn : xs.length ≤ 1048576) (hU : UnitOK w) :
  Calls Tryz.prog 15 #[.agg #[.int .i64 f, .int .i64 A, .int .i64 B, .int .i64 C, v], v9] w fun e w' => e = .returned (ikT f A B C n F xs) ∧ Below w.heap.size w w' := by
 have R9 := Lib.hid hv
 have RX := Lib.hid hx
 have HN := Lib.hid hn
 obtain ⟨ao, cap, rfl⟩ := hv.slice
 clear hv hx hn
 have HU := Lib.hid hU
 clear hU
 have P0 : Bx w.heap.size [.int .i64 f, .int .i64 A, .int .i64 B, .int .i64 C, .slice ao n cap] (w.alloc (.cells #[.int .i64 f, .int .i64 A, .int .i64 B, .int .i64 C, .slice ao n cap] 34)) := Bx.at _ rfl
 have B0 : Below w.heap.size w (w.alloc (.cells #[.int .i64 f, .int .i64 A, .int .i64 B, .int .i64 C, .slice ao n cap] 34)) := (Below.refl _ _).alloc (Nat.le_refl _) _
 have CG := Lib.hid (groupOn_any f A B C (R9.out.call B0) (RX.out.call B0) HN.out (Kq.call HU.out B0))
 unfold GoPost at CG
 rcases h1 : gdB f A B C n F xs with _ | _
 ·obtain ⟨hc, hb⟩ := gd_bad h1
  have EA : Hid (Ending.returned (.tuple #[.bool false, .int .i64 (ikC f A B C n F xs)]) = Ending.returned (ikT f A B C n F xs)) := Lib.hid (by simp [ikT, hb])
  generalize ikC f A B C n F xs = cc at CG hc EA
  clear h1 hb
  go_enter Tryz.func15, Tryz.ntmps15
  have p0c0 := P0.c0
  have p0c1 := P0.c1
  have p0c2 := P0.c2
  have p0c3 := P0.c3
  have p0c4 := P0.c4
  have p0l := P0.lt
  go_wp2_with fail
  refine CG.out.mono ?_
  rintro e w1 ⟨v1, rfl, _, hb1⟩
  have B1 := bstep B0 hb1
  clear hb1
  go_wp2
  go_ret2
  exact ⟨EA.out, B1⟩
 ·obtain ⟨p, q, rfl, rfl, hp, hg, hc⟩ := gd_parts h1
  have EA : Hid (Ending.returned (.tuple #[.bool (kpG p B q F xs), .int .i64 0]) = Ending.returned (ikT f (p : Int) B (q : Int) n F xs)) := Lib.hid (by simp [ikT, ikB, ikK, h1, hc])
  rw [h1, hc] at CG
  have CO := Lib.hid (fun (X : World) (hX : Below w.heap.size w X) (gm cap9 : Nat) (hr : IRow gm (xs.length * 6) (fm xs) X) => orbitColours_any (capm := cap9) hp (R9.out.call hX) hg hr)
  unfold OcPost at CO
  have HG := Lib.hid hg
  generalize kpG p B q F xs = kb at EA CO
  clear h1 hp hg hc
  go_enter Tryz.func15, Tryz.ntmps15
  have p0c0 := P0.c0
  have p0c1 := P0.c1
  have p0c2 := P0.c2
  have p0c3 := P0.c3
  have p0c4 := P0.c4
  have p0l := P0.lt
  go_wp2_with fail
  refine CG.out.mono ?_
  rintro e w1 ⟨v1, rfl, hr, hb1⟩
  obtain ⟨g1, cap1, rfl, _, r1⟩ := own_irow (n := 0) (hr (by first | rfl | trivial)) (grp_pos HG.out) HN.out
  have B1 := bstep B0 hb1
  have P1 := P0.call hb1
  clear hb1 P0 B0 p0c0 p0c1 p0c2 p0c3 p0c4 p0l hr
  have p1c0 := P1.c0
  have p1c1 := P1.c1
  have p1c2 := P1.c2
  have p1c3 := P1.c3
  have p1c4 := P1.c4
  have p1l := P1.lt
  have CO2 := Lib.hid (CO.out _ B1 g1 cap1 r1)
  go_wp2_with fail
  refine CO2.out.mono ?_
  rintro e w2 ⟨v2, rfl, _, _, hb2⟩
  have B2 := bstep B1 hb2
  clear hb2
  go_wp2
  go_ret2
  exact ⟨EA.out, B2⟩
set_option maxRecDepth 100000 in
set_option maxHeartbeats 8000000 in
theorem specIk_any {lo hi lo' hi' n : Nat} {v v9 : Value} {F : Nat → Int} {xs : List M6} {w : World} (f A B C : Int) (hv : SRow lo hi 1 v n F w) (hx : SRow lo' hi' 6 v9 xs.length (fm xs) w) (hn : xs.length ≤ 1048576) :
  Calls Tryz.prog 12 #[.agg #[.int .i64 f, .int .i64 A, .int .i64 B, .int .i64 C, v], v9] w fun e w' => e = .returned (ikT f A B C n F xs) ∧ Below w.heap.size w w' := by
 have R9 := Lib.hid hv
 have RX := Lib.hid hx
 have HN := Lib.hid hn
 obtain ⟨ao, cap, rfl⟩ := hv.slice
 clear hv hx hn
 have P0 : Bx w.heap.size [.int .i64 f, .int .i64 A, .int .i64 B, .int .i64 C, .slice ao n cap] (w.alloc (.cells #[.int .i64 f, .int .i64 A, .int .i64 B, .int .i64 C, .slice ao n cap] 34)) := Bx.at _ rfl
 have B0 : Below w.heap.size w (w.alloc (.cells #[.int .i64 f, .int .i64 A, .int .i64 B, .int .i64 C, .slice ao n cap] 34)) := (Below.refl _ _).alloc (Nat.le_refl _) _
 have CC := Lib.hid (l13Code_any f A B C (R9.out.call B0) (RX.out.call B0) HN.out)
 rcases h1 : gdB f A B C n F xs with _ | _
 ·obtain ⟨hc, hb⟩ := gd_bad h1
  have EA : Hid (Ending.returned (.tuple #[.bool false, .int .i64 (ikC f A B C n F xs)]) = Ending.returned (ikT f A B C n F xs)) := Lib.hid (by simp [ikT, hb])
  generalize ikC f A B C n F xs = cc at CC hc EA
  clear h1 hb
  go_enter Tryz.func12, Tryz.ntmps12
  have p0c0 := P0.c0
  have p0c1 := P0.c1
  have p0c2 := P0.c2
  have p0c3 := P0.c3
  have p0c4 := P0.c4
  have p0l := P0.lt
  go_wp2_with fail
  refine CC.out.mono ?_
  rintro e w1 ⟨rfl, hb1⟩
  have B1 := bstep B0 hb1
  clear hb1
  go_wp2
  go_ret2
  exact ⟨EA.out, B1⟩
 ·obtain ⟨p, q, rfl, rfl, hp, hg, hc⟩ := gd_parts h1
  have EA : Hid (Ending.returned (.tuple #[.bool (kpG p B q F xs), .int .i64 0]) = Ending.returned (ikT f (p : Int) B (q : Int) n F xs)) := Lib.hid (by simp [ikT, ikB, ikK, h1, hc])
  rw [hc] at CC
  have CK := Lib.hid (fun (X : World) (hX : Below w.heap.size w X) => l13Kept_any hp hg (R9.out.call hX) (RX.out.call hX))
  generalize kpG p B q F xs = kb at EA CK
  clear h1 hp hg hc
  go_enter Tryz.func12, Tryz.ntmps12
  have p0c0 := P0.c0
  have p0c1 := P0.c1
  have p0c2 := P0.c2
  have p0c3 := P0.c3
  have p0c4 := P0.c4
  have p0l := P0.lt
  go_wp2_with fail
  refine CC.out.mono ?_
  rintro e w1 ⟨rfl, hb1⟩
  have B1 := bstep B0 hb1
  have P1 := P0.call hb1
  clear hb1 P0 B0 p0c0 p0c1 p0c2 p0c3 p0c4 p0l
  have p1c0 := P1.c0
  have p1c1 := P1.c1
  have p1c2 := P1.c2
  have p1c3 := P1.c3
  have p1c4 := P1.c4
  have p1l := P1.lt
  go_wp2_with fail
  refine (CK.out _ B1).mono ?_
  rintro e w2 ⟨rfl, hb2⟩
  have B2 := bstep B1 hb2
  clear hb2
  go_wp2
  go_ret2
  exact ⟨EA.out, B2⟩
end Go.Proofs.YtdgophfembpniaaGreatDoor
