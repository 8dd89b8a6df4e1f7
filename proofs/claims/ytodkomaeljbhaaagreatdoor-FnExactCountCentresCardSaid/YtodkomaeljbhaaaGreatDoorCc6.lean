/-
  CountCentres in the model: the classes of the centres of all rotations with an order, one after the other put into a list. Conditions: the motions are those of a group; the list's length is below the model's bound.
-/
import Derived.Test.YtodkomaeljbhaaaGreatDoorCc5
import Derived.Test.YtodkomaeljbhaaaGreatDoorRoG
import Derived.Test.YtodkomaeljbhaaaGreatDoorIn7
import Derived.Deep.RegionHeld3
import Derived.IntWalk
namespace Go.Proofs.YtodkomaeljbhaaaGreatDoor
open Go.RowKit
set_option linter.unusedSimpArgs false
set_option linter.unusedVariables false

def nOk (n : Int) : Bool := n == 2 || (n == 3 || (n == 4 || n == 6))
def rotQ (n : Int) (m : M6) : Bool := decide (m.1 * m.2.2.2.1 - m.2.1 * m.2.2.1 = 1) && decide (ordI m.1 m.2.1 m.2.2.1 m.2.2.2.1 = n)
def cenL (A B C n : Int) (xs : List M6) : List V2 := (xs.filter (rotQ n)).flatMap (clsL A B C)
theorem cenL_next {A B C n : Int} {xs : List M6} {k : Nat} {m : M6} (h : xs.take (k + 1) = xs.take k ++ [m]) : cenL A B C n (xs.take (k + 1)) = cenL A B C n (xs.take k) ++ (if rotQ n m = true then clsL A B C m else []) := by
  unfold cenL
  rw [h, List.filter_append, List.flatMap_append]
  by_cases hr : rotQ n m = true <;> simp [hr]
def boxL (A C : Int) (L : List V2) : Prop := ∀ z ∈ L, (0 ≤ z.1 ∧ z.1 < 12 * A) ∧ (0 ≤ z.2 ∧ z.2 < 12 * C)
theorem clsV_box {A B C : Int} (hl : latI A B C) (a b c d x y : Int) : (0 ≤ (clsV A B C a b c d x y).1 ∧ (clsV A B C a b c d x y).1 < 12 * A) ∧ (0 ≤ (clsV A B C a b c d x y).2 ∧ (clsV A B C a b c d x y).2 < 12 * C) := by
  have hA := hl.1
  have hC := hl.2.1
  unfold clsV redX redY
  exact ⟨⟨Int.emod_nonneg _ (by omega), Int.emod_lt_of_pos _ (by omega)⟩, Int.emod_nonneg _ (by omega), Int.emod_lt_of_pos _ (by omega)⟩
theorem clsL_box {A B C : Int} (hl : latI A B C) (m : M6) : boxL A C (clsL A B C m) := by
  intro z hz
  unfold clsL at hz
  obtain ⟨k, _, rfl⟩ := List.mem_map.1 hz
  exact clsV_box hl _ _ _ _ _ _
theorem cenL_box {A B C : Int} (hl : latI A B C) (n : Int) (xs : List M6) : boxL A C (cenL A B C n xs) := by
  intro z hz
  unfold cenL at hz
  obtain ⟨m, _, h⟩ := List.mem_flatMap.1 hz
  exact clsL_box hl m z h
theorem box_len {A B C : Int} (hl : latI A B C) {L : List V2} (h : boxL A C L) : (putAllV L).length ≤ 9216 := by
  obtain ⟨hA, hC, _, _, h64⟩ := hl
  obtain ⟨p, hp⟩ := Int.eq_ofNat_of_zero_le (show 0 ≤ 12 * A by omega)
  obtain ⟨q, hq⟩ := Int.eq_ofNat_of_zero_le (show 0 ≤ 12 * C by omega)
  have h1 := nodup_len (putAllV L) (cellP q p) (putAllV_up L).nodup (fun z hz => by
    have := h z ((putAllV_mem L z).1 hz)
    refine cellP_memC.2 ?_
    rw [← hp, ← hq]
    exact this)
  rw [cellP_len] at h1
  have h2 : ((p * q : Nat) : Int) ≤ 9216 := by
    rw [Int.natCast_mul, ← hp, ← hq]
    have : 12 * A * (12 * C) = 144 * (A * C) := by grind
    rw [this]; omega
  omega
theorem clsL_take {A B C : Int} {m : M6} {j : Nat} (hj : j < 144) : (clsL A B C m).take (j + 1) = (clsL A B C m).take j ++ [clsV A B C m.1 m.2.1 m.2.2.1 m.2.2.2.1 (m.2.2.2.2.1 + (shf A B C j).1) (m.2.2.2.2.2 + (shf A B C j).2)] := by
  have hl : j < (clsL A B C m).length := by unfold clsL; simp; omega
  rw [List.take_succ_eq_append_getElem hl]
  congr 1
  simp only [clsL, List.getElem_map, List.getElem_range]
theorem clsL_all {A B C : Int} (m : M6) : (clsL A B C m).take 144 = clsL A B C m := List.take_of_length_le (by unfold clsL; simp)
/- the order of a rotation tells its trace -/
theorem ord_tr {a b c d n : Int} (hm : matB a b c d = true) (hd : a * d - b * c = 1) (ho : ordI a b c d = n) (hn : nOk n = true) : (1 ≤ 2 - (a + d) ∧ 2 - (a + d) ≤ 4) ∧ a + d = (if n = 2 then -2 else if n = 3 then -1 else if n = 4 then 0 else 1) := by
  rw [ord_eq hm] at ho
  unfold nOk at hn
  simp only [Bool.or_eq_true, beq_iff_eq] at hn
  have h1 : n ≠ 1 := by omega
  have h0 : n ≠ 0 := by omega
  unfold ordT at ho
  rcases hu : unitB a b c d with _ | _
  · rw [hu] at ho
    simp only [cond_false] at ho
    have hm1 : (a * d - b * c == -1) = false := by rw [hd]; rfl
    rcases hN : (a == -1 && b == 0 && c == 0 && d == -1) with _ | _
    · simp only [hN, hm1, Bool.false_and, Bool.or_false, Bool.false_or, cond_false] at ho
      rcases e1 : (a + d == -1) with _ | _
      · rcases e2 : (a + d == 0) with _ | _
        · rcases e3 : (a + d == 1) with _ | _
          · simp only [e1, e2, e3, cond_false] at ho; omega
          · have := (beq_iff_eq).1 e3
            simp only [e1, e2, e3, cond_false, cond_true] at ho
            subst ho; simp; omega
        · have := (beq_iff_eq).1 e2
          simp only [e1, e2, cond_false, cond_true] at ho
          subst ho; simp; omega
      · have := (beq_iff_eq).1 e1
        simp only [e1, cond_true] at ho
        subst ho; simp; omega
    · simp only [hN, Bool.true_or, cond_true] at ho
      simp only [Bool.and_eq_true, beq_iff_eq] at hN
      subst ho; simp; omega
  · rw [hu] at ho
    simp only [cond_true] at ho
    omega
def ccN (f A B C n : Int) (xs : List M6) : Int := bif nOk n && grpB f A B C xs then ((putAllV (cenL A B C n xs)).length : Nat) else 0
def ccT (f A B C n : Int) (xs : List M6) : Value := .tuple #[.int .i64 (ccN f A B C n xs), .int .i64 (cod6 f A B C (nOk n && grpB f A B C xs))]
theorem sm_mul {A r : Int} (h0 : 0 ≤ A) (h1 : A ≤ 64) (hr : 0 ≤ r ∧ r ≤ 11) : 0 ≤ A * r ∧ A * r ≤ 704 := by
  have a := Int.mul_nonneg h0 hr.1
  have b := Int.mul_le_mul h1 hr.2 hr.1 (by omega)
  omega
def ShC (x y : Int) (w : World) (s : Value) (wx : World) : Prop := ∃ bx : Nat, s = .pointer (some ⟨bx, 0, none⟩) ∧ Kg bx x y wx ∧ w.heap.size ≤ bx ∧ Below w.heap.size w wx
theorem kq_ltC {R : Nat} {a b c d : Int} {W : World} (h : Kq R a b c d W) : R < W.heap.size := h.1
theorem KV.toKg {g : Nat} {a b : Int} {W : World} (h : KV g a b W) : Kg g a b W := ⟨h.lt, h.c0, h.c1⟩
set_option maxRecDepth 100000 in
set_option maxHeartbeats 16000000 in
theorem l11Centres_any {f A B C : Int} {lo hi : Nat} {v : Value} {xs : List M6} {w : World} (n : Int) (hG : grpB f A B C xs = true) (hn : nOk n = true) (h : SRow lo hi 6 v xs.length (fm xs) w) :
    Calls Tryz.prog 37 #[.agg #[.int .i64 A, .int .i64 B, .int .i64 C], v, .int .i64 n] w fun e w' => ∃ g cap, e = .returned (.slice (some ⟨g, 0, none⟩) (putAllV (cenL A B C n xs)).length cap) ∧ Below w.heap.size w w' := by
  have HA := Lib.hid h
  have HGR := Lib.hid hG
  have HNO := Lib.hid hn
  have HLA := Lib.hid (grp_good hG).1
  have L0 : Kt w.heap.size A B C (w.alloc (.cells #[.int .i64 A, .int .i64 B, .int .i64 C] 30)) := Kt.at _ rfl
  have B0 : Below w.heap.size w (w.alloc (.cells #[.int .i64 A, .int .i64 B, .int .i64 C] 30)) := (Below.refl _ _).alloc (Nat.le_refl _) _
  obtain ⟨ao, cap, rfl⟩ := srow_shape h
  have H768 := Lib.hid (grp_len hG)
  have h7 : (xs.length : Int) ≤ 768 := by have := grp_len hG; omega
  clear h hG hn
  have LQ := L0.alloc (.cells #[] 53)
  have BR : Below w.heap.size w ((w.alloc (.cells #[.int .i64 A, .int .i64 B, .int .i64 C] 30)).alloc (.cells #[] 53)) := B0.alloc (by simp) _
  have OQ : KO2 (w.heap.size + 1) w.heap.size 0 53 [] ((w.alloc (.cells #[.int .i64 A, .int .i64 B, .int .i64 C] 30)).alloc (.cells #[] 53)) := lit2 _ _ (by simp) (by simp)
  have LQc := LQ.cells
  clear L0 B0
  go_enter Tryz.func37, Tryz.ntmps37
  go_wp2_with fail
  refine (l03Basis4_any A B C _).mono ?_
  rintro e w1 ⟨gb, rfl, hQ1, _, hb1⟩
  have O1 := OQ.call hb1
  have L1 := LQ.call hb1
  have B1 := bstep BR hb1
  clear OQ LQ BR LQc hb1
  go_wp2_with fail
  go_loopw [7, 9] (fun s7 s9 W => ∃ (k : Nat) (O : List V2) (go co : Nat), s9 = .int .i64 (k : Int) ∧ k ≤ xs.length ∧ O = putAllV (cenL A B C n (xs.take k)) ∧ s7 = .slice (some ⟨go, 0, none⟩) O.length co ∧ KO2 go w.heap.size co 53 O W ∧ Kt w.heap.size A B C W ∧ Kq gb A 0 B C W ∧ Below w.heap.size w W) (fun _ s9 _ => xs.length - (intOf s9).toNat)
  case atStart => exact ⟨0, [], _, _, rfl, by omega, rfl, rfl, O1, L1, hQ1, B1⟩
  case round =>
    clear O1 L1 hQ1 B1
    obtain ⟨k, O, go, co, rfl, hk, hOe, rfl, hO, hL, hQ, hB⟩ := hrel
    by_cases hk1 : k < xs.length
    · have HEL := Lib.hid (List.getElem_mem hk1)
      have hk2 : (k : Int) < (xs.length : Int) := by omega
      have hk3 : (k : Int) ≤ 768 := by omega
      have hres := HA.out.2.2.resolve_left (fun h => by omega)
      have hhi := HA.out.1
      obtain ⟨g, cap', e9, _, hg, RA⟩ := hres
      simp only [Value.slice.injEq, true_and] at e9
      obtain ⟨rfl, rfl⟩ := e9
      have hgw : g < w.heap.size := by omega
      have q0 := RA.mo k hk1
      have q1 := (RA.grow hB (by omega)).mo k hk1
      have HT := Lib.hid (show xs.take (k + 1) = xs.take k ++ [xs[k]] from List.take_succ_eq_append_getElem hk1)
      have HTL := Lib.hid (show (xs.take k).length ≤ 768 by rw [List.length_take]; omega)
      have HK := Lib.hid hk1
      clear RA hg hhi hk
      generalize xs[k] = m at q0 q1 HT HEL
      clear hk1
      obtain ⟨a, b, c, d, x, y⟩ := m
      dsimp only at q0 q1
      obtain ⟨hmm, hrr, hdd, hok⟩ := grp_mot HGR.out HEL.out
      have hred := ((grp_ok HGR.out).2.1 _ HEL.out).2
      have hbd := redM_bd HLA.out (a, b, c, d, x, y)
      rw [hred] at hbd
      dsimp only at hbd
      have HLI := Lib.hid (matB_lim hmm)
      have HNX0 := Lib.hid (cenL_next (A := A) (B := B) (C := C) (n := n) HT.out)
      have q1c := q1.cells
      have hgl := ko_lt q1
      clear HT HTL
      rcases hdd with hd | hd
      · have HDD := Lib.hid hd
        by_cases ho : ordI a b c d = n
        · have HRQ := Lib.hid (show rotQ n (a, b, c, d, x, y) = true by unfold rotQ; simp [hd, ho])
          have HTR := Lib.hid (ord_tr hmm hd ho HNO.out).1
          have HSM := Lib.hid (suit_parts hok).2.2.2.2.2
          have HXY := Lib.hid hbd
          have HLB := Lib.hid (latI_bd HLA.out)
          have HN1 := Lib.hid (show cenL A B C n (xs.take (k + 1)) = cenL A B C n (xs.take k) ++ clsL A B C (a, b, c, d, x, y) by rw [HNX0.out, if_pos HRQ.out])
          have HBX := Lib.hid (cenL_box HLA.out n (xs.take k))
          have HOE := Lib.hid hOe
          have HOO := Lib.hid ho
          have q9 := q0
          clear hmm hrr hd ho hok hred hbd HNX0 HEL hOe q0
          go_wp2_with fail
          refine (l02Det_any a b c d _ HLI.out).mono ?_
          rintro e w4 ⟨rfl, hb4⟩
          rw [HDD.out]
          have q4 := q1.call hb4
          have O4 := hO.call hb4
          have L4 := hL.call hb4
          have Q4 := hQ.call hb4
          have B4 := bstep hB hb4
          clear hb4 q1c q1 hB hO hL hQ
          have q4c := q4.cells
          have hgl4 := ko_lt q4
          go_wp2_with fail
          refine (l02Order_any a b c d _ HLI.out).mono ?_
          rintro e w5 ⟨rfl, hb5⟩
          rw [HOO.out]
          have O5 := O4.call hb5
          have L5 := L4.call hb5
          have Q5 := Q4.call hb5
          have B5 := bstep B4 hb5
          clear hb5 q4 B4 q4c O4 L4 Q4
          go_wp2_with fail
          go_loopw [7, 10] (fun s7 s10 W => ∃ (j : Nat) (O : List V2) (go co : Nat), s10 = .int .i64 (j : Int) ∧ j ≤ 144 ∧ O = putAllV (cenL A B C n (xs.take k) ++ (clsL A B C (a, b, c, d, x, y)).take j) ∧ s7 = .slice (some ⟨go, 0, none⟩) O.length co ∧ KO2 go w.heap.size co 53 O W ∧ Kt w.heap.size A B C W ∧ Kq gb A 0 B C W ∧ Below w.heap.size w W) (fun _ s10 _ => 144 - (intOf s10).toNat)
          case atStart => exact ⟨0, O, go, co, rfl, by omega, by rw [HOE.out]; simp, rfl, O5, L5, Q5, B5⟩
          case round =>
            clear O5 L5 Q5 B5
            obtain ⟨wi, hwi⟩ : ∃ z, z = wr := ⟨_, rfl⟩
            subst hwi
            obtain ⟨j, O, go, co, rfl, hj, hOe, rfl, hO, hL, hQ, hB⟩ := hrel
            have q1 := q9.call hB
            by_cases hj1 : j < 144
            · have HJ := Lib.hid hj1
              have hj2 : (j : Int) < 144 := by omega
              obtain ⟨r, hr⟩ : ∃ r, r = ((j % 12 : Nat) : Int) := ⟨_, rfl⟩
              obtain ⟨t, ht⟩ : ∃ t, t = ((j / 12 : Nat) : Int) := ⟨_, rfl⟩
              have hrw : (j : Int).tmod 12 = r := by rw [hr]; exact (Int.ofNat_tmod j 12).symm
              have hqw : (j : Int).tdiv 12 = t := by rw [ht]; exact (Int.ofNat_tdiv j 12).symm
              have hqq : IntKind.i64.wrap ((j : Int) / 12) = t := by rw [ht, Int.natCast_ediv]; exact IntWalk.i64_in _ (by omega)
              have rb : 0 ≤ r ∧ r ≤ 11 := by omega
              have tb : 0 ≤ t ∧ t ≤ 11 := by omega
              have hlb := HLB.out
              have hla := HLA.out
              obtain ⟨hA1, hC1, hB0, hB1, _⟩ := id hla
              have pA : 0 ≤ A * r ∧ A * r ≤ 704 := sm_mul (by have := hla.1; omega) (by omega) rb
              have pB : 0 ≤ B * t ∧ B * t ≤ 704 := sm_mul hla.2.2.1 (by omega) tb
              have pC : 0 ≤ C * t ∧ C * t ≤ 704 := sm_mul (by have := hla.2.1; omega) (by omega) tb
              have HS0 := Lib.hid (fun W => (show Calls Tryz.prog 64 #[.agg #[.int .i64 A, .int .i64 0], .int .i64 ((j : Int).tmod 12)] W (fun e w' => e = .returned (.agg #[.int .i64 (A * r), .int .i64 0]) ∧ Below W.heap.size W w') from by rw [hrw]; have h9 := l01Scale_any A 0 r W (by simp [vecB]; omega) (by simp [inB]; omega); rw [Int.zero_mul] at h9; exact h9))
              have HS1 := Lib.hid (fun W => l01Scale_any B C t W (by simp [vecB]; omega) (by simp [inB]; omega))
              obtain ⟨sx, hsx⟩ : ∃ z, z = A * r + B * t := ⟨_, rfl⟩
              obtain ⟨sy, hsy⟩ : ∃ z, z = 0 + C * t := ⟨_, rfl⟩
              have HAD := Lib.hid (fun W => add5_any (A * r) 0 (B * t) (C * t) W (by omega) (by omega))
              rw [← hsx, ← hsy] at HAD
              have sb : (0 ≤ sx ∧ sx ≤ 1408) ∧ (0 ≤ sy ∧ sy ≤ 704) := by rw [hsx, hsy]; omega
              have hxy := HXY.out
              have HA2 := Lib.hid (fun W => add5_any x y sx sy W (by omega) (by omega))
              have HC0 := fun W => l11Class_any A B C a b c d (x + sx) (y + sy) W hla HSM.out HDD.out HTR.out.1 HTR.out.2 (by omega) (by omega)
              have hsh : shf A B C j = (sx, sy) := by
                unfold shf
                rw [← hr, ← ht, hsx, hsy]
                exact Prod.ext (by simp only; rw [Int.mul_comm r, Int.mul_comm t]) (by simp only; rw [Int.mul_comm t]; omega)
              have HNX0 := clsL_take (A := A) (B := B) (C := C) (m := (a, b, c, d, x, y)) hj1
              rw [hsh] at HNX0
              dsimp only at HNX0
              obtain ⟨cx, hcx⟩ : ∃ z, z = (clsV A B C a b c d (x + sx) (y + sy)).1 := ⟨_, rfl⟩
              obtain ⟨cy, hcy⟩ : ∃ z, z = (clsV A B C a b c d (x + sx) (y + sy)).2 := ⟨_, rfl⟩
              rw [show clsV A B C a b c d (x + sx) (y + sy) = (cx, cy) from Prod.ext hcx.symm hcy.symm] at HNX0
              rw [← hcx, ← hcy] at HC0
              have HCL := Lib.hid HC0
              have HNX := Lib.hid (show putAllV (cenL A B C n (xs.take k) ++ (clsL A B C (a, b, c, d, x, y)).take (j + 1)) = putV O (cx, cy) by rw [HNX0, ← List.append_assoc, putAllV_snoc, hOe])
              have HOU := Lib.hid (show UpV O by rw [hOe]; exact putAllV_up _)
              have HOL := Lib.hid (show O.length ≤ 9216 by
                rw [hOe]
                refine box_len hla (fun z hz => ?_)
                rcases List.mem_append.1 hz with hz | hz
                · exact HBX.out z hz
                · exact clsL_box hla _ z (List.mem_of_mem_take hz))
              have CI : Hid (∀ W, KO2 go w.heap.size co 53 O W → w.heap.size ≤ W.heap.size → Calls Tryz.prog 65 #[.slice (some ⟨go, 0, none⟩) O.length co, .agg #[.int .i64 cx, .int .i64 cy]] W fun e w' => ∃ g cap, e = .returned (.slice (some ⟨g, 0, none⟩) (putV O (cx, cy)).length cap) ∧ KO2 g w.heap.size cap 53 (putV O (cx, cy)) w' ∧ Below W.heap.size W w') := Lib.hid (fun W hW hs => l01Insert_any cx cy hW ⟨_, _, rfl⟩ hs HOU.out (by have := HOL.out; omega))
              clear HC0 hcx hcy HNX0 hsh hxy sb hsx hsy pA pB pC hla hlb rb tb hr ht hOe hA1 hC1 hB0 hB1 hrw hqw
              go_upto_region 1 with fail
              go_cut [11] (fun s11 wx => ShC sx sy wi s11 wx)
              case first =>
                have qc := hQ.cells
                have hgb := kq_ltC hQ
                go_region_held3 (fun W => (W.cell? ⟨gb, 0, none⟩ = some (.int .i64 A) ∧ W.cell? ⟨gb, 1, none⟩ = some (.int .i64 0) ∧ W.cell? ⟨gb, 2, none⟩ = some (.int .i64 B) ∧ W.cell? ⟨gb, 3, none⟩ = some (.int .i64 C))) ((refine Kq.cells ?_) <;> (repeat (first | with_reducible assumption | with_reducible refine Kq.drew ?_ | with_reducible refine Kq.alloc ?_ _ | with_reducible refine Kq.call ?_ (by with_reducible assumption) | ((with_reducible refine Kq.farM ?_ ?_); (first | omega | (dsimp only; omega))))))
                  (first
                    | (go_at_call 64; with_reducible refine (HS0.out _).mono ?_; rintro e ua ⟨rfl, hua⟩; (try ((refine useIt (P := KV (wi.heap.size) 0 0 ua) ?_ ?_); (repeat (first | with_reducible assumption | (with_reducible exact KV.at _ (by first | with_reducible rfl | (simp; done) | fail)) | with_reducible refine KV.drew ?_ | with_reducible refine KV.alloc ?_ _ | with_reducible refine KV.call ?_ (by with_reducible assumption))); intro dua_0; have dua_0c0 := dua_0.c0; have dua_0c1 := dua_0.c1; have dua_0f0 := dua_0.f0; have dua_0f1 := dua_0.f1; have dua_0l := dua_0.lt)); (try ((refine useIt (P := KV (ub.heap.size) 0 0 ua) ?_ ?_); (repeat (first | with_reducible assumption | (with_reducible exact KV.at _ (by first | with_reducible rfl | (simp; done) | fail)) | with_reducible refine KV.drew ?_ | with_reducible refine KV.alloc ?_ _ | with_reducible refine KV.call ?_ (by with_reducible assumption))); intro dua_1; have dua_1c0 := dua_1.c0; have dua_1c1 := dua_1.c1; have dua_1f0 := dua_1.f0; have dua_1f1 := dua_1.f1; have dua_1l := dua_1.lt)); (try ((refine useIt (P := KV (uc.heap.size) 0 0 ua) ?_ ?_); (repeat (first | with_reducible assumption | (with_reducible exact KV.at _ (by first | with_reducible rfl | (simp; done) | fail)) | with_reducible refine KV.drew ?_ | with_reducible refine KV.alloc ?_ _ | with_reducible refine KV.call ?_ (by with_reducible assumption))); intro dua_2; have dua_2c0 := dua_2.c0; have dua_2c1 := dua_2.c1; have dua_2f0 := dua_2.f0; have dua_2f1 := dua_2.f1; have dua_2l := dua_2.lt)); have cua : Below wi.heap.size wi ua := (by repeat (first | with_reducible assumption | with_reducible exact Below.refl _ _ | with_reducible refine Below.alloc ?_ (by first | omega | (simp <;> omega)) _ | with_reducible refine bstep ?_ (by with_reducible assumption) | with_reducible refine Below.drew ?_)); have Qua : Kq gb A 0 B C ua := (by repeat (first | with_reducible assumption | with_reducible refine Kq.drew ?_ | with_reducible refine Kq.alloc ?_ _ | with_reducible refine Kq.call ?_ (by with_reducible assumption) | ((with_reducible refine Kq.farM ?_ ?_); (first | omega | (dsimp only; omega))))); have lua := kq_ltC Qua; have zua := cua.size)
                    | (go_at_call 64; with_reducible refine (HS1.out _).mono ?_; rintro e ub ⟨rfl, hub⟩; (try ((refine useIt (P := KV (wi.heap.size) 0 0 ub) ?_ ?_); (repeat (first | with_reducible assumption | (with_reducible exact KV.at _ (by first | with_reducible rfl | (simp; done) | fail)) | with_reducible refine KV.drew ?_ | with_reducible refine KV.alloc ?_ _ | with_reducible refine KV.call ?_ (by with_reducible assumption))); intro dub_0; have dub_0c0 := dub_0.c0; have dub_0c1 := dub_0.c1; have dub_0f0 := dub_0.f0; have dub_0f1 := dub_0.f1; have dub_0l := dub_0.lt)); (try ((refine useIt (P := KV (ua.heap.size) 0 0 ub) ?_ ?_); (repeat (first | with_reducible assumption | (with_reducible exact KV.at _ (by first | with_reducible rfl | (simp; done) | fail)) | with_reducible refine KV.drew ?_ | with_reducible refine KV.alloc ?_ _ | with_reducible refine KV.call ?_ (by with_reducible assumption))); intro dub_1; have dub_1c0 := dub_1.c0; have dub_1c1 := dub_1.c1; have dub_1f0 := dub_1.f0; have dub_1f1 := dub_1.f1; have dub_1l := dub_1.lt)); (try ((refine useIt (P := KV (uc.heap.size) 0 0 ub) ?_ ?_); (repeat (first | with_reducible assumption | (with_reducible exact KV.at _ (by first | with_reducible rfl | (simp; done) | fail)) | with_reducible refine KV.drew ?_ | with_reducible refine KV.alloc ?_ _ | with_reducible refine KV.call ?_ (by with_reducible assumption))); intro dub_2; have dub_2c0 := dub_2.c0; have dub_2c1 := dub_2.c1; have dub_2f0 := dub_2.f0; have dub_2f1 := dub_2.f1; have dub_2l := dub_2.lt)); have cub : Below wi.heap.size wi ub := (by repeat (first | with_reducible assumption | with_reducible exact Below.refl _ _ | with_reducible refine Below.alloc ?_ (by first | omega | (simp <;> omega)) _ | with_reducible refine bstep ?_ (by with_reducible assumption) | with_reducible refine Below.drew ?_)); have Qub : Kq gb A 0 B C ub := (by repeat (first | with_reducible assumption | with_reducible refine Kq.drew ?_ | with_reducible refine Kq.alloc ?_ _ | with_reducible refine Kq.call ?_ (by with_reducible assumption) | ((with_reducible refine Kq.farM ?_ ?_); (first | omega | (dsimp only; omega))))); have lub := kq_ltC Qub; have zub := cub.size)
                    | (go_at_call 63; with_reducible refine (HAD.out _).mono ?_; rintro e uc ⟨rfl, huc⟩; (try ((refine useIt (P := KV (wi.heap.size) 0 0 uc) ?_ ?_); (repeat (first | with_reducible assumption | (with_reducible exact KV.at _ (by first | with_reducible rfl | (simp; done) | fail)) | with_reducible refine KV.drew ?_ | with_reducible refine KV.alloc ?_ _ | with_reducible refine KV.call ?_ (by with_reducible assumption))); intro duc_0; have duc_0c0 := duc_0.c0; have duc_0c1 := duc_0.c1; have duc_0f0 := duc_0.f0; have duc_0f1 := duc_0.f1; have duc_0l := duc_0.lt)); (try ((refine useIt (P := KV (ua.heap.size) 0 0 uc) ?_ ?_); (repeat (first | with_reducible assumption | (with_reducible exact KV.at _ (by first | with_reducible rfl | (simp; done) | fail)) | with_reducible refine KV.drew ?_ | with_reducible refine KV.alloc ?_ _ | with_reducible refine KV.call ?_ (by with_reducible assumption))); intro duc_1; have duc_1c0 := duc_1.c0; have duc_1c1 := duc_1.c1; have duc_1f0 := duc_1.f0; have duc_1f1 := duc_1.f1; have duc_1l := duc_1.lt)); (try ((refine useIt (P := KV (ub.heap.size) 0 0 uc) ?_ ?_); (repeat (first | with_reducible assumption | (with_reducible exact KV.at _ (by first | with_reducible rfl | (simp; done) | fail)) | with_reducible refine KV.drew ?_ | with_reducible refine KV.alloc ?_ _ | with_reducible refine KV.call ?_ (by with_reducible assumption))); intro duc_2; have duc_2c0 := duc_2.c0; have duc_2c1 := duc_2.c1; have duc_2f0 := duc_2.f0; have duc_2f1 := duc_2.f1; have duc_2l := duc_2.lt)); have cuc : Below wi.heap.size wi uc := (by repeat (first | with_reducible assumption | with_reducible exact Below.refl _ _ | with_reducible refine Below.alloc ?_ (by first | omega | (simp <;> omega)) _ | with_reducible refine bstep ?_ (by with_reducible assumption) | with_reducible refine Below.drew ?_)); have Quc : Kq gb A 0 B C uc := (by repeat (first | with_reducible assumption | with_reducible refine Kq.drew ?_ | with_reducible refine Kq.alloc ?_ _ | with_reducible refine Kq.call ?_ (by with_reducible assumption) | ((with_reducible refine Kq.farM ?_ ?_); (first | omega | (dsimp only; omega))))); have luc := kq_ltC Quc; have zuc := cuc.size))
                all_goals
                  go_wp2_with fail
                  go_meet
                  exact ⟨_, rfl, (by repeat (first | with_reducible assumption | (with_reducible exact Kg.at2 _ (by first | with_reducible rfl | (simp; done) | fail)) | (with_reducible refine KV.toKg ?_) | (with_reducible refine KV.store5 (a := 0) (b := 0) ?_ _ _) | (with_reducible exact KV.at _ (by first | with_reducible rfl | (simp; done) | fail)) | with_reducible refine KV.drew ?_ | with_reducible refine KV.alloc ?_ _ | with_reducible refine KV.call ?_ (by with_reducible assumption) | with_reducible refine Kg.drew ?_)), by first | omega | (simp <;> omega), by repeat (first | with_reducible refine Below.setCell ?_ (by first | omega | (simp <;> omega)) _ | with_reducible assumption | with_reducible exact Below.refl _ _ | with_reducible refine Below.alloc ?_ (by first | omega | (simp <;> omega)) _ | with_reducible refine bstep ?_ (by with_reducible assumption) | with_reducible refine Below.drew ?_)⟩
              case rest =>
                obtain ⟨bx, rfl, KS, hge, hbc⟩ := hcut
                have O2 := hO.call hbc
                have L2 := hL.call hbc
                have Q2 := hQ.call hbc
                have B2 := bstep hB hbc
                have q2 := q1.call hbc
                clear hO hL hQ hB q1 hbc HS0 HS1 HAD
                obtain ⟨w2, hw2⟩ : ∃ z, z = wc := ⟨_, rfl⟩
                subst hw2
                have q2c := q2.cells
                have L2c := L2.cells
                have KSc := KS.cells
                have hg2 := ko_lt q2
                have ho2 := (KO2.lt O2).2
                have hl2 := kt_lt L2
                have hs2 := kg_lt7 KS
                go_wp2_with fail
                go_region_held3 (fun W => (W.cell? ⟨w.heap.size, 0, none⟩ = some (.int .i64 A) ∧ W.cell? ⟨w.heap.size, 1, none⟩ = some (.int .i64 B) ∧ W.cell? ⟨w.heap.size, 2, none⟩ = some (.int .i64 C)) ∧ (W.cell? ⟨bx, 0, none⟩ = some (.int .i64 sx) ∧ W.cell? ⟨bx, 1, none⟩ = some (.int .i64 sy)) ∧ (W.cell? ⟨g, k * 6, none⟩ = some (.int .i64 a) ∧ W.cell? ⟨g, k * 6 + 1, none⟩ = some (.int .i64 b) ∧ W.cell? ⟨g, k * 6 + 2, none⟩ = some (.int .i64 c) ∧ W.cell? ⟨g, k * 6 + 3, none⟩ = some (.int .i64 d) ∧ W.cell? ⟨g, k * 6 + 4, none⟩ = some (.int .i64 x) ∧ W.cell? ⟨g, k * 6 + 5, none⟩ = some (.int .i64 y))) ((refine ⟨Kt.cells ?_, Kg.cells ?_, Ko6.cells ?_⟩) <;> repeat (first | with_reducible assumption | with_reducible refine Kt.drew ?_ | with_reducible refine Kt.alloc ?_ _ | with_reducible refine Kt.call ?_ (by with_reducible assumption) | with_reducible refine Kg.drew ?_ | with_reducible refine Kg.alloc ?_ _ | with_reducible refine Kg.call ?_ (by with_reducible assumption) | with_reducible refine Ko6.drew ?_ | with_reducible refine Ko6.alloc ?_ _ | with_reducible refine Ko6.call ?_ (by with_reducible assumption) | with_reducible refine KO2.drew ?_ | with_reducible refine KO2.alloc ?_ _ | with_reducible refine KO2.call ?_ (by with_reducible assumption) | with_reducible refine Kq.drew ?_ | with_reducible refine Kq.alloc ?_ _ | with_reducible refine Kq.call ?_ (by with_reducible assumption)))
                  (first
                    | (go_at_call 63; with_reducible refine (HA2.out _).mono ?_; rintro e u6 ⟨rfl, hb6⟩; have L6 : Kt w.heap.size A B C u6 := (by repeat (first | with_reducible assumption | with_reducible refine Kt.drew ?_ | with_reducible refine Kt.alloc ?_ _ | with_reducible refine Kt.call ?_ (by with_reducible assumption) | with_reducible refine Kg.drew ?_ | with_reducible refine Kg.alloc ?_ _ | with_reducible refine Kg.call ?_ (by with_reducible assumption) | with_reducible refine Ko6.drew ?_ | with_reducible refine Ko6.alloc ?_ _ | with_reducible refine Ko6.call ?_ (by with_reducible assumption) | with_reducible refine KO2.drew ?_ | with_reducible refine KO2.alloc ?_ _ | with_reducible refine KO2.call ?_ (by with_reducible assumption) | with_reducible refine Kq.drew ?_ | with_reducible refine Kq.alloc ?_ _ | with_reducible refine Kq.call ?_ (by with_reducible assumption))); have V6 : Kg bx sx sy u6 := (by repeat (first | with_reducible assumption | with_reducible refine Kt.drew ?_ | with_reducible refine Kt.alloc ?_ _ | with_reducible refine Kt.call ?_ (by with_reducible assumption) | with_reducible refine Kg.drew ?_ | with_reducible refine Kg.alloc ?_ _ | with_reducible refine Kg.call ?_ (by with_reducible assumption) | with_reducible refine Ko6.drew ?_ | with_reducible refine Ko6.alloc ?_ _ | with_reducible refine Ko6.call ?_ (by with_reducible assumption) | with_reducible refine KO2.drew ?_ | with_reducible refine KO2.alloc ?_ _ | with_reducible refine KO2.call ?_ (by with_reducible assumption) | with_reducible refine Kq.drew ?_ | with_reducible refine Kq.alloc ?_ _ | with_reducible refine Kq.call ?_ (by with_reducible assumption))); have Q6 : Ko6 g (k * 6) a b c d x y u6 := (by repeat (first | with_reducible assumption | with_reducible refine Kt.drew ?_ | with_reducible refine Kt.alloc ?_ _ | with_reducible refine Kt.call ?_ (by with_reducible assumption) | with_reducible refine Kg.drew ?_ | with_reducible refine Kg.alloc ?_ _ | with_reducible refine Kg.call ?_ (by with_reducible assumption) | with_reducible refine Ko6.drew ?_ | with_reducible refine Ko6.alloc ?_ _ | with_reducible refine Ko6.call ?_ (by with_reducible assumption) | with_reducible refine KO2.drew ?_ | with_reducible refine KO2.alloc ?_ _ | with_reducible refine KO2.call ?_ (by with_reducible assumption) | with_reducible refine Kq.drew ?_ | with_reducible refine Kq.alloc ?_ _ | with_reducible refine Kq.call ?_ (by with_reducible assumption))); have O6 : KO2 go w.heap.size co 53 O u6 := (by repeat (first | with_reducible assumption | with_reducible refine Kt.drew ?_ | with_reducible refine Kt.alloc ?_ _ | with_reducible refine Kt.call ?_ (by with_reducible assumption) | with_reducible refine Kg.drew ?_ | with_reducible refine Kg.alloc ?_ _ | with_reducible refine Kg.call ?_ (by with_reducible assumption) | with_reducible refine Ko6.drew ?_ | with_reducible refine Ko6.alloc ?_ _ | with_reducible refine Ko6.call ?_ (by with_reducible assumption) | with_reducible refine KO2.drew ?_ | with_reducible refine KO2.alloc ?_ _ | with_reducible refine KO2.call ?_ (by with_reducible assumption) | with_reducible refine Kq.drew ?_ | with_reducible refine Kq.alloc ?_ _ | with_reducible refine Kq.call ?_ (by with_reducible assumption))); have P6 : Kq gb A 0 B C u6 := (by repeat (first | with_reducible assumption | with_reducible refine Kt.drew ?_ | with_reducible refine Kt.alloc ?_ _ | with_reducible refine Kt.call ?_ (by with_reducible assumption) | with_reducible refine Kg.drew ?_ | with_reducible refine Kg.alloc ?_ _ | with_reducible refine Kg.call ?_ (by with_reducible assumption) | with_reducible refine Ko6.drew ?_ | with_reducible refine Ko6.alloc ?_ _ | with_reducible refine Ko6.call ?_ (by with_reducible assumption) | with_reducible refine KO2.drew ?_ | with_reducible refine KO2.alloc ?_ _ | with_reducible refine KO2.call ?_ (by with_reducible assumption) | with_reducible refine Kq.drew ?_ | with_reducible refine Kq.alloc ?_ _ | with_reducible refine Kq.call ?_ (by with_reducible assumption))); have B6 : Below w.heap.size w u6 := (by repeat (first | with_reducible assumption | with_reducible exact Below.refl _ _ | with_reducible refine Below.alloc ?_ (by first | omega | (simp <;> omega)) _ | with_reducible refine bstep ?_ (by with_reducible assumption) | with_reducible refine Below.drew ?_)))
                    | (go_at_call 66; with_reducible refine (HCL.out _).mono ?_; rintro e u7 ⟨rfl, hb7⟩; have L7 : Kt w.heap.size A B C u7 := (by repeat (first | with_reducible assumption | with_reducible refine Kt.drew ?_ | with_reducible refine Kt.alloc ?_ _ | with_reducible refine Kt.call ?_ (by with_reducible assumption) | with_reducible refine Kg.drew ?_ | with_reducible refine Kg.alloc ?_ _ | with_reducible refine Kg.call ?_ (by with_reducible assumption) | with_reducible refine Ko6.drew ?_ | with_reducible refine Ko6.alloc ?_ _ | with_reducible refine Ko6.call ?_ (by with_reducible assumption) | with_reducible refine KO2.drew ?_ | with_reducible refine KO2.alloc ?_ _ | with_reducible refine KO2.call ?_ (by with_reducible assumption) | with_reducible refine Kq.drew ?_ | with_reducible refine Kq.alloc ?_ _ | with_reducible refine Kq.call ?_ (by with_reducible assumption))); have V7 : Kg bx sx sy u7 := (by repeat (first | with_reducible assumption | with_reducible refine Kt.drew ?_ | with_reducible refine Kt.alloc ?_ _ | with_reducible refine Kt.call ?_ (by with_reducible assumption) | with_reducible refine Kg.drew ?_ | with_reducible refine Kg.alloc ?_ _ | with_reducible refine Kg.call ?_ (by with_reducible assumption) | with_reducible refine Ko6.drew ?_ | with_reducible refine Ko6.alloc ?_ _ | with_reducible refine Ko6.call ?_ (by with_reducible assumption) | with_reducible refine KO2.drew ?_ | with_reducible refine KO2.alloc ?_ _ | with_reducible refine KO2.call ?_ (by with_reducible assumption) | with_reducible refine Kq.drew ?_ | with_reducible refine Kq.alloc ?_ _ | with_reducible refine Kq.call ?_ (by with_reducible assumption))); have Q7 : Ko6 g (k * 6) a b c d x y u7 := (by repeat (first | with_reducible assumption | with_reducible refine Kt.drew ?_ | with_reducible refine Kt.alloc ?_ _ | with_reducible refine Kt.call ?_ (by with_reducible assumption) | with_reducible refine Kg.drew ?_ | with_reducible refine Kg.alloc ?_ _ | with_reducible refine Kg.call ?_ (by with_reducible assumption) | with_reducible refine Ko6.drew ?_ | with_reducible refine Ko6.alloc ?_ _ | with_reducible refine Ko6.call ?_ (by with_reducible assumption) | with_reducible refine KO2.drew ?_ | with_reducible refine KO2.alloc ?_ _ | with_reducible refine KO2.call ?_ (by with_reducible assumption) | with_reducible refine Kq.drew ?_ | with_reducible refine Kq.alloc ?_ _ | with_reducible refine Kq.call ?_ (by with_reducible assumption))); have O7 : KO2 go w.heap.size co 53 O u7 := (by repeat (first | with_reducible assumption | with_reducible refine Kt.drew ?_ | with_reducible refine Kt.alloc ?_ _ | with_reducible refine Kt.call ?_ (by with_reducible assumption) | with_reducible refine Kg.drew ?_ | with_reducible refine Kg.alloc ?_ _ | with_reducible refine Kg.call ?_ (by with_reducible assumption) | with_reducible refine Ko6.drew ?_ | with_reducible refine Ko6.alloc ?_ _ | with_reducible refine Ko6.call ?_ (by with_reducible assumption) | with_reducible refine KO2.drew ?_ | with_reducible refine KO2.alloc ?_ _ | with_reducible refine KO2.call ?_ (by with_reducible assumption) | with_reducible refine Kq.drew ?_ | with_reducible refine Kq.alloc ?_ _ | with_reducible refine Kq.call ?_ (by with_reducible assumption))); have P7 : Kq gb A 0 B C u7 := (by repeat (first | with_reducible assumption | with_reducible refine Kt.drew ?_ | with_reducible refine Kt.alloc ?_ _ | with_reducible refine Kt.call ?_ (by with_reducible assumption) | with_reducible refine Kg.drew ?_ | with_reducible refine Kg.alloc ?_ _ | with_reducible refine Kg.call ?_ (by with_reducible assumption) | with_reducible refine Ko6.drew ?_ | with_reducible refine Ko6.alloc ?_ _ | with_reducible refine Ko6.call ?_ (by with_reducible assumption) | with_reducible refine KO2.drew ?_ | with_reducible refine KO2.alloc ?_ _ | with_reducible refine KO2.call ?_ (by with_reducible assumption) | with_reducible refine Kq.drew ?_ | with_reducible refine Kq.alloc ?_ _ | with_reducible refine Kq.call ?_ (by with_reducible assumption))); have B7 : Below w.heap.size w u7 := (by repeat (first | with_reducible assumption | with_reducible exact Below.refl _ _ | with_reducible refine Below.alloc ?_ (by first | omega | (simp <;> omega)) _ | with_reducible refine bstep ?_ (by with_reducible assumption) | with_reducible refine Below.drew ?_)))
                    | (go_at_call 65; with_reducible refine (CI.out _ (by repeat (first | with_reducible assumption | with_reducible refine Kt.drew ?_ | with_reducible refine Kt.alloc ?_ _ | with_reducible refine Kt.call ?_ (by with_reducible assumption) | with_reducible refine Kg.drew ?_ | with_reducible refine Kg.alloc ?_ _ | with_reducible refine Kg.call ?_ (by with_reducible assumption) | with_reducible refine Ko6.drew ?_ | with_reducible refine Ko6.alloc ?_ _ | with_reducible refine Ko6.call ?_ (by with_reducible assumption) | with_reducible refine KO2.drew ?_ | with_reducible refine KO2.alloc ?_ _ | with_reducible refine KO2.call ?_ (by with_reducible assumption) | with_reducible refine Kq.drew ?_ | with_reducible refine Kq.alloc ?_ _ | with_reducible refine Kq.call ?_ (by with_reducible assumption))) (by have := B7.size; first | omega | (simp; omega))).mono ?_; rintro e u8 ⟨g6, cap6, rfl, O8, hb8⟩; have L8 : Kt w.heap.size A B C u8 := (by repeat (first | with_reducible assumption | with_reducible refine Kt.drew ?_ | with_reducible refine Kt.alloc ?_ _ | with_reducible refine Kt.call ?_ (by with_reducible assumption) | with_reducible refine Kg.drew ?_ | with_reducible refine Kg.alloc ?_ _ | with_reducible refine Kg.call ?_ (by with_reducible assumption) | with_reducible refine Ko6.drew ?_ | with_reducible refine Ko6.alloc ?_ _ | with_reducible refine Ko6.call ?_ (by with_reducible assumption) | with_reducible refine KO2.drew ?_ | with_reducible refine KO2.alloc ?_ _ | with_reducible refine KO2.call ?_ (by with_reducible assumption) | with_reducible refine Kq.drew ?_ | with_reducible refine Kq.alloc ?_ _ | with_reducible refine Kq.call ?_ (by with_reducible assumption))); have V8 : Kg bx sx sy u8 := (by repeat (first | with_reducible assumption | with_reducible refine Kt.drew ?_ | with_reducible refine Kt.alloc ?_ _ | with_reducible refine Kt.call ?_ (by with_reducible assumption) | with_reducible refine Kg.drew ?_ | with_reducible refine Kg.alloc ?_ _ | with_reducible refine Kg.call ?_ (by with_reducible assumption) | with_reducible refine Ko6.drew ?_ | with_reducible refine Ko6.alloc ?_ _ | with_reducible refine Ko6.call ?_ (by with_reducible assumption) | with_reducible refine KO2.drew ?_ | with_reducible refine KO2.alloc ?_ _ | with_reducible refine KO2.call ?_ (by with_reducible assumption) | with_reducible refine Kq.drew ?_ | with_reducible refine Kq.alloc ?_ _ | with_reducible refine Kq.call ?_ (by with_reducible assumption))); have Q8 : Ko6 g (k * 6) a b c d x y u8 := (by repeat (first | with_reducible assumption | with_reducible refine Kt.drew ?_ | with_reducible refine Kt.alloc ?_ _ | with_reducible refine Kt.call ?_ (by with_reducible assumption) | with_reducible refine Kg.drew ?_ | with_reducible refine Kg.alloc ?_ _ | with_reducible refine Kg.call ?_ (by with_reducible assumption) | with_reducible refine Ko6.drew ?_ | with_reducible refine Ko6.alloc ?_ _ | with_reducible refine Ko6.call ?_ (by with_reducible assumption) | with_reducible refine KO2.drew ?_ | with_reducible refine KO2.alloc ?_ _ | with_reducible refine KO2.call ?_ (by with_reducible assumption) | with_reducible refine Kq.drew ?_ | with_reducible refine Kq.alloc ?_ _ | with_reducible refine Kq.call ?_ (by with_reducible assumption))); have P8 : Kq gb A 0 B C u8 := (by repeat (first | with_reducible assumption | with_reducible refine Kt.drew ?_ | with_reducible refine Kt.alloc ?_ _ | with_reducible refine Kt.call ?_ (by with_reducible assumption) | with_reducible refine Kg.drew ?_ | with_reducible refine Kg.alloc ?_ _ | with_reducible refine Kg.call ?_ (by with_reducible assumption) | with_reducible refine Ko6.drew ?_ | with_reducible refine Ko6.alloc ?_ _ | with_reducible refine Ko6.call ?_ (by with_reducible assumption) | with_reducible refine KO2.drew ?_ | with_reducible refine KO2.alloc ?_ _ | with_reducible refine KO2.call ?_ (by with_reducible assumption) | with_reducible refine Kq.drew ?_ | with_reducible refine Kq.alloc ?_ _ | with_reducible refine Kq.call ?_ (by with_reducible assumption))); have B8 : Below w.heap.size w u8 := (by repeat (first | with_reducible assumption | with_reducible exact Below.refl _ _ | with_reducible refine Below.alloc ?_ (by first | omega | (simp <;> omega)) _ | with_reducible refine bstep ?_ (by with_reducible assumption) | with_reducible refine Below.drew ?_))))
                all_goals
                  clear L2 Q2 O2 B2 q2 q2c L2c KSc L7 V7 Q7 O7 P7 B7 hb7 hb8 Q8 KS
                  go_wp2
                  go_roundw
                  case rel => exact ⟨j + 1, putV O (cx, cy), g6, cap6, by go_num, by have := HJ.out; omega, HNX.out.symm, rfl, O8, L8, P8, B8⟩
                  case measure => (have := HJ.out); first | (simp [intOf]; done) | (simp [intOf]; omega)
            · obtain rfl : j = 144 := by omega
              rw [clsL_all, ← HN1.out] at hOe
              have HOF := Lib.hid hOe
              clear q1 hOe
              go_wp2
              go_roundw
              case rel => exact ⟨k + 1, O, go, co, by go_num, by have := HK.out; omega, HOF.out, rfl, hO, hL, hQ, hB⟩
              case measure => (have := HK.out); first | (simp [intOf]; done) | (simp [intOf]; omega)
        · have HRQ := Lib.hid (show ¬ (rotQ n (a, b, c, d, x, y) = true) by unfold rotQ; simp [ho])
          have HN1 := Lib.hid (show cenL A B C n (xs.take (k + 1)) = cenL A B C n (xs.take k) by rw [HNX0.out, if_neg HRQ.out]; simp)
          have hne : (ordI a b c d != n) = true := by simp [ho]
          obtain ⟨oi, hoi⟩ : ∃ z, z = ordI a b c d := ⟨_, rfl⟩
          rw [← hoi] at hne ho
          have HOI := Lib.hid hoi
          rw [← HN1.out] at hOe
          have HOE := Lib.hid hOe
          clear hmm hrr hd hok hred hbd HNX0 HEL q0 hoi hOe
          go_wp2_with fail
          refine (l02Det_any a b c d _ HLI.out).mono ?_
          rintro e w4 ⟨rfl, hb4⟩
          rw [HDD.out]
          have q4 := q1.call hb4
          have O4 := hO.call hb4
          have L4 := hL.call hb4
          have Q4 := hQ.call hb4
          have B4 := bstep hB hb4
          clear hb4 q1c q1 hB hO hL hQ
          have q4c := q4.cells
          have hgl4 := ko_lt q4
          go_wp2_with fail
          refine (l02Order_any a b c d _ HLI.out).mono ?_
          rintro e w5 ⟨rfl, hb5⟩
          rw [← HOI.out]
          have O5 := O4.call hb5
          have L5 := L4.call hb5
          have Q5 := Q4.call hb5
          have B5 := bstep B4 hb5
          clear hb5 q4 B4 q4c O4 L4 Q4
          go_wp2
          go_roundw
          case rel => exact ⟨k + 1, O, go, co, by go_num, by have := HK.out; omega, HOE.out, rfl, O5, L5, Q5, B5⟩
          case measure => (have := HK.out); first | (simp [intOf]; done) | (simp [intOf]; omega)
      · have HDD := Lib.hid hd
        have HRQ := Lib.hid (show ¬ (rotQ n (a, b, c, d, x, y) = true) by unfold rotQ; simp [hd])
        have HN1 := Lib.hid (show cenL A B C n (xs.take (k + 1)) = cenL A B C n (xs.take k) by rw [HNX0.out, if_neg HRQ.out]; simp)
        rw [← HN1.out] at hOe
        have HOE := Lib.hid hOe
        clear hmm hrr hd hok hred hbd HNX0 HEL q0 hOe
        go_wp2_with fail
        refine (l02Det_any a b c d _ HLI.out).mono ?_
        rintro e w4 ⟨rfl, hb4⟩
        rw [HDD.out]
        have O4 := hO.call hb4
        have L4 := hL.call hb4
        have Q4 := hQ.call hb4
        have B4 := bstep hB hb4
        clear hb4 q1c q1 hB hO hL hQ
        go_wp2
        go_roundw
        case rel => exact ⟨k + 1, O, go, co, by go_num, by have := HK.out; omega, HOE.out, rfl, O4, L4, Q4, B4⟩
        case measure => (have := HK.out); first | (simp [intOf]; done) | (simp [intOf]; omega)
    · obtain rfl : k = xs.length := by omega
      rw [List.take_length] at hOe
      have HEE := Lib.hid (show O.length = (putAllV (cenL A B C n xs)).length by rw [hOe])
      clear hk hk1 hO hL hQ hOe
      go_wp2
      go_ret
      exact ⟨go, co, by rw [← HEE.out]; rfl, hB⟩
end Go.Proofs.YtodkomaeljbhaaaGreatDoor
