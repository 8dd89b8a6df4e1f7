/-
 The facts of a group and FactsOf in the model. Conditions: the motions are those of a group, or the list's length is below the model's bound.
-/
import Derived.Test.YtjjfomokecngoaaGreatDoorFtB
import Derived.Test.YtjjfomokecngoaaGreatDoorFaM
import Derived.Test.YtjjfomokecngoaaGreatDoorShS
import Derived.Test.YtjjfomokecngoaaGreatDoorHg
import Derived.Deep.RegionHeld3
import Derived.IntWalk
namespace Go.Proofs.YtjjfomokecngoaaGreatDoor
open Go.RowKit
set_option linter.unusedSimpArgs false
set_option linter.unusedVariables false

theorem pkFtM0 {P : Prop} (h : P := by repeat (first | with_reducible assumption | with_reducible exact Below.refl _ _ | with_reducible refine Below.setCell ?_ (by first | omega | (simp <;> omega)) _ | with_reducible refine Below.alloc ?_ (by first | omega | (simp <;> omega)) _ | with_reducible refine bstep ?_ (by with_reducible assumption) | with_reducible refine Below.drew ?_)) : P := h
theorem pkFtM2 {P : Prop} (h : P := by repeat (first | with_reducible assumption | with_reducible refine Bx.drew ?_ | with_reducible refine Bx.alloc ?_ _ | ((with_reducible refine Bx.far ?_ ?_); (first | omega | (dsimp only; omega))))) : P := h
theorem pkFtM3 {P : Prop} (h : P := by repeat (first | with_reducible assumption | with_reducible refine BX.drew ?_ | with_reducible refine BX.alloc ?_ _ | ((with_reducible refine BX.far ?_ ?_); (first | omega | (dsimp only; omega))))) : P := h
theorem pkFtM5 {P : Prop} (h : P := by repeat (first | with_reducible assumption | with_reducible refine BX.st3 (o := .int .i64 c0) ?_ _ | with_reducible refine BX.drew ?_)) : P := h
theorem pkFtM11 {P : Prop} (h : P := by repeat (first | assumption | refine BX.drew ?_)) : P := h
set_option maxRecDepth 100000 in
set_option maxHeartbeats 32000000 in
theorem l11Facts_any {lo hi : Nat} {v : Value} {xs : List M6} {w : World} (f A B C : Int) (h : SRow lo hi 6 v xs.length (fm xs) w) (hg : grpB f A B C xs = true) :
  Calls Tryz.prog 77 #[.int .i64 f, .agg #[.int .i64 A, .int .i64 B, .int .i64 C], v] w fun e w' => e = .returned (ftV f A B C xs) ∧ Below w.heap.size w w' := by
 obtain ⟨hl, hf, _⟩ := grp_good hg
 have HS1 := Lib.hid h
 have HG := Lib.hid hg
 have h7 : (xs.length : Int) ≤ 768 := by have := grp_len hg; omega
 have L0 : Bx w.heap.size [.int .i64 A, .int .i64 B, .int .i64 C] (((w.alloc (.cells #[.int .i64 A, .int .i64 B, .int .i64 C] 28)).alloc (.cells #[.int .i64 0, .int .i64 0, .int .i64 0, .int .i64 0, .bool false] 49)).alloc (.cells #[.int .i64 1, .int .i64 0, .int .i64 0, .int .i64 0, .bool false] 49)) := ((Bx.at _ rfl).alloc _).alloc _
 have R0 : BX (w.heap.size + 1) [.int .i64 0, .int .i64 0, .int .i64 0, .int .i64 0, .bool false] (((w.alloc (.cells #[.int .i64 A, .int .i64 B, .int .i64 C] 28)).alloc (.cells #[.int .i64 0, .int .i64 0, .int .i64 0, .int .i64 0, .bool false] 49)).alloc (.cells #[.int .i64 1, .int .i64 0, .int .i64 0, .int .i64 0, .bool false] 49)) := (BX.at _ (by simp)).alloc _
 have X0 : BX (w.heap.size + 1 + 1) [.int .i64 1, .int .i64 0, .int .i64 0, .int .i64 0, .bool false] (((w.alloc (.cells #[.int .i64 A, .int .i64 B, .int .i64 C] 28)).alloc (.cells #[.int .i64 0, .int .i64 0, .int .i64 0, .int .i64 0, .bool false] 49)).alloc (.cells #[.int .i64 1, .int .i64 0, .int .i64 0, .int .i64 0, .bool false] 49)) := BX.at _ (by simp)
 have B0 : Below w.heap.size w (((w.alloc (.cells #[.int .i64 A, .int .i64 B, .int .i64 C] 28)).alloc (.cells #[.int .i64 0, .int .i64 0, .int .i64 0, .int .i64 0, .bool false] 49)).alloc (.cells #[.int .i64 1, .int .i64 0, .int .i64 0, .int .i64 0, .bool false] 49)) := (((Below.refl _ _).alloc (Nat.le_refl _) _).alloc (by simp) _).alloc (by simp; omega) _
 obtain ⟨ao, cap, rfl⟩ := srow_shape h
 have hne := shortM_ne hf hl
 obtain ⟨⟨sx, sy⟩, T0, hT0⟩ := List.exists_cons_of_ne_nil hne
 have HSP := Lib.hid (show 0 < (shortM f A B C).length from List.length_pos_iff.2 hne)
 have HSI := Lib.hid (show (sx, sy) ∈ shortM f A B C from by rw [hT0]; simp)
 have HLN := Lib.hid (shortM_len f A B C)
 have HAT := Lib.hid (show intAt (cells2 (shortM f A B C)) 0 = sx ∧ intAt (cells2 (shortM f A B C)) (0 + 1) = sy from by rw [hT0]; exact ⟨rfl, rfl⟩)
 have HSM := Lib.hid (show midI sx ∧ midI sy from by
  have := (List.mem_filter.1 (HSI.out)).1
  have := (nearL_mem.1 this).1
  unfold midI; dsimp only at this; omega)
 have HSO := Lib.hid (fun W => (show Calls Tryz.prog 146 #[.int .i64 f, .agg #[.int .i64 A, .int .i64 B, .int .i64 C]] W (fun e w' => ∃ v : Value, e = .returned v ∧ w'.ownsRow W.heap.size 63 2 v (shortM f A B C).length (cells2 (shortM f A B C)) ∧ Below W.heap.size W w') from l04Shortest_any f A B C W hf hl))
 obtain ⟨nS, hnS⟩ : ∃ z, z = nrmI f sx sy := ⟨_, rfl⟩
 have HN0 := Lib.hid (fun W => l04Norm_any f sx sy W hf HSM.out.1 HSM.out.2)
 rw [← hnS] at HN0
 have HNS := Lib.hid hnS
 obtain ⟨g9, hg9⟩ : ∃ z, z = w.heap.size + 1 + 1 := ⟨_, rfl⟩
 rw [← hg9] at X0
 have hgN : w.heap.size + 1 < g9 := by omega
 have HLF := Lib.hid (And.intro hl hf)
 clear h hg hl hf hne hT0 hnS HSM
 go_enter Tryz.func77, Tryz.ntmps77
 go_wp2_with fail
 rw [← hg9]
 clear hg9
 go_loopw [8] (fun s8 W => ∃ k : Nat, s8 = .int .i64 (k : Int) ∧ k ≤ xs.length ∧ BX g9 [.int .i64 ((trnP (xs.take k))), .int .i64 ((mrP f A B C (xs.take k)).1), .int .i64 ((mrP f A B C (xs.take k)).2.1), .int .i64 ((mrP f A B C (xs.take k)).2.2.1), .bool (mrP f A B C (xs.take k)).2.2.2] W ∧ Bx w.heap.size [.int .i64 A, .int .i64 B, .int .i64 C] W ∧ BX (w.heap.size + 1) [.int .i64 0, .int .i64 0, .int .i64 0, .int .i64 0, .bool false] W ∧ Below w.heap.size w W) (fun s8 _ => xs.length - (intOf s8).toNat)
 case atStart => exact ⟨0, rfl, by omega, X0, L0, R0, B0⟩
 case round =>
  clear X0 L0 R0 B0
  obtain ⟨k, rfl, hk, hX, hL, hR, hB⟩ := hrel
  by_cases hk1 : k < xs.length
  ·have HEL := Lib.hid (List.getElem_mem hk1)
   have hk2 : (k : Int) < (xs.length : Int) := by omega
   have hk3 : (k : Int) ≤ 768 := by omega
   have hres := HS1.out.2.2.resolve_left (fun h => by omega)
   have hhi := HS1.out.1
   obtain ⟨g, cap', e9, _, hg, RA⟩ := hres
   simp only [Value.slice.injEq, true_and] at e9
   obtain ⟨rfl, rfl⟩ := e9
   have q1 := (RA.grow hB (by omega)).mo k hk1
   have HT := Lib.hid (show xs.take (k + 1) = xs.take k ++ [xs[k]] from List.take_succ_eq_append_getElem hk1)
   have HTL := Lib.hid (show (xs.take k).length ≤ 768 by rw [List.length_take]; omega)
   have HK := Lib.hid hk1
   clear RA hg hhi hk
   generalize xs[k] = m at q1 HT HEL
   clear hk1
   obtain ⟨a, b, c, d, x, y⟩ := m
   dsimp only at q1
   obtain ⟨hmm, hrr, hdd, hok⟩ := grp_mot HG.out HEL.out
   have HOK := Lib.hid hok
   have HLI := Lib.hid (matB_lim hmm)
   have HNX := Lib.hid (mrP_next (f := f) (A := A) (B := B) (C := C) HT.out)
   have HTX := Lib.hid (trnP_next HT.out)
   have hbd := mrP_bd f A B C (xs.take k)
   have htb := trnP_bd (xs.take k)
   have htk : (xs.take k).length ≤ 768 := HTL.out
   obtain ⟨⟨n0, e0, c0, a0⟩, hs⟩ : ∃ s, s = mrP f A B C (xs.take k) := ⟨_, rfl⟩
   obtain ⟨n, hn⟩ : ∃ s, s = trnP (xs.take k) := ⟨_, rfl⟩
   rw [← hs, ← hn] at hX
   rw [← hs] at HNX hbd
   rw [← hn] at HTX htb
   dsimp only at hX hbd
   have hn1 : IntKind.i64.wrap (n0 + 1) = n0 + 1 := IntWalk.i64_in _ (by omega)
   have he1 : IntKind.i64.wrap (e0 + 1) = e0 + 1 := IntWalk.i64_in _ (by omega)
   have hc1 : IntKind.i64.wrap (c0 + 1) = c0 + 1 := IntWalk.i64_in _ (by omega)
   have q1c := q1.cells
   have hgl := ko_lt q1
   have zX := hX.lt
   have zL := hL.lt
   have zB := hB.size
   have Q0 : Bx wr.heap.size [.int .i64 a, .int .i64 b, .int .i64 c, .int .i64 d, .int .i64 x, .int .i64 y] (wr.alloc (.cells #[.int .i64 a, .int .i64 b, .int .i64 c, .int .i64 d, .int .i64 x, .int .i64 y] 69)) := Bx.at _ rfl
   have X0 := hX.alloc (.cells #[.int .i64 a, .int .i64 b, .int .i64 c, .int .i64 d, .int .i64 x, .int .i64 y] 69)
   have L0 := hL.alloc (.cells #[.int .i64 a, .int .i64 b, .int .i64 c, .int .i64 d, .int .i64 x, .int .i64 y] 69)
   have R0 := hR.alloc (.cells #[.int .i64 a, .int .i64 b, .int .i64 c, .int .i64 d, .int .i64 x, .int .i64 y] 69)
   have B3 : Below w.heap.size w (wr.alloc (.cells #[.int .i64 a, .int .i64 b, .int .i64 c, .int .i64 d, .int .i64 x, .int .i64 y] 69)) := hB.alloc zB _
   clear hbd htk hs hn HT HTL hmm
   rcases hdd with hd | hd
   ·have HDD := Lib.hid hd
    have hrf : reflB a b c d = false := by rw [hrr, hd]; rfl
    have HEF := Lib.hid (show mrP f A B C (xs.take (k + 1)) = (n0, e0, c0, a0) from by rw [HNX.out]; unfold mrS; dsimp only; rw [if_neg (by rw [hrf]; simp)])
    have HTN := Lib.hid (show trnP (xs.take (k + 1)) = max n (ordI a b c d) from by rw [HTX.out]; unfold trnS; dsimp only; rw [if_pos hd])
    have HOR := Lib.hid (fun W => l02Order_any a b c d W HLI.out)
    obtain ⟨r, hr⟩ : ∃ r, r = ordI a b c d := ⟨_, rfl⟩
    rw [← hr] at HTN HOR
    clear hr hd hrf hrr hok hX hL hR hB HNX HTX hn1 he1 hc1
    have Q0c0 := Q0.c0
    have Q0c1 := Q0.c1
    have Q0c2 := Q0.c2
    have Q0c3 := Q0.c3
    have Q0c4 := Q0.c4
    have Q0c5 := Q0.c5
    have Q0l := Q0.lt
    go_wp2_with fail
    refine (l02Det_any a b c d _ HLI.out).mono ?_
    rintro e w4 ⟨rfl, hb4⟩
    rw [HDD.out]
    have X4 := X0.call hb4
    have L4 := L0.call hb4
    have R4 := R0.call hb4
    have Q4 := Q0.call hb4
    have B4 := bstep B3 hb4
    clear hb4 X0 L0 R0 B3 Q0 Q0c0 Q0c1 Q0c2 Q0c3 Q0c4 Q0c5 Q0l
    have Q4c0 := Q4.c0
    have Q4c1 := Q4.c1
    have Q4c2 := Q4.c2
    have Q4c3 := Q4.c3
    have Q4c4 := Q4.c4
    have Q4c5 := Q4.c5
    have Q4l := Q4.lt
    have X4c0 := X4.c0
    have X4c1 := X4.c1
    have X4c2 := X4.c2
    have X4c3 := X4.c3
    have X4c4 := X4.c4
    have X4f0 := X4.f0
    have X4f1 := X4.f1
    have X4f2 := X4.f2
    have X4f3 := X4.f3
    have X4f4 := X4.f4
    have X4l := X4.lt
    go_wp2_with fail
    go_region_with
     (go_at_call 117; with_reducible refine (HOR.out _).mono ?_; rintro e u6 ⟨rfl, hb6⟩; have X6 : BX g9 [.int .i64 n, .int .i64 n0, .int .i64 e0, .int .i64 c0, .bool a0] u6 := (by with_reducible repeat (first | assumption | refine BX.drew ?_ | refine BX.call ?_ (by assumption))); have L6 : Bx w.heap.size [.int .i64 A, .int .i64 B, .int .i64 C] u6 := (by with_reducible repeat (first | assumption | refine Bx.drew ?_ | refine Bx.call ?_ (by assumption))); have R6 : BX (w.heap.size + 1) [.int .i64 0, .int .i64 0, .int .i64 0, .int .i64 0, .bool false] u6 := (by with_reducible repeat (first | assumption | refine BX.drew ?_ | refine BX.call ?_ (by assumption))); have B6 : Below w.heap.size w u6 := (by repeat (first | with_reducible assumption | with_reducible exact Below.refl _ _ | with_reducible refine Below.alloc ?_ (by first | omega | (simp <;> omega)) _ | with_reducible refine bstep ?_ (by with_reducible assumption) | with_reducible refine Below.drew ?_)); have X6c0 := X6.c0; have X6c1 := X6.c1; have X6c2 := X6.c2; have X6c3 := X6.c3; have X6c4 := X6.c4; have X6f0 := X6.f0; have X6f1 := X6.f1; have X6f2 := X6.f2; have X6f3 := X6.f3; have X6f4 := X6.f4; have X6l := X6.lt)
    all_goals
     clear hb6 X4 L4 R4 Q4 B4 Q4c0 Q4c1 Q4c2 Q4c3 Q4c4 Q4c5 Q4l X4c0 X4c1 X4c2 X4c3 X4c4 X4f0 X4f1 X4f2 X4f3 X4f4 X4l
     go_wp2
    all_goals
     go_roundw
     case rel => exact ⟨k + 1, by go_num, by have := HK.out; omega, by rw [HTN.out, HEF.out]; dsimp only; repeat (first | with_reducible assumption | with_reducible refine BX.st0 (o := .int .i64 n) ?_ _ | with_reducible refine BX.drew ?_), by exact pkFtM2, by exact pkFtM3, by exact pkFtM0⟩
     case measure => (have := HK.out); first | (simp [intOf]; done) | (simp [intOf]; omega)
   ·have HDD := Lib.hid hd
    have hrf : reflB a b c d = true := by rw [hrr, hd]; rfl
    have HTN := Lib.hid (show trnP (xs.take (k + 1)) = n from by rw [HTX.out]; unfold trnS; dsimp only; rw [if_neg (by omega)])
    obtain ⟨mb, hmb⟩ : ∃ z, z = mayB A B C (a, b, c, d, x, y) := ⟨_, rfl⟩
    obtain ⟨cb, hcb⟩ : ∃ z, z = cenB A B C a b c d := ⟨_, rfl⟩
    obtain ⟨al, hal⟩ : ∃ z, z = alB f A B C a b c d := ⟨_, rfl⟩
    have HE0 := Lib.hid (show mrP f A B C (xs.take (k + 1)) = (n0 + 1, e0 + bI mb, c0 + bI cb, if n0 = 0 then al else a0) from by rw [HNX.out, hmb, hcb, hal]; unfold mrS; dsimp only; rw [if_pos hrf])
    have HMA := Lib.hid (fun W => l11Ref_any f A B C a b c d x y W hok hrf)
    have HCA := Lib.hid (fun W => l11Cen_any f A B C a b c d x y W hok hrf)
    rw [← hmb] at HMA
    rw [← hcb] at HCA
    obtain ⟨IX, hIX⟩ : ∃ z, z = ivX A B C a b c d := ⟨_, rfl⟩
    obtain ⟨IY, hIY⟩ : ∃ z, z = ivY A B C a b c d := ⟨_, rfl⟩
    obtain ⟨p, q, hax⟩ : ∃ p q, axP a b c d = (p, q) := ⟨_, _, rfl⟩
    obtain ⟨hl, hf, _, _, hm, hsm⟩ := suit_parts hok
    have HIV := Lib.hid (fun W => l11Inv_any A B C a b c d 1 a b c d p q W hl (by omega) (by omega) (by omega) (by omega) hm hrf hax hsm)
    rw [show (invK A B C p q : Int) * p = IX from by rw [hIX]; unfold ivX; rw [hax], show (invK A B C p q : Int) * q = IY from by rw [hIY]; unfold ivY; rw [hax]] at HIV
    have HIM : midI IX ∧ midI IY := by
     have h1 := (invK_facts p q hl).1
     have h2 := axP_bd hrf hsm
     rw [hax] at h2
     have h3 := bd_mulM (k := invK A B C p q) (p := p) (by omega) h2.1
     have h4 := bd_mulM (k := invK A B C p q) (p := q) (by omega) h2.2
     rw [hIX, hIY]
     unfold ivX ivY
     rw [hax]
     dsimp only
     rw [Int.mul_comm p] at h3
     rw [Int.mul_comm q] at h4
     unfold midI; omega
    have HN1 := Lib.hid (fun W => l04Norm_any f IX IY W hf HIM.1 HIM.2)
    obtain ⟨nI, hnI⟩ : ∃ z, z = nrmI f IX IY := ⟨_, rfl⟩
    rw [← hnI] at HN1
    have hnb : (nI == nS) = al := by rw [hnI, HNS.out, hal, hIX, hIY]; exact al_model hok hrf HSI.out
    clear hmb hcb hal hIX hIY hax hl hf hm hsm HIM hnI hrf hrr hok hX hL hR hB HNX HTX hd
    have Q0c0 := Q0.c0
    have Q0c1 := Q0.c1
    have Q0c2 := Q0.c2
    have Q0c3 := Q0.c3
    have Q0c4 := Q0.c4
    have Q0c5 := Q0.c5
    have Q0l := Q0.lt
    go_wp2_with fail
    refine (l02Det_any a b c d _ HLI.out).mono ?_
    rintro e w4 ⟨rfl, hb4⟩
    rw [HDD.out]
    have X4 := X0.call hb4
    have L4 := L0.call hb4
    have R4 := R0.call hb4
    have Q4 := Q0.call hb4
    have B4 := bstep B3 hb4
    clear hb4 X0 L0 R0 B3 Q0 Q0c0 Q0c1 Q0c2 Q0c3 Q0c4 Q0c5 Q0l
    have zq4 := Q4.lt
    have zx4 := X4.lt
    by_cases hz : n0 = 0
    ·have hzb : (n0 == 0) = true := by simpa using hz
     have HE := Lib.hid (show mrP f A B C (xs.take (k + 1)) = (n0 + 1, e0 + bI mb, c0 + bI cb, al) from by rw [HE0.out, if_pos hz])
     clear hz HE0
     have Q4c0 := Q4.c0
     have Q4c1 := Q4.c1
     have Q4c2 := Q4.c2
     have Q4c3 := Q4.c3
     have Q4c4 := Q4.c4
     have Q4c5 := Q4.c5
     have Q4l := Q4.lt
     have L4c0 := L4.c0
     have L4c1 := L4.c1
     have L4c2 := L4.c2
     have L4l := L4.lt
     have X4c0 := X4.c0
     have X4c1 := X4.c1
     have X4c2 := X4.c2
     have X4c3 := X4.c3
     have X4c4 := X4.c4
     have X4f0 := X4.f0
     have X4f1 := X4.f1
     have X4f2 := X4.f2
     have X4f3 := X4.f3
     have X4f4 := X4.f4
     have X4l := X4.lt
     go_wp2_with fail
     refine (HSO.out _).mono ?_
     rintro e w5 ⟨v5, rfl, ho5, hb5⟩
     have S4 := SRow.of ho5 (cells2_int _) HLN.out
     obtain ⟨g1, cap1, rfl, hg1, hg2, RN⟩ := S4.2.2.resolve_left (fun h => by have := HSP.out; omega)
     have q5 := RN.ko2 0 (by have := HSP.out; omega)
     rw [HAT.out.1, HAT.out.2] at q5
     obtain ⟨q50, q51, q52⟩ := id q5
     simp only [Nat.zero_add] at q52
     have hs1 : (0 : Int) < ((shortM f A B C).length : Int) := by have := HSP.out; omega
     obtain ⟨sn, hsn⟩ : ∃ z, z = (shortM f A B C).length := ⟨_, rfl⟩
     rw [← hsn] at hs1 ⊢
     clear ho5 S4 RN hsn q5
     have X5 := BX.call (show BX g9 [.int .i64 n, .int .i64 n0, .int .i64 e0, .int .i64 c0, .bool a0] _ from by with_reducible exact pkFtM11) hb5
     have L5 := Bx.call (show Bx w.heap.size [.int .i64 A, .int .i64 B, .int .i64 C] _ from by exact pkFtM2) hb5
     have R5 := BX.call (show BX (w.heap.size + 1) [.int .i64 0, .int .i64 0, .int .i64 0, .int .i64 0, .bool false] _ from by exact pkFtM3) hb5
     have Q5 := Bx.call (show Bx wr.heap.size [.int .i64 a, .int .i64 b, .int .i64 c, .int .i64 d, .int .i64 x, .int .i64 y] _ from by exact pkFtM2) hb5
     have B5 := bstep (show Below w.heap.size w _ from by exact pkFtM0) hb5
     clear hb5 X4 L4 R4 Q4 B4 Q4c0 Q4c1 Q4c2 Q4c3 Q4c4 Q4c5 Q4l L4c0 L4c1 L4c2 L4l X4c0 X4c1 X4c2 X4c3 X4c4 X4f0 X4f1 X4f2 X4f3 X4f4 X4l
     have zq5 := Q5.lt
     have zx5 := X5.lt
     have Q5c0 := Q5.c0
     have Q5c1 := Q5.c1
     have Q5c2 := Q5.c2
     have Q5c3 := Q5.c3
     have Q5c4 := Q5.c4
     have Q5c5 := Q5.c5
     have Q5l := Q5.lt
     have L5c0 := L5.c0
     have L5c1 := L5.c1
     have L5c2 := L5.c2
     have L5l := L5.lt
     have X5c0 := X5.c0
     have X5c1 := X5.c1
     have X5c2 := X5.c2
     have X5c3 := X5.c3
     have X5c4 := X5.c4
     have X5f0 := X5.f0
     have X5f1 := X5.f1
     have X5f2 := X5.f2
     have X5f3 := X5.f3
     have X5f4 := X5.f4
     have X5l := X5.lt
     go_wp2_with fail
     refine (HN0.out _).mono ?_
     rintro e w6 ⟨rfl, hb6⟩
     have X6 := BX.call (show BX g9 [.int .i64 n, .int .i64 n0, .int .i64 e0, .int .i64 c0, .bool a0] _ from by with_reducible exact pkFtM11) hb6
     have L6 := Bx.call (show Bx w.heap.size [.int .i64 A, .int .i64 B, .int .i64 C] _ from by exact pkFtM2) hb6
     have R6 := BX.call (show BX (w.heap.size + 1) [.int .i64 0, .int .i64 0, .int .i64 0, .int .i64 0, .bool false] _ from by exact pkFtM3) hb6
     have Q6 := Bx.call (show Bx wr.heap.size [.int .i64 a, .int .i64 b, .int .i64 c, .int .i64 d, .int .i64 x, .int .i64 y] _ from by exact pkFtM2) hb6
     have B6 := bstep (show Below w.heap.size w _ from by exact pkFtM0) hb6
     clear hb6 X5 L5 R5 Q5 B5 Q5c0 Q5c1 Q5c2 Q5c3 Q5c4 Q5c5 Q5l L5c0 L5c1 L5c2 L5l X5c0 X5c1 X5c2 X5c3 X5c4 X5f0 X5f1 X5f2 X5f3 X5f4 X5l
     have zq6 := Q6.lt
     have zx6 := X6.lt
     clear q50 q51 q52 hs1 hg1 hg2
     have Q6c0 := Q6.c0
     have Q6c1 := Q6.c1
     have Q6c2 := Q6.c2
     have Q6c3 := Q6.c3
     have Q6c4 := Q6.c4
     have Q6c5 := Q6.c5
     have Q6l := Q6.lt
     have L6c0 := L6.c0
     have L6c1 := L6.c1
     have L6c2 := L6.c2
     have L6l := L6.lt
     have X6c0 := X6.c0
     have X6c1 := X6.c1
     have X6c2 := X6.c2
     have X6c3 := X6.c3
     have X6c4 := X6.c4
     have X6f0 := X6.f0
     have X6f1 := X6.f1
     have X6f2 := X6.f2
     have X6f3 := X6.f3
     have X6f4 := X6.f4
     have X6l := X6.lt
     go_wp2_with fail
     refine (HIV.out _).mono ?_
     rintro e w7 ⟨rfl, hb7⟩
     have X7 := BX.call (show BX g9 [.int .i64 n, .int .i64 n0, .int .i64 e0, .int .i64 c0, .bool a0] _ from by with_reducible exact pkFtM11) hb7
     have L7 := Bx.call (show Bx w.heap.size [.int .i64 A, .int .i64 B, .int .i64 C] _ from by exact pkFtM2) hb7
     have R7 := BX.call (show BX (w.heap.size + 1) [.int .i64 0, .int .i64 0, .int .i64 0, .int .i64 0, .bool false] _ from by exact pkFtM3) hb7
     have Q7 := Bx.call (show Bx wr.heap.size [.int .i64 a, .int .i64 b, .int .i64 c, .int .i64 d, .int .i64 x, .int .i64 y] _ from by exact pkFtM2) hb7
     have B7 := bstep (show Below w.heap.size w _ from by exact pkFtM0) hb7
     clear hb7 X6 L6 R6 Q6 B6 Q6c0 Q6c1 Q6c2 Q6c3 Q6c4 Q6c5 Q6l L6c0 L6c1 L6c2 L6l X6c0 X6c1 X6c2 X6c3 X6c4 X6f0 X6f1 X6f2 X6f3 X6f4 X6l
     have zq7 := Q7.lt
     have zx7 := X7.lt
     have Q7c0 := Q7.c0
     have Q7c1 := Q7.c1
     have Q7c2 := Q7.c2
     have Q7c3 := Q7.c3
     have Q7c4 := Q7.c4
     have Q7c5 := Q7.c5
     have Q7l := Q7.lt
     have L7c0 := L7.c0
     have L7c1 := L7.c1
     have L7c2 := L7.c2
     have L7l := L7.lt
     have X7c0 := X7.c0
     have X7c1 := X7.c1
     have X7c2 := X7.c2
     have X7c3 := X7.c3
     have X7c4 := X7.c4
     have X7f0 := X7.f0
     have X7f1 := X7.f1
     have X7f2 := X7.f2
     have X7f3 := X7.f3
     have X7f4 := X7.f4
     have X7l := X7.lt
     go_wp2_with fail
     refine (HN1.out _).mono ?_
     rintro e w8 ⟨rfl, hb8⟩
     have X8 := BX.call (show BX g9 [.int .i64 n, .int .i64 n0, .int .i64 e0, .int .i64 c0, .bool a0] _ from by with_reducible exact pkFtM11) hb8
     have L8 := Bx.call (show Bx w.heap.size [.int .i64 A, .int .i64 B, .int .i64 C] _ from by exact pkFtM2) hb8
     have R8 := BX.call (show BX (w.heap.size + 1) [.int .i64 0, .int .i64 0, .int .i64 0, .int .i64 0, .bool false] _ from by exact pkFtM3) hb8
     have Q8 := Bx.call (show Bx wr.heap.size [.int .i64 a, .int .i64 b, .int .i64 c, .int .i64 d, .int .i64 x, .int .i64 y] _ from by exact pkFtM2) hb8
     have B8 := bstep (show Below w.heap.size w _ from by exact pkFtM0) hb8
     clear hb8 X7 L7 R7 Q7 B7 Q7c0 Q7c1 Q7c2 Q7c3 Q7c4 Q7c5 Q7l L7c0 L7c1 L7c2 L7l X7c0 X7c1 X7c2 X7c3 X7c4 X7f0 X7f1 X7f2 X7f3 X7f4 X7l
     have zq8 := Q8.lt
     have zx8 := X8.lt
     have Q8c0 := Q8.c0
     have Q8c1 := Q8.c1
     have Q8c2 := Q8.c2
     have Q8c3 := Q8.c3
     have Q8c4 := Q8.c4
     have Q8c5 := Q8.c5
     have Q8l := Q8.lt
     have L8c0 := L8.c0
     have L8c1 := L8.c1
     have L8c2 := L8.c2
     have L8l := L8.lt
     have X8c0 := X8.c0
     have X8c1 := X8.c1
     have X8c2 := X8.c2
     have X8c3 := X8.c3
     have X8c4 := X8.c4
     have X8f0 := X8.f0
     have X8f1 := X8.f1
     have X8f2 := X8.f2
     have X8f3 := X8.f3
     have X8f4 := X8.f4
     have X8l := X8.lt
     go_wp2_with fail
     refine (HMA.out _).mono ?_
     rintro e w9 ⟨rfl, hb9⟩
     have X9 := BX.call (show BX g9 [.int .i64 n, .int .i64 (n0 + 1), .int .i64 e0, .int .i64 c0, .bool al] _ from by repeat (first | with_reducible assumption | with_reducible refine BX.st1 (o := .int .i64 n0) ?_ _ | with_reducible refine BX.st4 (o := .bool a0) ?_ _ | with_reducible refine BX.drew ?_)) hb9
     have L9 := Bx.call (show Bx w.heap.size [.int .i64 A, .int .i64 B, .int .i64 C] _ from by exact pkFtM2) hb9
     have R9 := BX.call (show BX (w.heap.size + 1) [.int .i64 0, .int .i64 0, .int .i64 0, .int .i64 0, .bool false] _ from by exact pkFtM3) hb9
     have Q9 := Bx.call (show Bx wr.heap.size [.int .i64 a, .int .i64 b, .int .i64 c, .int .i64 d, .int .i64 x, .int .i64 y] _ from by exact pkFtM2) hb9
     have B9 := bstep (show Below w.heap.size w _ from by exact pkFtM0) hb9
     clear hb9 X8 L8 R8 Q8 B8 Q8c0 Q8c1 Q8c2 Q8c3 Q8c4 Q8c5 Q8l L8c0 L8c1 L8c2 L8l X8c0 X8c1 X8c2 X8c3 X8c4 X8f0 X8f1 X8f2 X8f3 X8f4 X8l
     have zq9 := Q9.lt
     have zx9 := X9.lt
     rcases hmb : mb with _ | _
     ·have HEF := Lib.hid (show mrP f A B C (xs.take (k + 1)) = (n0 + 1, e0, c0 + bI cb, al) from by rw [HE.out, hmb]; simp [bI])
      clear hmb
      have Q9c0 := Q9.c0
      have Q9c1 := Q9.c1
      have Q9c2 := Q9.c2
      have Q9c3 := Q9.c3
      have Q9c4 := Q9.c4
      have Q9c5 := Q9.c5
      have Q9l := Q9.lt
      have L9c0 := L9.c0
      have L9c1 := L9.c1
      have L9c2 := L9.c2
      have L9l := L9.lt
      have X9c0 := X9.c0
      have X9c1 := X9.c1
      have X9c2 := X9.c2
      have X9c3 := X9.c3
      have X9c4 := X9.c4
      have X9f0 := X9.f0
      have X9f1 := X9.f1
      have X9f2 := X9.f2
      have X9f3 := X9.f3
      have X9f4 := X9.f4
      have X9l := X9.lt
      go_wp2_with fail
      refine (HCA.out _).mono ?_
      rintro e w10 ⟨rfl, hb10⟩
      have X10 := BX.call (show BX g9 [.int .i64 n, .int .i64 (n0 + 1), .int .i64 e0, .int .i64 c0, .bool al] _ from by with_reducible exact pkFtM11) hb10
      have L10 := Bx.call (show Bx w.heap.size [.int .i64 A, .int .i64 B, .int .i64 C] _ from by exact pkFtM2) hb10
      have R10 := BX.call (show BX (w.heap.size + 1) [.int .i64 0, .int .i64 0, .int .i64 0, .int .i64 0, .bool false] _ from by exact pkFtM3) hb10
      have Q10 := Bx.call (show Bx wr.heap.size [.int .i64 a, .int .i64 b, .int .i64 c, .int .i64 d, .int .i64 x, .int .i64 y] _ from by exact pkFtM2) hb10
      have B10 := bstep (show Below w.heap.size w _ from by exact pkFtM0) hb10
      clear hb10 X9 L9 R9 Q9 B9 Q9c0 Q9c1 Q9c2 Q9c3 Q9c4 Q9c5 Q9l L9c0 L9c1 L9c2 L9l X9c0 X9c1 X9c2 X9c3 X9c4 X9f0 X9f1 X9f2 X9f3 X9f4 X9l
      have zq10 := Q10.lt
      have zx10 := X10.lt
      rcases hcb : cb with _ | _
      ·have HEF := Lib.hid (HEF.out.trans (by rw [hcb]; simp [bI] : _ = (n0 + 1, e0, c0, al)))
       clear hcb
       have Q10c0 := Q10.c0
       have Q10c1 := Q10.c1
       have Q10c2 := Q10.c2
       have Q10c3 := Q10.c3
       have Q10c4 := Q10.c4
       have Q10c5 := Q10.c5
       have Q10l := Q10.lt
       have L10c0 := L10.c0
       have L10c1 := L10.c1
       have L10c2 := L10.c2
       have L10l := L10.lt
       have X10c0 := X10.c0
       have X10c1 := X10.c1
       have X10c2 := X10.c2
       have X10c3 := X10.c3
       have X10c4 := X10.c4
       have X10f0 := X10.f0
       have X10f1 := X10.f1
       have X10f2 := X10.f2
       have X10f3 := X10.f3
       have X10f4 := X10.f4
       have X10l := X10.lt
       go_wp2
       go_roundw
       case rel => exact ⟨k + 1, by go_num, by have := HK.out; omega, by rw [HTN.out, HEF.out]; dsimp only; with_reducible exact pkFtM11, by exact pkFtM2, by exact pkFtM3, by exact pkFtM0⟩
       case measure => (have := HK.out); first | (simp [intOf]; done) | (simp [intOf]; omega)
      ·have HEF := Lib.hid (HEF.out.trans (by rw [hcb]; simp [bI] : _ = (n0 + 1, e0, c0 + 1, al)))
       clear hcb
       have Q10c0 := Q10.c0
       have Q10c1 := Q10.c1
       have Q10c2 := Q10.c2
       have Q10c3 := Q10.c3
       have Q10c4 := Q10.c4
       have Q10c5 := Q10.c5
       have Q10l := Q10.lt
       have L10c0 := L10.c0
       have L10c1 := L10.c1
       have L10c2 := L10.c2
       have L10l := L10.lt
       have X10c0 := X10.c0
       have X10c1 := X10.c1
       have X10c2 := X10.c2
       have X10c3 := X10.c3
       have X10c4 := X10.c4
       have X10f0 := X10.f0
       have X10f1 := X10.f1
       have X10f2 := X10.f2
       have X10f3 := X10.f3
       have X10f4 := X10.f4
       have X10l := X10.lt
       go_wp2
       go_roundw
       case rel => exact ⟨k + 1, by go_num, by have := HK.out; omega, by rw [HTN.out, HEF.out]; dsimp only; exact pkFtM5, by exact pkFtM2, by exact pkFtM3, by exact pkFtM0⟩
       case measure => (have := HK.out); first | (simp [intOf]; done) | (simp [intOf]; omega)
     ·have HEF := Lib.hid (show mrP f A B C (xs.take (k + 1)) = (n0 + 1, e0 + 1, c0 + bI cb, al) from by rw [HE.out, hmb]; simp [bI])
      clear hmb
      have Q9c0 := Q9.c0
      have Q9c1 := Q9.c1
      have Q9c2 := Q9.c2
      have Q9c3 := Q9.c3
      have Q9c4 := Q9.c4
      have Q9c5 := Q9.c5
      have Q9l := Q9.lt
      have L9c0 := L9.c0
      have L9c1 := L9.c1
      have L9c2 := L9.c2
      have L9l := L9.lt
      have X9c0 := X9.c0
      have X9c1 := X9.c1
      have X9c2 := X9.c2
      have X9c3 := X9.c3
      have X9c4 := X9.c4
      have X9f0 := X9.f0
      have X9f1 := X9.f1
      have X9f2 := X9.f2
      have X9f3 := X9.f3
      have X9f4 := X9.f4
      have X9l := X9.lt
      go_wp2_with fail
      refine (HCA.out _).mono ?_
      rintro e w10 ⟨rfl, hb10⟩
      have X10 := BX.call (show BX g9 [.int .i64 n, .int .i64 (n0 + 1), .int .i64 (e0 + 1), .int .i64 c0, .bool al] _ from by repeat (first | with_reducible assumption | with_reducible refine BX.st2 (o := .int .i64 e0) ?_ _ | with_reducible refine BX.drew ?_)) hb10
      have L10 := Bx.call (show Bx w.heap.size [.int .i64 A, .int .i64 B, .int .i64 C] _ from by exact pkFtM2) hb10
      have R10 := BX.call (show BX (w.heap.size + 1) [.int .i64 0, .int .i64 0, .int .i64 0, .int .i64 0, .bool false] _ from by exact pkFtM3) hb10
      have Q10 := Bx.call (show Bx wr.heap.size [.int .i64 a, .int .i64 b, .int .i64 c, .int .i64 d, .int .i64 x, .int .i64 y] _ from by exact pkFtM2) hb10
      have B10 := bstep (show Below w.heap.size w _ from by exact pkFtM0) hb10
      clear hb10 X9 L9 R9 Q9 B9 Q9c0 Q9c1 Q9c2 Q9c3 Q9c4 Q9c5 Q9l L9c0 L9c1 L9c2 L9l X9c0 X9c1 X9c2 X9c3 X9c4 X9f0 X9f1 X9f2 X9f3 X9f4 X9l
      have zq10 := Q10.lt
      have zx10 := X10.lt
      rcases hcb : cb with _ | _
      ·have HEF := Lib.hid (HEF.out.trans (by rw [hcb]; simp [bI] : _ = (n0 + 1, e0 + 1, c0, al)))
       clear hcb
       have Q10c0 := Q10.c0
       have Q10c1 := Q10.c1
       have Q10c2 := Q10.c2
       have Q10c3 := Q10.c3
       have Q10c4 := Q10.c4
       have Q10c5 := Q10.c5
       have Q10l := Q10.lt
       have L10c0 := L10.c0
       have L10c1 := L10.c1
       have L10c2 := L10.c2
       have L10l := L10.lt
       have X10c0 := X10.c0
       have X10c1 := X10.c1
       have X10c2 := X10.c2
       have X10c3 := X10.c3
       have X10c4 := X10.c4
       have X10f0 := X10.f0
       have X10f1 := X10.f1
       have X10f2 := X10.f2
       have X10f3 := X10.f3
       have X10f4 := X10.f4
       have X10l := X10.lt
       go_wp2
       go_roundw
       case rel => exact ⟨k + 1, by go_num, by have := HK.out; omega, by rw [HTN.out, HEF.out]; dsimp only; with_reducible exact pkFtM11, by exact pkFtM2, by exact pkFtM3, by exact pkFtM0⟩
       case measure => (have := HK.out); first | (simp [intOf]; done) | (simp [intOf]; omega)
      ·have HEF := Lib.hid (HEF.out.trans (by rw [hcb]; simp [bI] : _ = (n0 + 1, e0 + 1, c0 + 1, al)))
       clear hcb
       have Q10c0 := Q10.c0
       have Q10c1 := Q10.c1
       have Q10c2 := Q10.c2
       have Q10c3 := Q10.c3
       have Q10c4 := Q10.c4
       have Q10c5 := Q10.c5
       have Q10l := Q10.lt
       have L10c0 := L10.c0
       have L10c1 := L10.c1
       have L10c2 := L10.c2
       have L10l := L10.lt
       have X10c0 := X10.c0
       have X10c1 := X10.c1
       have X10c2 := X10.c2
       have X10c3 := X10.c3
       have X10c4 := X10.c4
       have X10f0 := X10.f0
       have X10f1 := X10.f1
       have X10f2 := X10.f2
       have X10f3 := X10.f3
       have X10f4 := X10.f4
       have X10l := X10.lt
       go_wp2
       go_roundw
       case rel => exact ⟨k + 1, by go_num, by have := HK.out; omega, by rw [HTN.out, HEF.out]; dsimp only; exact pkFtM5, by exact pkFtM2, by exact pkFtM3, by exact pkFtM0⟩
       case measure => (have := HK.out); first | (simp [intOf]; done) | (simp [intOf]; omega)
    ·have hzb : (n0 == 0) = false := by simpa using hz
     have HE := Lib.hid (show mrP f A B C (xs.take (k + 1)) = (n0 + 1, e0 + bI mb, c0 + bI cb, a0) from by rw [HE0.out, if_neg hz])
     clear hz HE0 hnb
     have Q4c0 := Q4.c0
     have Q4c1 := Q4.c1
     have Q4c2 := Q4.c2
     have Q4c3 := Q4.c3
     have Q4c4 := Q4.c4
     have Q4c5 := Q4.c5
     have Q4l := Q4.lt
     have L4c0 := L4.c0
     have L4c1 := L4.c1
     have L4c2 := L4.c2
     have L4l := L4.lt
     have X4c0 := X4.c0
     have X4c1 := X4.c1
     have X4c2 := X4.c2
     have X4c3 := X4.c3
     have X4c4 := X4.c4
     have X4f0 := X4.f0
     have X4f1 := X4.f1
     have X4f2 := X4.f2
     have X4f3 := X4.f3
     have X4f4 := X4.f4
     have X4l := X4.lt
     go_wp2_with fail
     refine (HMA.out _).mono ?_
     rintro e w5 ⟨rfl, hb5⟩
     have X5 := BX.call (show BX g9 [.int .i64 n, .int .i64 (n0 + 1), .int .i64 e0, .int .i64 c0, .bool a0] _ from by repeat (first | with_reducible assumption | with_reducible refine BX.st1 (o := .int .i64 n0) ?_ _ | with_reducible refine BX.drew ?_)) hb5
     have L5 := Bx.call (show Bx w.heap.size [.int .i64 A, .int .i64 B, .int .i64 C] _ from by exact pkFtM2) hb5
     have R5 := BX.call (show BX (w.heap.size + 1) [.int .i64 0, .int .i64 0, .int .i64 0, .int .i64 0, .bool false] _ from by exact pkFtM3) hb5
     have Q5 := Bx.call (show Bx wr.heap.size [.int .i64 a, .int .i64 b, .int .i64 c, .int .i64 d, .int .i64 x, .int .i64 y] _ from by exact pkFtM2) hb5
     have B5 := bstep (show Below w.heap.size w _ from by exact pkFtM0) hb5
     clear hb5 X4 L4 R4 Q4 B4 Q4c0 Q4c1 Q4c2 Q4c3 Q4c4 Q4c5 Q4l L4c0 L4c1 L4c2 L4l X4c0 X4c1 X4c2 X4c3 X4c4 X4f0 X4f1 X4f2 X4f3 X4f4 X4l
     have zq5 := Q5.lt
     have zx5 := X5.lt
     rcases hmb : mb with _ | _
     ·have HEF := Lib.hid (show mrP f A B C (xs.take (k + 1)) = (n0 + 1, e0, c0 + bI cb, a0) from by rw [HE.out, hmb]; simp [bI])
      clear hmb
      have Q5c0 := Q5.c0
      have Q5c1 := Q5.c1
      have Q5c2 := Q5.c2
      have Q5c3 := Q5.c3
      have Q5c4 := Q5.c4
      have Q5c5 := Q5.c5
      have Q5l := Q5.lt
      have L5c0 := L5.c0
      have L5c1 := L5.c1
      have L5c2 := L5.c2
      have L5l := L5.lt
      have X5c0 := X5.c0
      have X5c1 := X5.c1
      have X5c2 := X5.c2
      have X5c3 := X5.c3
      have X5c4 := X5.c4
      have X5f0 := X5.f0
      have X5f1 := X5.f1
      have X5f2 := X5.f2
      have X5f3 := X5.f3
      have X5f4 := X5.f4
      have X5l := X5.lt
      go_wp2_with fail
      refine (HCA.out _).mono ?_
      rintro e w6 ⟨rfl, hb6⟩
      have X6 := BX.call (show BX g9 [.int .i64 n, .int .i64 (n0 + 1), .int .i64 e0, .int .i64 c0, .bool a0] _ from by with_reducible exact pkFtM11) hb6
      have L6 := Bx.call (show Bx w.heap.size [.int .i64 A, .int .i64 B, .int .i64 C] _ from by exact pkFtM2) hb6
      have R6 := BX.call (show BX (w.heap.size + 1) [.int .i64 0, .int .i64 0, .int .i64 0, .int .i64 0, .bool false] _ from by exact pkFtM3) hb6
      have Q6 := Bx.call (show Bx wr.heap.size [.int .i64 a, .int .i64 b, .int .i64 c, .int .i64 d, .int .i64 x, .int .i64 y] _ from by exact pkFtM2) hb6
      have B6 := bstep (show Below w.heap.size w _ from by exact pkFtM0) hb6
      clear hb6 X5 L5 R5 Q5 B5 Q5c0 Q5c1 Q5c2 Q5c3 Q5c4 Q5c5 Q5l L5c0 L5c1 L5c2 L5l X5c0 X5c1 X5c2 X5c3 X5c4 X5f0 X5f1 X5f2 X5f3 X5f4 X5l
      have zq6 := Q6.lt
      have zx6 := X6.lt
      rcases hcb : cb with _ | _
      ·have HEF := Lib.hid (HEF.out.trans (by rw [hcb]; simp [bI] : _ = (n0 + 1, e0, c0, a0)))
       clear hcb
       have Q6c0 := Q6.c0
       have Q6c1 := Q6.c1
       have Q6c2 := Q6.c2
       have Q6c3 := Q6.c3
       have Q6c4 := Q6.c4
       have Q6c5 := Q6.c5
       have Q6l := Q6.lt
       have L6c0 := L6.c0
       have L6c1 := L6.c1
       have L6c2 := L6.c2
       have L6l := L6.lt
       have X6c0 := X6.c0
       have X6c1 := X6.c1
       have X6c2 := X6.c2
       have X6c3 := X6.c3
       have X6c4 := X6.c4
       have X6f0 := X6.f0
       have X6f1 := X6.f1
       have X6f2 := X6.f2
       have X6f3 := X6.f3
       have X6f4 := X6.f4
       have X6l := X6.lt
       go_wp2
       go_roundw
       case rel => exact ⟨k + 1, by go_num, by have := HK.out; omega, by rw [HTN.out, HEF.out]; dsimp only; with_reducible exact pkFtM11, by exact pkFtM2, by exact pkFtM3, by exact pkFtM0⟩
       case measure => (have := HK.out); first | (simp [intOf]; done) | (simp [intOf]; omega)
      ·have HEF := Lib.hid (HEF.out.trans (by rw [hcb]; simp [bI] : _ = (n0 + 1, e0, c0 + 1, a0)))
       clear hcb
       have Q6c0 := Q6.c0
       have Q6c1 := Q6.c1
       have Q6c2 := Q6.c2
       have Q6c3 := Q6.c3
       have Q6c4 := Q6.c4
       have Q6c5 := Q6.c5
       have Q6l := Q6.lt
       have L6c0 := L6.c0
       have L6c1 := L6.c1
       have L6c2 := L6.c2
       have L6l := L6.lt
       have X6c0 := X6.c0
       have X6c1 := X6.c1
       have X6c2 := X6.c2
       have X6c3 := X6.c3
       have X6c4 := X6.c4
       have X6f0 := X6.f0
       have X6f1 := X6.f1
       have X6f2 := X6.f2
       have X6f3 := X6.f3
       have X6f4 := X6.f4
       have X6l := X6.lt
       go_wp2
       go_roundw
       case rel => exact ⟨k + 1, by go_num, by have := HK.out; omega, by rw [HTN.out, HEF.out]; dsimp only; exact pkFtM5, by exact pkFtM2, by exact pkFtM3, by exact pkFtM0⟩
       case measure => (have := HK.out); first | (simp [intOf]; done) | (simp [intOf]; omega)
     ·have HEF := Lib.hid (show mrP f A B C (xs.take (k + 1)) = (n0 + 1, e0 + 1, c0 + bI cb, a0) from by rw [HE.out, hmb]; simp [bI])
      clear hmb
      have Q5c0 := Q5.c0
      have Q5c1 := Q5.c1
      have Q5c2 := Q5.c2
      have Q5c3 := Q5.c3
      have Q5c4 := Q5.c4
      have Q5c5 := Q5.c5
      have Q5l := Q5.lt
      have L5c0 := L5.c0
      have L5c1 := L5.c1
      have L5c2 := L5.c2
      have L5l := L5.lt
      have X5c0 := X5.c0
      have X5c1 := X5.c1
      have X5c2 := X5.c2
      have X5c3 := X5.c3
      have X5c4 := X5.c4
      have X5f0 := X5.f0
      have X5f1 := X5.f1
      have X5f2 := X5.f2
      have X5f3 := X5.f3
      have X5f4 := X5.f4
      have X5l := X5.lt
      go_wp2_with fail
      refine (HCA.out _).mono ?_
      rintro e w6 ⟨rfl, hb6⟩
      have X6 := BX.call (show BX g9 [.int .i64 n, .int .i64 (n0 + 1), .int .i64 (e0 + 1), .int .i64 c0, .bool a0] _ from by repeat (first | with_reducible assumption | with_reducible refine BX.st2 (o := .int .i64 e0) ?_ _ | with_reducible refine BX.drew ?_)) hb6
      have L6 := Bx.call (show Bx w.heap.size [.int .i64 A, .int .i64 B, .int .i64 C] _ from by exact pkFtM2) hb6
      have R6 := BX.call (show BX (w.heap.size + 1) [.int .i64 0, .int .i64 0, .int .i64 0, .int .i64 0, .bool false] _ from by exact pkFtM3) hb6
      have Q6 := Bx.call (show Bx wr.heap.size [.int .i64 a, .int .i64 b, .int .i64 c, .int .i64 d, .int .i64 x, .int .i64 y] _ from by exact pkFtM2) hb6
      have B6 := bstep (show Below w.heap.size w _ from by exact pkFtM0) hb6
      clear hb6 X5 L5 R5 Q5 B5 Q5c0 Q5c1 Q5c2 Q5c3 Q5c4 Q5c5 Q5l L5c0 L5c1 L5c2 L5l X5c0 X5c1 X5c2 X5c3 X5c4 X5f0 X5f1 X5f2 X5f3 X5f4 X5l
      have zq6 := Q6.lt
      have zx6 := X6.lt
      rcases hcb : cb with _ | _
      ·have HEF := Lib.hid (HEF.out.trans (by rw [hcb]; simp [bI] : _ = (n0 + 1, e0 + 1, c0, a0)))
       clear hcb
       have Q6c0 := Q6.c0
       have Q6c1 := Q6.c1
       have Q6c2 := Q6.c2
       have Q6c3 := Q6.c3
       have Q6c4 := Q6.c4
       have Q6c5 := Q6.c5
       have Q6l := Q6.lt
       have L6c0 := L6.c0
       have L6c1 := L6.c1
       have L6c2 := L6.c2
       have L6l := L6.lt
       have X6c0 := X6.c0
       have X6c1 := X6.c1
       have X6c2 := X6.c2
       have X6c3 := X6.c3
       have X6c4 := X6.c4
       have X6f0 := X6.f0
       have X6f1 := X6.f1
       have X6f2 := X6.f2
       have X6f3 := X6.f3
       have X6f4 := X6.f4
       have X6l := X6.lt
       go_wp2
       go_roundw
       case rel => exact ⟨k + 1, by go_num, by have := HK.out; omega, by rw [HTN.out, HEF.out]; dsimp only; with_reducible exact pkFtM11, by exact pkFtM2, by exact pkFtM3, by exact pkFtM0⟩
       case measure => (have := HK.out); first | (simp [intOf]; done) | (simp [intOf]; omega)
      ·have HEF := Lib.hid (HEF.out.trans (by rw [hcb]; simp [bI] : _ = (n0 + 1, e0 + 1, c0 + 1, a0)))
       clear hcb
       have Q6c0 := Q6.c0
       have Q6c1 := Q6.c1
       have Q6c2 := Q6.c2
       have Q6c3 := Q6.c3
       have Q6c4 := Q6.c4
       have Q6c5 := Q6.c5
       have Q6l := Q6.lt
       have L6c0 := L6.c0
       have L6c1 := L6.c1
       have L6c2 := L6.c2
       have L6l := L6.lt
       have X6c0 := X6.c0
       have X6c1 := X6.c1
       have X6c2 := X6.c2
       have X6c3 := X6.c3
       have X6c4 := X6.c4
       have X6f0 := X6.f0
       have X6f1 := X6.f1
       have X6f2 := X6.f2
       have X6f3 := X6.f3
       have X6f4 := X6.f4
       have X6l := X6.lt
       go_wp2
       go_roundw
       case rel => exact ⟨k + 1, by go_num, by have := HK.out; omega, by rw [HTN.out, HEF.out]; dsimp only; exact pkFtM5, by exact pkFtM2, by exact pkFtM3, by exact pkFtM0⟩
       case measure => (have := HK.out); first | (simp [intOf]; done) | (simp [intOf]; omega)
  ·obtain rfl : k = xs.length := by omega
   rw [List.take_length] at hX
   obtain ⟨⟨n0, e0, c0, a0⟩, hs⟩ : ∃ s, s = mrP f A B C xs := ⟨_, rfl⟩
   obtain ⟨rt, hrt⟩ : ∃ s, s = trnP xs := ⟨_, rfl⟩
   rw [← hs, ← hrt] at hX
   dsimp only at hX
   have HV := Lib.hid (show .agg #[.int .i64 rt, .int .i64 n0, .int .i64 e0, .int .i64 c0, .bool a0] = ftV f A B C xs from by unfold ftV; rw [← hs, ← hrt])
   clear hs hk hk1 hrt
   have hXc0 := hX.c0
   have hXc1 := hX.c1
   have hXc2 := hX.c2
   have hXc3 := hX.c3
   have hXc4 := hX.c4
   have hXl := hX.lt
   have hRc0 := hR.c0
   have hRc1 := hR.c1
   have hRc2 := hR.c2
   have hRc3 := hR.c3
   have hRc4 := hR.c4
   have hRf0 := hR.f0
   have hRf1 := hR.f1
   have hRf2 := hR.f2
   have hRf3 := hR.f3
   have hRf4 := hR.f4
   have hRl := hR.lt
   go_wp2
   refine bodyPost_ret (v := .agg #[.int .i64 rt, .int .i64 n0, .int .i64 e0, .int .i64 c0, .bool a0]) (by simp [results, Tryz.results77, go_sem, *]) rfl ⟨by rw [HV.out], ?_⟩
   exact pkFtM0
end Go.Proofs.YtjjfomokecngoaaGreatDoor
