/-
 Cells painted by the colours of their orbits, in the program and in the model. Conditions: a valid lattice, a group modulo it, a slice with a colour for each orbit.
-/
import Derived.Test.YtdgophfembpniaaGreatDoorOc
import Derived.Test.YtdgophfembpniaaGreatDoorGf
import Derived.Test.YtdgophfembpniaaGreatDoorGv
import Derived.Deep.RegionHeld3
import Derived.IntWalk
namespace Go.Proofs.YtdgophfembpniaaGreatDoor
open Go.RowKit
set_option linter.unusedSimpArgs false
set_option linter.unusedVariables false

theorem BX.grownK {g : Nat} {us : List Value} {W w1 : World} {row : Option Nat} (h : BX g us W) (hg : W.grownBy w1 row) (hr : row ≠ some g) : BX g us w1 := by
 have hh := hg.block g h.lt (fun e => hr e.symm)
 exact ⟨⟨Nat.lt_of_lt_of_le h.lt hg.size, fun i u e => (World.cell?_of_block (w := W) hh).trans (h.bx.cel i u e)⟩, fun i hi => (World.frozen?_of_block (w := W) hh).trans (h.fr i hi)⟩
theorem BX.same {g : Nat} {us : List Value} {W w1 : World} (h : BX g us W) (hs : W.heap.size ≤ w1.heap.size) (hh : w1.heap[g]? = W.heap[g]?) : BX g us w1 :=
 ⟨⟨Nat.lt_of_lt_of_le h.lt hs, fun i u e => (World.cell?_of_block (w := W) hh).trans (h.bx.cel i u e)⟩, fun i hi => (World.frozen?_of_block (w := W) hh).trans (h.fr i hi)⟩
theorem Bx.sameK {g : Nat} {us : List Value} {W w1 : World} (h : Bx g us W) (hs : W.heap.size ≤ w1.heap.size) (hh : w1.heap[g]? = W.heap[g]?) : Bx g us w1 :=
 ⟨Nat.lt_of_lt_of_le h.lt hs, fun i u e => (World.cell?_of_block (w := W) hh).trans (h.cel i u e)⟩
theorem ownsRow_setK {W : World} {base n : Nat} {e : TypeId} {size : Nat} {v : Value} {xs : List Value} {bx o : Nat} (h : W.ownsRow base e size v n xs) (hb : v.ownBlock ≠ some bx) (u : Value) : (W.setCell ⟨bx, o, none⟩ u).ownsRow base e size v n xs := by
 obtain ⟨h1, h2⟩ := h
 refine ⟨h1, h2.imp id ?_⟩
 rintro ⟨g, cap, cur, rfl, hg, hb9, r⟩
 refine ⟨g, cap, cur, rfl, hg, (Below.heap_setCell W _ _ g (fun e => hb (by simp only [Value.ownBlock]; rw [e]))).trans hb9, r⟩
def pnL (C : Nat → Int) (idx : Nat → Nat) (k : Nat) : List Int := (List.range k).map fun t => C (idx t)
theorem pnL_len (C : Nat → Int) (idx : Nat → Nat) (k : Nat) : (pnL C idx k).length = k := by simp [pnL]
theorem pnL_snoc (C : Nat → Int) (idx : Nat → Nat) (k : Nat) : pnL C idx (k + 1) = pnL C idx k ++ [C (idx k)] := by simp [pnL, List.range_succ]
def pnG (C : Nat → Int) (idx : Nat → Nat) (n : Nat) : Nat → Int := intAt (inV (pnL C idx n))
theorem pnG_at (C : Nat → Int) (idx : Nat → Nat) {n t : Nat} (ht : t < n) : pnG C idx n t = C (idx t) := by
 unfold pnG intAt
 rw [inV_at (by rw [pnL_len]; exact ht)]
 simp [pnL]
/- the index of a cell's orbit -/
noncomputable def nuX (p q : Nat) (B : Int) (G : List M6) (t : Nat) : Nat := (nuI p q B G t).toNat
theorem num_ex {f : Int} {p q : Nat} {B : Int} {G : List M6} (hG : grpB f (p : Int) B (q : Int) G = true) : ∃ N, NumIs p q B G N := by
 have hl := (grp_good hG).1
 refine ⟨fun n => open Classical in if h : ∃ k, ∃ hk : k < (orbF p q B G).length, Orb (p : Int) B (q : Int) G (orbF p q B G)[k] (clK q n) then ((Classical.choose h : Nat) : Int) else 0, fun v hv k hk ho => ?_⟩
 have h1 := nb_lt hl hv
 have h2 := nb_int hl hv
 have h3 : nb (q : Int) v < p * q := by
  have : ((nb (q : Int) v : Nat) : Int) < ((p * q : Nat) : Int) := by rw [h2]; push_cast; exact h1.2.1
  omega
 have e : clK q (nb (q : Int) v) = v := nb_inj hl (cl_cel h3).1 hv (cl_cel h3).2
 have hx : ∃ k, ∃ hk : k < (orbF p q B G).length, Orb (p : Int) B (q : Int) G (orbF p q B G)[k] (clK q (nb (q : Int) v)) := ⟨k, hk, by rw [e]; exact ho⟩
 dsimp only
 rw [dif_pos hx]
 have hs := Classical.choose_spec hx
 generalize Classical.choose hx = j at hs ⊢
 obtain ⟨hk2, ho2⟩ := hs
 rw [e] at ho2
 rcases Nat.lt_trichotomy j k with h | h | h
 ·exact absurd ho (fun ho => orbF_sep hG hk2 hk h ho2 ho)
 ·rw [h]
 ·exact absurd ho2 (fun ho2 => orbF_sep hG hk hk2 h ho ho2)
theorem nu_in {f : Int} {p q : Nat} {B : Int} {G : List M6} (hG : grpB f (p : Int) B (q : Int) G = true) {t : Nat} (ht : t < p * q) : nuI p q B G t = (nuX p q B G t : Int) ∧ nuX p q B G t < (orbF p q B G).length := by
 obtain ⟨N, hN⟩ := num_ex hG
 have h1 := nuI_is hN
 obtain ⟨u, hu, ho⟩ := (fst_cov hG (cellP q p) (fun v hv => cellP_mem7.1 hv)).1 _ (cellP_mem7.2 (cl_cel ht).1)
 obtain ⟨k, hk, hku⟩ := List.getElem_of_mem (show u ∈ orbF p q B G from hu)
 rw [← hku] at ho
 have h2 := h1 _ (cl_cel ht).1 k hk ho
 rw [(cl_cel ht).2] at h2
 unfold nuX
 rw [h2]
 simp
 exact hk
theorem nu_idx {f : Int} {p q : Nat} {B : Int} {G : List M6} (hG : grpB f (p : Int) B (q : Int) G = true) {J : Nat → Bool} {I : Nat → Int} (T : TMid (p : Int) B (q : Int) G (orbF p q B G) J I) {t : Nat} (ht : t < p * q) : I t = (nuX p q B G t : Int) ∧ nuX p q B G t < (orbF p q B G).length := by
 have h1 := num_uniq hG T.num (nuI_is T.num) ht
 rw [h1]
 exact nu_in hG ht
theorem own_nilK {W : World} {base size : Nat} {e : TypeId} (h : base ≤ W.heap.size) : W.ownsRow base e size (.slice none 0 0) 0 [] := ⟨by simp, .inl ⟨rfl, rfl⟩⟩
set_option maxRecDepth 100000 in
set_option maxHeartbeats 16000000 in
theorem painted_any {lo hi p q m : Nat} {f B : Int} {v : Value} {C : Nat → Int} {I : Nat → Int} {idx : Nat → Nat} {W : World} (hl : latI (p : Int) B (q : Int)) (hv : SRow lo hi 1 v m C W) (hx : ∀ t, t < p * q → I t = (idx t : Int) ∧ idx t < m) :
  Calls Tryz.prog 61 #[.agg #[.int .i64 ((p : Int)), .int .i64 B, .int .i64 ((q : Int))], .int .i64 f, .agg (rowI I), v] W (fun e w' => ∃ v' : Value, e = .returned (.agg #[.int .i64 f, .int .i64 (p : Int), .int .i64 B, .int .i64 (q : Int), v']) ∧ SRow W.heap.size w'.heap.size 1 v' (p * q) (pnG C idx (p * q)) w' ∧ Below W.heap.size W w') := by
 obtain ⟨i0, hinf, hz0, hz1, hz2⟩ := info_parts infoI64K
 have hpi' : PatI 0 p B q (p * q) (fun _ => 0) := ⟨rfl, hl, rfl, fun t _ => by omega⟩
 obtain ⟨hp1, hp2, hq1, hq2, hn64, hn1⟩ := hpi'.bd
 have HX := Lib.hid hx
 have hm1 : 0 < m := Nat.lt_of_le_of_lt (Nat.zero_le _) (hx 0 (by omega)).2
 have hm2 := hv.2.1
 obtain ⟨gc, capc, rfl, hgc, hgc2, rc⟩ := hv.irow hm1
 have hgw : gc < W.heap.size := by have := hv.1; omega
 have hmi : (m : Int) ≤ 2000000 := by omega
 have HRC := Lib.hid rc
 have hlp := latI_prod hl
 have hl0 : (0 : Int) ≤ (p : Int) * (q : Int) := Int.mul_nonneg (by omega) (by omega)
 have CI : Hid (∀ W, Calls Tryz.prog 95 #[.agg #[.int .i64 ((p : Int)), .int .i64 B, .int .i64 ((q : Int))]] W fun e w' => e = .returned (.int .i64 ((p * q : Nat) : Int)) ∧ Below W.heap.size W w') := Lib.hid (fun W => (index_any7 (p : Int) B (q : Int) W (by omega)).mono (fun e w' hh => ⟨by rw [hh.1]; simp, hh.2⟩))
 clear hlp hl0
 obtain ⟨n, hn⟩ : ∃ n, n = p * q := ⟨_, rfl⟩
 rw [← hn] at hn64 hn1 CI
 have HNN := Lib.hid hn
 have hn2 : (n : Int) ≤ 64 := by omega
 have L0 : Bx W.heap.size [.int .i64 (p : Int), .int .i64 B, .int .i64 (q : Int)] (((W.alloc (.cells #[.int .i64 (p : Int), .int .i64 B, .int .i64 (q : Int)] 32)).alloc (.cells (rowI I) 100)).alloc (.cells #[.int .i64 0, .int .i64 0, .int .i64 0, .int .i64 0, .slice none 0 0] 34)) := ((Bx.at _ rfl).alloc _).alloc _
 have A0 : ARI (W.heap.size + 1) I (((W.alloc (.cells #[.int .i64 (p : Int), .int .i64 B, .int .i64 (q : Int)] 32)).alloc (.cells (rowI I) 100)).alloc (.cells #[.int .i64 0, .int .i64 0, .int .i64 0, .int .i64 0, .slice none 0 0] 34)) := ARI.alloc (show ARI (W.heap.size + 1) I ((W.alloc (.cells #[.int .i64 (p : Int), .int .i64 B, .int .i64 (q : Int)] 32)).alloc (.cells (rowI I) 100)) from by
  have h9 := World.alloc_heap_new (W.alloc (.cells #[.int .i64 (p : Int), .int .i64 B, .int .i64 (q : Int)] 32)) (.cells (rowI I) 100)
  simpa [ARI] using h9) _
 have R0 : BX (W.heap.size + 1 + 1) [.int .i64 0, .int .i64 0, .int .i64 0, .int .i64 0, .slice none 0 0] (((W.alloc (.cells #[.int .i64 (p : Int), .int .i64 B, .int .i64 (q : Int)] 32)).alloc (.cells (rowI I) 100)).alloc (.cells #[.int .i64 0, .int .i64 0, .int .i64 0, .int .i64 0, .slice none 0 0] 34)) := BX.at _ (by simp)
 have B0 : Below W.heap.size W (((W.alloc (.cells #[.int .i64 (p : Int), .int .i64 B, .int .i64 (q : Int)] 32)).alloc (.cells (rowI I) 100)).alloc (.cells #[.int .i64 0, .int .i64 0, .int .i64 0, .int .i64 0, .slice none 0 0] 34)) := by repeat (first | with_reducible exact Below.refl _ _ | with_reducible assumption | with_reducible refine Below.setCell ?_ (by first | omega | (dsimp only; omega) | (simp <;> omega)) _ | with_reducible refine Below.alloc ?_ (by first | omega | (simp <;> omega)) _ | with_reducible refine bstep ?_ (by with_reducible assumption) | with_reducible refine Below.drew ?_ | with_reducible refine below_drewN ?_ _)
 clear hv hx hl hpi' rc hn
 go_enter Tryz.func61, Tryz.ntmps61
 have l0c0 := L0.c0
 have l0c1 := L0.c1
 have l0c2 := L0.c2
 have l0l := L0.lt
 go_wp2_with fail
 have L1 : Bx W.heap.size [.int .i64 (p : Int), .int .i64 B, .int .i64 (q : Int)] ((((W.alloc (.cells #[.int .i64 (p : Int), .int .i64 B, .int .i64 (q : Int)] 32)).alloc (.cells (rowI I) 100)).alloc (.cells #[.int .i64 0, .int .i64 0, .int .i64 0, .int .i64 0, .slice none 0 0] 34)).alloc (.cells #[.int .i64 f, .int .i64 (p : Int), .int .i64 B, .int .i64 (q : Int), .slice none 0 0] 34)) := L0.alloc _
 have A1 : ARI (W.heap.size + 1) I ((((W.alloc (.cells #[.int .i64 (p : Int), .int .i64 B, .int .i64 (q : Int)] 32)).alloc (.cells (rowI I) 100)).alloc (.cells #[.int .i64 0, .int .i64 0, .int .i64 0, .int .i64 0, .slice none 0 0] 34)).alloc (.cells #[.int .i64 f, .int .i64 (p : Int), .int .i64 B, .int .i64 (q : Int), .slice none 0 0] 34)) := A0.alloc _
 have R1 : BX (W.heap.size + 1 + 1) [.int .i64 0, .int .i64 0, .int .i64 0, .int .i64 0, .slice none 0 0] ((((W.alloc (.cells #[.int .i64 (p : Int), .int .i64 B, .int .i64 (q : Int)] 32)).alloc (.cells (rowI I) 100)).alloc (.cells #[.int .i64 0, .int .i64 0, .int .i64 0, .int .i64 0, .slice none 0 0] 34)).alloc (.cells #[.int .i64 f, .int .i64 (p : Int), .int .i64 B, .int .i64 (q : Int), .slice none 0 0] 34)) := R0.alloc _
 have D1 : BX (W.heap.size + 1 + 1 + 1) [.int .i64 f, .int .i64 (p : Int), .int .i64 B, .int .i64 (q : Int), .slice none 0 0] ((((W.alloc (.cells #[.int .i64 (p : Int), .int .i64 B, .int .i64 (q : Int)] 32)).alloc (.cells (rowI I) 100)).alloc (.cells #[.int .i64 0, .int .i64 0, .int .i64 0, .int .i64 0, .slice none 0 0] 34)).alloc (.cells #[.int .i64 f, .int .i64 (p : Int), .int .i64 B, .int .i64 (q : Int), .slice none 0 0] 34)) := BX.at _ (by simp)
 have B1 : Below W.heap.size W ((((W.alloc (.cells #[.int .i64 (p : Int), .int .i64 B, .int .i64 (q : Int)] 32)).alloc (.cells (rowI I) 100)).alloc (.cells #[.int .i64 0, .int .i64 0, .int .i64 0, .int .i64 0, .slice none 0 0] 34)).alloc (.cells #[.int .i64 f, .int .i64 (p : Int), .int .i64 B, .int .i64 (q : Int), .slice none 0 0] 34)) := B0.alloc (by simp; omega) _
 refine (CI.out _).mono ?_
 rintro e w1 ⟨rfl, hb1⟩
 have A2 := A1.call hb1
 have R2 := R1.call hb1
 have D2 := D1.call hb1
 have B2 := bstep B1 hb1
 have zd := D2.lt
 clear L1 A1 R1 D1 B1 L0 A0 R0 B0 hb1 CI l0c0 l0c1 l0c2 l0l
 have O2 : w1.ownsRow (W.heap.size + 1 + 1 + 1) 2 1 (.slice none 0 0) 0 (inV (pnL C idx 0)) := own_nilK (by omega)
 have hnb2 : (Value.slice none 0 0).ownBlock ≠ some (W.heap.size + 1 + 1 + 1) := by intro e9; simp [Value.ownBlock] at e9
 go_wp2_with fail
 go_loopw [19] (fun s X => ∃ (k : Nat) (v9 : Value), s = .int .i64 (k : Int) ∧ k ≤ n ∧ BX (W.heap.size + 1 + 1 + 1) [.int .i64 f, .int .i64 (p : Int), .int .i64 B, .int .i64 (q : Int), v9] X ∧ X.ownsRow (W.heap.size + 1 + 1 + 1) 2 1 v9 k (inV (pnL C idx k)) ∧ v9.ownBlock ≠ some (W.heap.size + 1 + 1 + 1) ∧ Below (W.heap.size + 1 + 1 + 1) w1 X) (fun s _ => n - (intOf s).toNat)
 case atStart => exact ⟨0, _, rfl, by omega, D2, O2, hnb2, Below.refl _ _⟩
 case round =>
  clear D2 O2 hnb2
  obtain ⟨k, v9, rfl, hk, D2, OO, hnb, hB⟩ := hrel
  have hsz := hB.size
  by_cases hk1 : k < n
  ·have hk2 : (k : Int) < (n : Int) := by omega
   have hk3 : k < 64 := by omega
   obtain ⟨hxx, hxm⟩ := HX.out k (by rw [← HNN.out]; exact hk1)
   have hA3 : ARI (W.heap.size + 1) I wr := (hB.block (W.heap.size + 1) (by omega)).trans A2
   have hI1 := hA3.at k hk3
   rw [hxx] at hI1
   obtain ⟨i, hi⟩ : ∃ i, i = idx k := ⟨_, rfl⟩
   rw [← hi] at hI1 hxm
   have hC1 := ((HRC.out.grow B2 hgw).grow hB (by omega)).at i (by omega)
   obtain ⟨z9, hz9⟩ : ∃ z, z = C i := ⟨_, rfl⟩
   rw [← hz9] at hC1
   have HZ := Lib.hid (show z9 = C (idx k) by rw [hz9, hi])
   have hi2 : (i : Int) < (m : Int) := by omega
   have c3 : KQ7 gc i (.int .i64 z9) wr := ⟨by omega, hC1⟩
   have D3 := D2.drew
   have O4 := own_callK OO (Below.drew (Below.refl _ _))
   have E3 : Below (W.heap.size + 1 + 1 + 1) w1 wr.drew := hB.drew
   have c4 := c3.drew
   have zdr : wr.drew.heap.size = wr.heap.size := rfl
   clear hz9 hi hxx hA3
   have d2c4 := D2.c4
   go_wp2_with fail
   refine wp_region_T 7 (fun W9 => W9.cell? ⟨W.heap.size + 1 + 1 + 1, 4, none⟩ = some v9 ∧ W9.cell? ⟨gc, i, none⟩ = some (.int .i64 z9)) (by kernel_rfl) ⟨D3.c4, c4.cells⟩ (fun hHeld inv => ?_)
   refine wpAnyT_take (i := 0) (v := ?_) (by kernel_rfl) (by kernel_rfl) (by decide) (by kernel_rfl) inv rfl (by decide) (by kernel_rfl) (by kernel_rfl) (fun _ _ _ h => h) (Or.inl ⟨by rfl, ?_⟩) (by assumption) (fun inv => ?_)
   rotate_left
   ·(intro w hSw; (try dsimp only at hSw); go_simp; try with_reducible rfl)
   simp only [Act.put, List.setIfInBounds_toArray, List.set_cons_zero, List.set_cons_succ]
   refine wpAnyT_take (i := 1) (v := ?_) (by kernel_rfl) (by kernel_rfl) (by decide) (by kernel_rfl) inv rfl (by decide) (by kernel_rfl) (by kernel_rfl) (fun _ _ _ h => h) (Or.inl ⟨by rfl, ?_⟩) (by assumption) (fun inv => ?_)
   rotate_left
   ·(intro w hSw; (try dsimp only at hSw); go_simp; try with_reducible rfl)
   simp only [Act.put, List.setIfInBounds_toArray, List.set_cons_zero, List.set_cons_succ]
   refine wpAnyT_take (i := 2) (v := ?_) (by kernel_rfl) (by kernel_rfl) (by decide) (by kernel_rfl) inv rfl (by decide) (by kernel_rfl) (by kernel_rfl) (fun _ _ _ h => h) (Or.inl ⟨by rfl, ?_⟩) (by assumption) (fun inv => ?_)
   rotate_left
   ·(intro w hSw; (try dsimp only at hSw); go_simp; try with_reducible rfl)
   simp only [Act.put, List.setIfInBounds_toArray, List.set_cons_zero, List.set_cons_succ]
   refine wpAnyT_take (i := 3) (v := ?_) (by kernel_rfl) (by kernel_rfl) (by decide) (by kernel_rfl) inv rfl (by decide) (by kernel_rfl) (by kernel_rfl) (fun _ _ _ h => h) (Or.inl ⟨by rfl, ?_⟩) (by assumption) (fun inv => ?_)
   rotate_left
   ·(intro w hSw; (try dsimp only at hSw); go_simp; try with_reducible rfl)
   simp only [Act.put, List.setIfInBounds_toArray, List.set_cons_zero, List.set_cons_succ]
   refine wpAnyT_take (i := 4) (v := ?_) (by kernel_rfl) (by kernel_rfl) (by decide) (by kernel_rfl) inv rfl (by decide) (by kernel_rfl) (by kernel_rfl) (fun _ _ _ h => h) (Or.inl ⟨by rfl, ?_⟩) (by assumption) (fun inv => ?_)
   rotate_left
   ·(intro w hSw; (try dsimp only at hSw); go_simp; try with_reducible rfl)
   simp only [Act.put, List.setIfInBounds_toArray, List.set_cons_zero, List.set_cons_succ]
   refine wpAnyT_take (i := 5) (v := ?_) (by kernel_rfl) (by kernel_rfl) (by decide) (by kernel_rfl) inv rfl (by decide) (by kernel_rfl) (by kernel_rfl) (fun _ _ _ h => h) (Or.inl ⟨by rfl, ?_⟩) (by assumption) (fun inv => ?_)
   rotate_left
   ·(intro w hSw; (try dsimp only at hSw); go_simp; try with_reducible rfl)
   simp only [Act.put, List.setIfInBounds_toArray, List.set_cons_zero, List.set_cons_succ]
   refine wpAnyT_one (i := 6) (by kernel_rfl) rfl (fun K hK => ?_)
   go_simp
   refine hK.out _ _ (fun _ => ⟨(D3.alloc _).c4, (c4.alloc _).cells⟩) ?_
   clear hK K
   try simp only [Act.put, List.setIfInBounds_toArray, List.set_cons_zero, List.set_cons_succ]
   refine wpAnyT_seq (k := 7) (by decide) rfl rfl (by kernel_rfl) ?_
   clear hHeld inv
   refine wpList_append_own_at _ rfl _ _ 24 rfl (W.heap.size + 1 + 1 + 1) 2 i0 (.int .i64 0) 1 8 Tryz.underlying24 hinf hz0 hz1 hz2 rfl (by decide) _ _ _ rfl (O4.alloc _) ⟨wr.heap.size, 0, none⟩ 1 1 [.int .i64 z9] rfl rfl ?c1 ?c2 ?c3 ?c4 ?c5 ?_
   case c1 => exact new_oneK _ _ rfl
   case c2 => intro u hu; simp only [List.mem_cons, List.not_mem_nil, or_false] at hu; rw [hu]; rfl
   case c3 => unfold maxLen; omega
   case c4 => omega
   case c5 => simp; omega
   intro v' w5 hown5 hgr5 _ hat
   have D5 := (D3.alloc (.cells #[.int .i64 z9] 2)).grownK hgr5 hnb
   have E5 : Below (W.heap.size + 1 + 1 + 1) w1 w5 := Below.grown (Below.alloc E3 (by omega) _) hgr5 (by simp; omega) (fun j hj => (O4.lt j hj).1)
   have O5 : w5.ownsRow (W.heap.size + 1 + 1 + 1) 2 1 v' (k + 1) (inV (pnL C idx (k + 1))) := by rw [pnL_snoc, ← HZ.out, inV_snoc]; exact hown5
   have hnb5 : v'.ownBlock ≠ some (W.heap.size + 1 + 1 + 1) := by
    rcases hat with e9 | e9 <;> rw [e9]
    ·exact hnb
    ·intro e7; have := D3.lt; simp at e7; omega
   have D6 := D5.store 4 (by simp) v'
   have OWN9 := Lib.hid O5
   have d5c4 := D5.c4
   have d5f4 := D5.f4
   have d5l := D5.lt
   obtain ⟨ao', cap', rfl⟩ := own_shK O5
   clear hown5 hgr5 hat O5
   go_wp2
   go_roundw
   case rel => exact ⟨k + 1, _, by go_num, by omega, D6, ownsRow_setK OWN9.out hnb5 _, hnb5, E5.setCell (by dsimp only; omega) _⟩
   case measure => first | (simp [intOf]; done) | (simp [intOf]; omega)
  ·obtain rfl : k = n := by omega
   obtain ⟨ao9, cap9, rfl⟩ := own_shK OO
   have HS9 : Hid (SRow (W.heap.size + 1 + 1 + 1) wr.heap.size 1 (.slice ao9 (p * q) cap9) (p * q) (pnG C idx (p * q)) wr) := Lib.hid (by
    have h9 := SRow.of OO (inV_int _) (by omega)
    rw [HNN.out] at h9
    exact h9)
   have R3 : BX (W.heap.size + 1 + 1) [.int .i64 0, .int .i64 0, .int .i64 0, .int .i64 0, .slice none 0 0] wr := BX.same R2 hsz (hB.block _ (by omega))
   have HB9 : Hid (Below W.heap.size W wr) := Lib.hid (B2.trans (hB.mono (by omega)))
   rw [HNN.out] at D2
   have d2c0 := D2.c0
   have d2c1 := D2.c1
   have d2c2 := D2.c2
   have d2c3 := D2.c3
   have d2c4 := D2.c4
   have d2l := D2.lt
   have r3c0 := R3.c0
   have r3c1 := R3.c1
   have r3c2 := R3.c2
   have r3c3 := R3.c3
   have r3c4 := R3.c4
   have r3f0 := R3.f0
   have r3f1 := R3.f1
   have r3f2 := R3.f2
   have r3f3 := R3.f3
   have r3f4 := R3.f4
   have r3l := R3.lt
   clear OO R2 R3 D2 hnb hB
   go_wp2
   refine bodyPost_ret (v := .agg #[.int .i64 f, .int .i64 (p : Int), .int .i64 B, .int .i64 (q : Int), .slice ao9 (p * q) cap9]) (by simp [results, Tryz.results61, go_sem, *]) rfl ⟨_, rfl, ?_, ?_⟩
   ·refine SRow.up (hi := wr.heap.size) (SRow.low (lo := W.heap.size + 1 + 1 + 1) ?_ (by omega))
    repeat (first | with_reducible exact HS9.out | with_reducible refine SRow.put (by first | omega | (dsimp only; omega)) _ ?_)
   ·have hB := HB9.out
    repeat (first | with_reducible exact Below.refl _ _ | with_reducible assumption | with_reducible refine Below.setCell ?_ (by first | omega | (dsimp only; omega) | (simp <;> omega)) _ | with_reducible refine Below.alloc ?_ (by first | omega | (simp <;> omega)) _ | with_reducible refine bstep ?_ (by with_reducible assumption) | with_reducible refine Below.drew ?_ | with_reducible refine below_drewN ?_ _)
end Go.Proofs.YtdgophfembpniaaGreatDoor
