/-
  Contracts of chapter 3's JoinLattices (the functions): the program's function and the model's have one and the same answer. No condition.
-/
import Derived.Test.YtlalibefmnenjaaLat5
import Derived.Deep.AppendLies
namespace Go.Proofs.Ytlalibefmnenjaa
open Go.RowKit
set_option linter.unusedSimpArgs false
set_option linter.unusedVariables false

theorem own4 {W : World} {base g : Nat} (T : TypeId) (a b c d : Value) (o1 o2 : Obj) (hg : g = W.heap.size) (hb : base ≤ W.heap.size) :
    (((W.alloc (.cells #[a, b, c, d] T)).alloc o1).alloc o2).drew.ownsRow base T 2 (.slice (some ⟨g, 0, none⟩) 2 2) 2 [a, b, c, d] := by
  subst hg
  exact (((World.ownsRow_lit W #[a, b, c, d] 2 hb (by unfold maxLen; omega) rfl).alloc o1).alloc o2).drew
theorem news4 {W : World} {g : Nat} (T : TypeId) (a b c d : Value) (hg : g = W.heap.size) : ∀ (j : Nat) (u : Value), [a, b, c, d][j]? = some u → (W.alloc (.cells #[a, b, c, d] T)).drew.cell? ((⟨g, 0, none⟩ : Addr).add j) = some u := by
  subst hg
  intro j u hj
  match j, hj with
  | 0, hj => simp at hj; subst hj; simp [Addr.add, go_sem]
  | 1, hj => simp at hj; subst hj; simp [Addr.add, go_sem]
  | 2, hj => simp at hj; subst hj; simp [Addr.add, go_sem]
  | 3, hj => simp at hj; subst hj; simp [Addr.add, go_sem]
  | j + 4, hj => simp at hj
theorem one4 (a b c d : Int) : ∀ u ∈ [Value.int .i64 a, .int .i64 b, .int .i64 c, .int .i64 d], u.oneCell' = true := by
  intro u hu
  simp only [List.mem_cons, List.not_mem_nil, or_false] at hu
  rcases hu with rfl | rfl | rfl | rfl <;> rfl
theorem VL_row {W : World} {base g cap n : Nat} {T : TypeId} {A B C A' B' C' : Int} (h : W.ownsRow base T 2 (.slice (some ⟨g, 0, none⟩) n cap) n ([.int .i64 A, .int .i64 0, .int .i64 B, .int .i64 C] ++ [.int .i64 A', .int .i64 0, .int .i64 B', .int .i64 C'])) (hg : g < W.heap.size) : VL g (joinL A B C A' B' C') W := by
  have hl := h.1
  simp at hl
  exact VL_four hg (h.cellAt 0 (by omega)) (h.cellAt 1 (by omega)) (h.cellAt 2 (by omega)) (h.cellAt 3 (by omega)) (h.cellAt 4 (by omega)) (h.cellAt 5 (by omega)) (h.cellAt 6 (by omega)) (h.cellAt 7 (by omega))
theorem infoVec : (Try.prog.info? 27).map (fun i => (i.zero, i.size, i.bytes)) = some (some (.agg #[.int .i64 0, .int .i64 0]), 2, 16) := by kernel_rfl

set_option maxHeartbeats 4000000 in
theorem implJoin_any (A B C A' B' C' : Int) (w : World) :
    Calls Try.prog 29 #[.agg #[.int .i64 A, .int .i64 B, .int .i64 C], .agg #[.int .i64 A', .int .i64 B', .int .i64 C']] w fun e w' => e = .returned (joinT A B C A' B' C') ∧ Below w.heap.size w w' := by
  rcases hu : latB A B C with _ | _
  · have ea : joinT A B C A' B' C' = .tuple #[.agg #[.int .i64 0, .int .i64 0, .int .i64 0], .int .i64 1] := by simp [joinT, latT, joinR, hu]
    have EA := Lib.hid ea
    clear ea
    go_enter Try.func29, Try.ntmps29
    go_wp2_with fail
    refine (isValidL_any _ _ _ _).mono ?_
    rintro e w1 ⟨rfl, hb1⟩
    obtain ⟨hc1, hf1⟩ := bcell hb1
    obtain ⟨hz1a, hz1b, hz1c⟩ : w.heap.size < w1.heap.size ∧ w.heap.size + 1 < w1.heap.size ∧ w.heap.size + 1 + 1 < w1.heap.size := by have := hb1.size; (try simp at this); omega
    go_wp2
    refine bodyPost_ret (v := .tuple #[.agg #[.int .i64 0, .int .i64 0, .int .i64 0], .int .i64 1]) (by simp [results, Try.results29, go_sem, hc1, hz1a, hz1b, hz1c]) rfl ⟨ret_val EA.out.symm, ?_⟩
    repeat (first | exact Below.refl _ _ | refine Below.setCell ?_ (by first | omega | (simp <;> omega)) _ | refine Below.alloc ?_ (by first | omega | (simp <;> omega)) _ | refine bstep ?_ (by assumption) | refine Below.drew ?_)
  rcases hv : latB A' B' C' with _ | _
  · have ea : joinT A B C A' B' C' = .tuple #[.agg #[.int .i64 0, .int .i64 0, .int .i64 0], .int .i64 1] := by simp [joinT, latT, joinR, hv]
    have EA := Lib.hid ea
    clear ea
    go_enter Try.func29, Try.ntmps29
    go_wp2_with fail
    refine (isValidL_any _ _ _ _).mono ?_
    rintro e w1 ⟨rfl, hb1⟩
    obtain ⟨hc1, hf1⟩ := bcell hb1
    obtain ⟨hz1a, hz1b, hz1c⟩ : w.heap.size < w1.heap.size ∧ w.heap.size + 1 < w1.heap.size ∧ w.heap.size + 1 + 1 < w1.heap.size := by have := hb1.size; (try simp at this); omega
    go_wp2_with fail
    refine (isValidL_any _ _ _ _).mono ?_
    rintro e w2 ⟨rfl, hb2⟩
    obtain ⟨hc2, hf2⟩ := bcell hb2
    obtain ⟨hz2a, hz2b, hz2c⟩ : w.heap.size < w2.heap.size ∧ w.heap.size + 1 < w2.heap.size ∧ w.heap.size + 1 + 1 < w2.heap.size := by have := hb2.size; (try simp at this); omega
    go_wp2
    refine bodyPost_ret (v := .tuple #[.agg #[.int .i64 0, .int .i64 0, .int .i64 0], .int .i64 1]) (by simp [results, Try.results29, go_sem, hc1, hz1a, hz1b, hz1c, hc2, hz2a, hz2b, hz2c]) rfl ⟨ret_val EA.out.symm, ?_⟩
    repeat (first | exact Below.refl _ _ | refine Below.setCell ?_ (by first | omega | (simp <;> omega)) _ | refine Below.alloc ?_ (by first | omega | (simp <;> omega)) _ | refine bstep ?_ (by assumption) | refine Below.drew ?_)
  · have ea : joinT A B C A' B' C' = .tuple #[.agg #[.int .i64 ((latL (joinL A B C A' B' C')).1), .int .i64 ((latL (joinL A B C A' B' C')).2.1), .int .i64 ((latL (joinL A B C A' B' C')).2.2)], .int .i64 0] := by simp [joinT, latT, joinR, hu, hv]
    have hi := latB_iff.1 hu
    have hj := latB_iff.1 hv
    have hp := join_pos hi hj
    have hL := vecsB_join hi hj
    have EA := Lib.hid ea
    clear ea
    go_enter Try.func29, Try.ntmps29
    go_wp2_with fail
    refine (isValidL_any _ _ _ _).mono ?_
    rintro e w1 ⟨rfl, hb1⟩
    obtain ⟨hc1, hf1⟩ := bcell hb1
    obtain ⟨hz1a, hz1b, hz1c⟩ : w.heap.size < w1.heap.size ∧ w.heap.size + 1 < w1.heap.size ∧ w.heap.size + 1 + 1 < w1.heap.size := by have := hb1.size; (try simp at this); omega
    go_wp2_with fail
    refine (isValidL_any _ _ _ _).mono ?_
    rintro e w2 ⟨rfl, hb2⟩
    obtain ⟨hc2, hf2⟩ := bcell hb2
    obtain ⟨hz2a, hz2b, hz2c⟩ : w.heap.size < w2.heap.size ∧ w.heap.size + 1 < w2.heap.size ∧ w.heap.size + 1 + 1 < w2.heap.size := by have := hb2.size; (try simp at this); omega
    go_wp2_with fail
    refine (join_call _ _ _ _ _ _ _ hi hj).mono ?_
    rintro e w3 ⟨rfl, hb3⟩
    obtain ⟨hc3, hf3⟩ := bcell hb3
    obtain ⟨hz3a, hz3b, hz3c⟩ : w.heap.size < w3.heap.size ∧ w.heap.size + 1 < w3.heap.size ∧ w.heap.size + 1 + 1 < w3.heap.size := by have := hb3.size; (try simp at this); omega
    go_wp2
    refine bodyPost_ret (v := .tuple #[.agg #[.int .i64 ((latL (joinL A B C A' B' C')).1), .int .i64 ((latL (joinL A B C A' B' C')).2.1), .int .i64 ((latL (joinL A B C A' B' C')).2.2)], .int .i64 0]) (by simp [results, Try.results29, go_sem, hc1, hz1a, hz1b, hz1c, hc2, hz2a, hz2b, hz2c, hc3, hz3a, hz3b, hz3c]) rfl ⟨ret_val EA.out.symm, ?_⟩
    repeat (first | exact Below.refl _ _ | refine Below.setCell ?_ (by first | omega | (simp <;> omega)) _ | refine Below.alloc ?_ (by first | omega | (simp <;> omega)) _ | refine bstep ?_ (by assumption) | refine Below.drew ?_)

set_option maxHeartbeats 4000000 in
theorem specJoin_any (A B C A' B' C' : Int) (w : World) :
    Calls Try.prog 30 #[.agg #[.int .i64 A, .int .i64 B, .int .i64 C], .agg #[.int .i64 A', .int .i64 B', .int .i64 C']] w fun e w' => e = .returned (joinT A B C A' B' C') ∧ Below w.heap.size w w' := by
  rcases hu : latB A B C with _ | _
  · have ea : joinT A B C A' B' C' = .tuple #[.agg #[.int .i64 0, .int .i64 0, .int .i64 0], .int .i64 1] := by simp [joinT, latT, joinR, hu]
    have EA := Lib.hid ea
    clear ea
    go_enter Try.func30, Try.ntmps30
    go_wp2_with fail
    refine (specIsLattice_any _ _ _ _).mono ?_
    rintro e w1 ⟨rfl, hb1⟩
    obtain ⟨hc1, hf1⟩ := bcell hb1
    obtain ⟨hz1a, hz1b, hz1c⟩ : w.heap.size < w1.heap.size ∧ w.heap.size + 1 < w1.heap.size ∧ w.heap.size + 1 + 1 < w1.heap.size := by have := hb1.size; (try simp at this); omega
    go_wp2
    refine bodyPost_ret (v := .tuple #[.agg #[.int .i64 0, .int .i64 0, .int .i64 0], .int .i64 1]) (by simp [results, Try.results30, go_sem, hc1, hz1a, hz1b, hz1c]) rfl ⟨ret_val EA.out.symm, ?_⟩
    repeat (first | exact Below.refl _ _ | refine Below.setCell ?_ (by first | omega | (simp <;> omega)) _ | refine Below.alloc ?_ (by first | omega | (simp <;> omega)) _ | refine bstep ?_ (by assumption) | refine Below.drew ?_)
  rcases hv : latB A' B' C' with _ | _
  · have ea : joinT A B C A' B' C' = .tuple #[.agg #[.int .i64 0, .int .i64 0, .int .i64 0], .int .i64 1] := by simp [joinT, latT, joinR, hv]
    have EA := Lib.hid ea
    clear ea
    go_enter Try.func30, Try.ntmps30
    go_wp2_with fail
    refine (specIsLattice_any _ _ _ _).mono ?_
    rintro e w1 ⟨rfl, hb1⟩
    obtain ⟨hc1, hf1⟩ := bcell hb1
    obtain ⟨hz1a, hz1b, hz1c⟩ : w.heap.size < w1.heap.size ∧ w.heap.size + 1 < w1.heap.size ∧ w.heap.size + 1 + 1 < w1.heap.size := by have := hb1.size; (try simp at this); omega
    go_wp2_with fail
    refine (specIsLattice_any _ _ _ _).mono ?_
    rintro e w2 ⟨rfl, hb2⟩
    obtain ⟨hc2, hf2⟩ := bcell hb2
    obtain ⟨hz2a, hz2b, hz2c⟩ : w.heap.size < w2.heap.size ∧ w.heap.size + 1 < w2.heap.size ∧ w.heap.size + 1 + 1 < w2.heap.size := by have := hb2.size; (try simp at this); omega
    go_wp2
    refine bodyPost_ret (v := .tuple #[.agg #[.int .i64 0, .int .i64 0, .int .i64 0], .int .i64 1]) (by simp [results, Try.results30, go_sem, hc1, hz1a, hz1b, hz1c, hc2, hz2a, hz2b, hz2c]) rfl ⟨ret_val EA.out.symm, ?_⟩
    repeat (first | exact Below.refl _ _ | refine Below.setCell ?_ (by first | omega | (simp <;> omega)) _ | refine Below.alloc ?_ (by first | omega | (simp <;> omega)) _ | refine bstep ?_ (by assumption) | refine Below.drew ?_)
  · have ea : joinT A B C A' B' C' = .tuple #[.agg #[.int .i64 ((latL (joinL A B C A' B' C')).1), .int .i64 ((latL (joinL A B C A' B' C')).2.1), .int .i64 ((latL (joinL A B C A' B' C')).2.2)], .int .i64 0] := by simp [joinT, latT, joinR, hu, hv]
    have hi := latB_iff.1 hu
    have hj := latB_iff.1 hv
    have hp := join_pos hi hj
    have hL := vecsB_join hi hj
    have EA := Lib.hid ea
    clear ea
    go_enter Try.func30, Try.ntmps30
    go_wp2_with fail
    refine (specIsLattice_any _ _ _ _).mono ?_
    rintro e w1 ⟨rfl, hb1⟩
    obtain ⟨hc1, hf1⟩ := bcell hb1
    obtain ⟨hz1a, hz1b, hz1c⟩ : w.heap.size < w1.heap.size ∧ w.heap.size + 1 < w1.heap.size ∧ w.heap.size + 1 + 1 < w1.heap.size := by have := hb1.size; (try simp at this); omega
    go_wp2_with fail
    refine (specIsLattice_any _ _ _ _).mono ?_
    rintro e w2 ⟨rfl, hb2⟩
    obtain ⟨hc2, hf2⟩ := bcell hb2
    obtain ⟨hz2a, hz2b, hz2c⟩ : w.heap.size < w2.heap.size ∧ w.heap.size + 1 < w2.heap.size ∧ w.heap.size + 1 + 1 < w2.heap.size := by have := hb2.size; (try simp at this); omega
    have hs1 := hb1.size
    have hs2 := hb2.size
    have B2 : Below w.heap.size w w2 := by
      repeat (first | exact Below.refl _ _ | refine Below.setCell ?_ (by first | omega | (simp <;> omega)) _ | refine Below.alloc ?_ (by first | omega | (simp <;> omega)) _ | refine bstep ?_ (by assumption) | refine Below.drew ?_)
    have KR2 : KL (w.heap.size + 1 + 1) 0 0 0 w2 := KL.call (KL.call (KL.at _ (by simp)) hb1) hb2
    have KM2 : Kt (w.heap.size + 1) A' B' C' w2 := Kt.call (Kt.call (Kt.alloc (Kt.at _ (by simp)) _) hb1) hb2
    have KL2 : Kt w.heap.size A B C w2 := Kt.call (Kt.call (Kt.alloc (Kt.alloc (Kt.at _ rfl) _) _) hb1) hb2
    clear hb1 hb2 hc1 hc2 hf1 hf2
    obtain ⟨i0, hi0, hz0, hz1, hz2⟩ := info_parts infoVec
    have hp' : 0 < (hmFold (joinL A B C A' B' C')).2.2 := by rw [← hm_two]; exact hp
    obtain ⟨m0, m1, m2, m3⟩ := id KM2
    obtain ⟨l0, l1, l2, l3⟩ := id KL2
    clear hp
    go_wp2_with fail
    go_region_held3 (fun W => (W.cell? ⟨w.heap.size, 0, none⟩ = some (.int .i64 A) ∧ W.cell? ⟨w.heap.size, 1, none⟩ = some (.int .i64 B) ∧ W.cell? ⟨w.heap.size, 2, none⟩ = some (.int .i64 C)) ∧ (W.cell? ⟨w.heap.size + 1, 0, none⟩ = some (.int .i64 A') ∧ W.cell? ⟨w.heap.size + 1, 1, none⟩ = some (.int .i64 B') ∧ W.cell? ⟨w.heap.size + 1, 2, none⟩ = some (.int .i64 C'))) (first | exact SS5 | exact SS6 | (refine ⟨Kt.cells ?_, Kt.cells ?_⟩ <;> repeat (first | assumption | with_reducible refine Kt.drew ?_ | with_reducible refine Kt.alloc ?_ _ | ((with_reducible refine Kt.put ?_ ?_); (first | exact Nat.lt_succ_self _ | exact Nat.lt_succ_of_lt (Nat.lt_succ_self _) | omega | (dsimp only; omega))))))
      (first
        | (go_at_call_of 74 (Value.agg #[Value.int IntKind.i64 A, Value.int IntKind.i64 B, Value.int IntKind.i64 C]); refine (l03Basis_any A B C _).mono ?_; rintro e u1 ⟨rfl, rfl⟩)
        | (go_at_call_of 74 (Value.agg #[Value.int IntKind.i64 A', Value.int IntKind.i64 B', Value.int IntKind.i64 C']); refine (l03Basis_any A' B' C' _).mono ?_; rintro e u2 ⟨rfl, rfl⟩)
        | (refine step_append_lies _ rfl _ _ 60 rfl w2.heap.size 27 i0 (.agg #[.int .i64 0, .int .i64 0]) 2 16 Try.underlying60 hi0 hz0 hz1 hz2 rfl (by decide) (.slice (some ⟨w2.heap.size + 1, 0, none⟩) 2 2) 2 [.int .i64 A, .int .i64 0, .int .i64 B, .int .i64 C] rfl (own4 _ _ _ _ _ _ _ (by first | rfl | (simp; done) | (simp; omega) | omega) (by first | rfl | (simp; done) | (simp; omega) | omega)) ⟨w2.heap.size + 1 + 1 + 1, 0, none⟩ 2 2 [.int .i64 A', .int .i64 0, .int .i64 B', .int .i64 C'] rfl rfl (news4 _ _ _ _ _ (by first | rfl | (simp; done) | (simp; omega) | omega)) (one4 _ _ _ _) (by omega) (by unfold maxLen; omega) (by omega) (by first | rfl | (simp; done) | (simp; omega) | omega) _ rfl ?_
           intro g cap w5 hown hgrow _ hlt
           have Bx : Below w2.heap.size w2 w5 := Below.grown (Below.drew (Below.alloc (Below.alloc (Below.alloc (Below.alloc (Below.refl _ _) (Nat.le_refl _) _) (by simp) _) (by first | (simp; done) | (simp; omega)) _) (by first | (simp; done) | (simp; omega)) _)) hgrow (by first | (simp; done) | (simp; omega)) (by intro k hk; simp [Value.ownBlock] at hk; omega)
           have VV := Lib.hid (VL_row hown hlt)
           have SS5 := And.intro (Kt.call KL2 Bx).cells (Kt.call KM2 Bx).cells
           clear hown hgrow)
        | (go_at_call 66; refine (hermite_any (joinL A B C A' B' C') g cap _ VV.out hL (by simp [joinL]) hp').mono ?_; rintro e w6 ⟨rfl, hb6⟩; have B6 := Below.trans Bx (hb6.mono Bx.size); have SL6 := Kt.call KL2 B6; have SM6 := Kt.call KM2 B6; have SS6 := And.intro SL6.cells SM6.cells; have KR6 := KR2.call B6; obtain ⟨b0, b1, b2, b3, b4, b5, b6⟩ := id KR6; have BB6 := bstep B2 B6))
    all_goals
      clear hi hj hL hp' VV Bx KL2 KM2 KR2 SS5 SS6 SL6 SM6 hb6 B6 m0 m1 m2 m3 l0 l1 l2 l3
      go_wp2
      refine bodyPost_ret (v := .tuple #[.agg #[.int .i64 ((latL (joinL A B C A' B' C')).1), .int .i64 ((latL (joinL A B C A' B' C')).2.1), .int .i64 ((latL (joinL A B C A' B' C')).2.2)], .int .i64 0]) (by simp [results, Try.results30, go_sem, b0, b1, b2, b3, b4, b5, b6]) rfl ⟨ret_val EA.out.symm, ?_⟩
      repeat (first | assumption | refine Below.setCell ?_ (by first | omega | (simp <;> omega)) _ | refine Below.drew ?_)

end Go.Proofs.Ytlalibefmnenjaa
