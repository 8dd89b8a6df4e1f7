/-
  The symmetries of a frieze, in order, in the program and in the model. Condition: the frieze is valid.
-/
import Derived.Test.YtajmfeppnhkcdaaFzM
import Derived.Laws.OwnMore
import Derived.OwnWalk
namespace Go.Proofs.Ytajmfeppnhkcdaa
open Go.RowKit
set_option linter.unusedSimpArgs false
set_option linter.unusedVariables false

def cellsM (l : List FMo) : List Value := l.flatMap fun m => [.bool m.1, .bool m.2.1, .int .i64 ((m.2.2 : Nat) : Int)]
theorem cellsM_len (l : List FMo) : (cellsM l).length = l.length * 3 := by
  induction l with
  | nil => rfl
  | cons t l ih => simp only [cellsM, List.flatMap_cons, List.length_append, List.length_cons, List.length_nil] at *; omega
theorem cellsM_snoc (l : List FMo) (m : FMo) : cellsM (l ++ [m]) = cellsM l ++ [.bool m.1, .bool m.2.1, .int .i64 ((m.2.2 : Nat) : Int)] := by simp [cellsM]
theorem ownsRow_grow {B : Nat} {W w1 : World} {base : Nat} {e : TypeId} {size : Nat} {v : Value} {n : Nat} {xs : List Value} (h : W.ownsRow base e size v n xs) (hb : Below B W w1) (hB : W.heap.size ≤ B) : w1.ownsRow base e size v n xs := by
  obtain ⟨h1, h2⟩ := h
  refine ⟨h1, ?_⟩
  rcases h2 with h2 | ⟨g, cap, cur, rfl, hg, hgg, rest⟩
  · exact .inl h2
  · refine .inr ⟨g, cap, cur, rfl, hg, ?_, rest⟩
    rw [hb.block g (Nat.lt_of_lt_of_le (Array.getElem?_eq_some_iff.1 hgg).1 hB)]; exact hgg
theorem ownsRow_call {W w1 : World} {base : Nat} {e : TypeId} {size : Nat} {v : Value} {n : Nat} {xs : List Value} (h : W.ownsRow base e size v n xs) (hb : Below W.heap.size W w1) : w1.ownsRow base e size v n xs := ownsRow_grow h hb (Nat.le_refl _)
theorem infoFm : (Try.prog.info? 53).map (fun i => (i.zero, i.size, i.bytes)) = some (some (.agg #[.bool false, .bool false, .int .i64 0]), 3, 16) := by kernel_rfl
theorem one_fmo {a b : Bool} {c : Int} : ∀ u ∈ [Value.bool a, .bool b, .int .i64 c], u.oneCell' = true := by
  intro u hu
  simp only [List.mem_cons, List.not_mem_nil, or_false] at hu
  rcases hu with rfl | rfl | rfl <;> rfl
theorem new_fmo {W : World} {g : Nat} (T : TypeId) (a b c : Value) (hg : g = W.heap.size) : ∀ (j : Nat) (u : Value), [a, b, c][j]? = some u → (W.alloc (.cells #[a, b, c] T)).cell? ((⟨g, 0, none⟩ : Addr).add j) = some u := by
  subst hg
  intro j u hj
  match j, hj with
  | 0, hj => simp at hj; subst hj; simp [Addr.add, go_sem]
  | 1, hj => simp at hj; subst hj; simp [Addr.add, go_sem]
  | 2, hj => simp at hj; subst hj; simp [Addr.add, go_sem]
  | j + 3, hj => simp at hj
theorem own_nextM {w1 : World} {base : Nat} {e : TypeId} {v : Value} {l : List FMo} {a b : Bool} {c : Nat} (h : w1.ownsRow base e 3 v (l.length + 1) (cellsM l ++ [.bool a, .bool b, .int .i64 ((c : Nat) : Int)])) : w1.ownsRow base e 3 v (l ++ [(a, b, c)]).length (cellsM (l ++ [(a, b, c)])) := by
  rw [cellsM_snoc]; simpa using h
def SymOwn (h w : Nat) (F : Nat → Int) (W : World) (e : Ending) (w' : World) : Prop :=
  ∃ v : Value, e = .returned v ∧ w'.ownsRow W.heap.size 53 3 v (symL h w F).length (cellsM (symL h w F)) ∧ Below W.heap.size W w'
theorem Op_index2 (T : TypeId) (a b : Value) (k : Nat) (hk : k < 2) (hT : ∀ W, Sem.run Try.prog (Instr.index T (.agg #[a, b]) (.int .i64 (0 : Nat))) W = .ok a W) : True := trivial
set_option maxRecDepth 100000 in
set_option maxHeartbeats 16000000 in
theorem l08Syms_any {lo hi h w n : Nat} {v : Value} {F : Nat → Int} {W : World} (p : FriI h w n F) (hv : SRow lo hi 1 v n F W) :
    Calls Try.prog 67 #[.agg #[.int .i64 (h : Int), .int .i64 (w : Int), v]] W (SymOwn h w F W) := by
  obtain ⟨i0, hinf, hz0, hz1, hz2⟩ := info_parts infoFm
  have R := Lib.hid hv
  have P := Lib.hid p
  have w24 := p.w24
  have pb := perN_bd F p.w1 (h := h)
  have HPB := Lib.hid pb
  obtain ⟨g, cap, rfl, hg, _, r⟩ := hv.irow p.n1
  clear hv r p
  have KA0 : K3 W.heap.size (.int .i64 (h : Int)) (.int .i64 (w : Int)) (.slice (some ⟨g, 0, none⟩) n cap) (W.alloc (.cells #[.int .i64 (h : Int), .int .i64 (w : Int), .slice (some ⟨g, 0, none⟩) n cap] 26)) := K3.at _ rfl
  have B0 : Below W.heap.size W (W.alloc (.cells #[.int .i64 (h : Int), .int .i64 (w : Int), .slice (some ⟨g, 0, none⟩) n cap] 26)) := (Below.refl _ _).alloc (Nat.le_refl _) _
  go_enter Try.func67, Try.ntmps67
  go_wp2_with fail
  with_reducible refine (l08Period_any P.out (R.out.call B0)).mono ?_
  rintro e w1 ⟨rfl, hb1⟩
  have KA1 := KA0.call hb1
  have B1 := bstep B0 hb1
  have hper1 : (1 : Int) ≤ ((perN h w F : Nat) : Int) ∧ ((perN h w F : Nat) : Int) ≤ 24 := by omega
  obtain ⟨d, hd⟩ : ∃ d, d = perN h w F := ⟨_, rfl⟩
  have HD := Lib.hid hd
  rw [← hd] at hper1
  have HD2 := Lib.hid (show ((perN h w F : Nat) : Int) = (d : Int) by rw [hd])
  rw [HD2.out]
  clear KA0 B0 hb1 pb hd
  go_wp2_with fail
  go_loopw [4, 5, 6] (fun v9 s5 _ X => ∃ k : Nat, s5 = .int .i64 (k : Int) ∧ k ≤ 4 * d ∧ X.ownsRow (W.heap.size + 1) 53 3 v9 (symP h w F (k)).length (cellsM (symP h w F (k))) ∧ K3 W.heap.size (.int .i64 (h : Int)) (.int .i64 (w : Int)) (.slice (some ⟨g, 0, none⟩) n cap) X ∧ Below W.heap.size W X) (fun _ s5 _ _ => 4 * d - (intOf s5).toNat)
  case atStart => exact ⟨0, rfl, by omega, by have h := World.ownsRow_lit (base := W.heap.size + 1) (e := 53) (size := 3) w1 #[] 0 KA1.lt (by unfold maxLen; omega) rfl; simpa [symP, cellsM] using h, KA1.alloc _, B1.alloc B1.size _⟩
  case round =>
    clear KA1 B1
    obtain ⟨k, rfl, hk, hown, KA, hB⟩ := hrel
    by_cases hk1 : k < 4 * d
    · have hk2 : (k : Int) < 4 * (d : Int) := by omega
      have hd0 : ¬ (d : Int) = 0 := by omega
      have hkx : (k : Int) ≤ 96 := by omega
      obtain ⟨q, hq⟩ : ∃ q, q = k / d := ⟨_, rfl⟩
      obtain ⟨s, hs⟩ : ∃ s, s = k % d := ⟨_, rfl⟩
      have hq96 : q ≤ 96 := by rw [hq]; exact Nat.le_trans (Nat.div_le_self k d) (by omega)
      have hs24 : s < 24 := by rw [hs]; have h9 := Nat.mod_lt k (show 0 < d by omega); omega
      have hq1 : (k : Int) / (d : Int) = (q : Int) := by rw [hq]; simp
      have hs1 : (k : Int) % (d : Int) = (s : Int) := by rw [hs]; simp
      have hq2 : (k : Int).tdiv (d : Int) = (q : Int) := by rw [Int.tdiv_eq_ediv_of_nonneg (by omega)]; exact hq1
      have hs2 : (k : Int).tmod (d : Int) = (s : Int) := by rw [Int.tmod_eq_emod_of_nonneg (by omega)]; exact hs1
      have hw1 : IntKind.i64.wrap (q : Int) = (q : Int) := IntWalk.i64_in _ (by omega)
      have hw2 : IntKind.i64.wrap (s : Int) = (s : Int) := IntWalk.i64_in _ (by omega)
      have hsy : symAt (perN h w F) k = (decide (2 ≤ q), decide (q % 2 = 1), s) := by rw [← HD.out, hq, hs]; rfl
      obtain ⟨u, hu⟩ : ∃ u, u = q % 2 := ⟨_, rfl⟩
      rw [← hu] at hsy
      have hu1 : (q : Int) % 2 = (u : Int) := by omega
      have hu2 : (q : Int).tmod 2 = (u : Int) := by rw [Int.tmod_eq_emod_of_nonneg (by omega)]; exact hu1
      have hw3 : IntKind.i64.wrap (u : Int) = (u : Int) := IntWalk.i64_in _ (by omega)
      obtain ⟨tx, htx⟩ : ∃ tx, tx = decide (2 ≤ q) := ⟨_, rfl⟩
      obtain ⟨ty, hty⟩ : ∃ ty, ty = decide (u = 1) := ⟨_, rfl⟩
      have hbx : decide ((2 : Int) ≤ (q : Int)) = tx := by rw [htx]; apply decide_eq_decide.2; omega
      have hby : ((u : Int) == 1) = ty := by rw [hty, Bool.eq_iff_iff]; simp; omega
      rw [← htx, ← hty] at hsy
      clear hq hs hu htx hty
      have ka0 := KA.c0
      have ka1 := KA.c1
      have ka2 := KA.c2
      have kal := KA.lt
      have HSY := Lib.hid hsy
      have HLN := Lib.hid (symP_len h w F k)
      clear hsy
      go_wp2_with fail
      go_region
      go_wp2_with fail
      have B1 : Below W.heap.size W (wr.alloc (.cells #[.bool tx, .bool ty, .int .i64 ((s : Nat) : Int)] 53)).drew := (hB.alloc hB.size _).drew
      have KA1 := (KA.alloc (.cells #[.bool tx, .bool ty, .int .i64 ((s : Nat) : Int)] 53)).drew
      have O1 := ownsRow_call hown (show Below wr.heap.size wr (wr.alloc (.cells #[.bool tx, .bool ty, .int .i64 ((s : Nat) : Int)] 53)).drew from ((Below.refl _ _).alloc (Nat.le_refl _) _).drew)
      have KM1 : K3 wr.heap.size (.bool tx) (.bool ty) (.int .i64 (s : Int)) (wr.alloc (.cells #[.bool tx, .bool ty, .int .i64 ((s : Nat) : Int)] 53)).drew := (K3.at _ rfl).drew
      generalize (wr.alloc (.cells #[.bool tx, .bool ty, .int .i64 ((s : Nat) : Int)] 53)).drew = wq at *
      with_reducible refine (keeps_any P.out (R.out.call B1) tx ty (s := s) (by omega)).mono ?_
      rintro e w2 ⟨rfl, hb2⟩
      have B2 := bstep B1 hb2
      have KA2 := KA1.call hb2
      have O2 := ownsRow_call O1 hb2
      have KM2 := KM1.call hb2
      have km0 := KM2.c0
      have km1 := KM2.c1
      have km2 := KM2.c2
      have kml := KM2.lt
      have HS := Lib.hid HSY.out
      have HL := Lib.hid (show (symP h w F k).length ≤ 1000 by have := HLN.out; omega)
      have HK := Lib.hid (show k < 4 * d ∧ (k : Int) ≤ 96 from ⟨hk1, hkx⟩)
      clear hb2 B1 KA1 O1 KM1 hown KA hB ka0 ka1 ka2 kal hq1 hs1 hq2 hs2 hw1 hw2 hw3 hu1 hu2 hbx hby
      rcases hkp : kpN h w F tx ty s with _ | _
      · have hown2 : w2.ownsRow (W.heap.size + 1) 53 3 u4 (symP h w F (k + 1)).length (cellsM (symP h w F (k + 1))) := by rw [symP_no HS.out hkp]; exact O2
        clear O2
        go_wp2
        go_roundw
        case rel => exact ⟨k + 1, by go_num, by have := HK.out; omega, hown2, KA2, B2⟩
        case measure => first | (simp [intOf]; done) | (simp [intOf]; omega)
      · go_wp2_with (at_builtin; refine wpList_append_own _ rfl _ _ 51 rfl (W.heap.size + 1) 53 i0 (.agg #[.bool false, .bool false, .int .i64 0]) 3 16 Try.underlying51 hinf hz0 hz1 hz2 rfl (by decide) _ _ _ rfl (O2.alloc _) ⟨w2.heap.size, 0, none⟩ 1 1 [.bool tx, .bool ty, .int .i64 ((s : Nat) : Int)] rfl rfl ?c1 ?c2 ?c3 ?c4 ?c5 ?_)
        case c1 => exact new_fmo _ _ _ _ rfl
        case c2 => exact one_fmo
        case c3 => have := HL.out; unfold maxLen; omega
        case c4 => have := HL.out; omega
        case c5 => have := KA2.lt; simp; omega
        intro v' w3 hown' hgrow _
        have B3 : Below W.heap.size W w3 := Below.grown (Below.alloc B2 B2.size _) hgrow (by have := B2.size; simp; omega) (fun q hq => by have := (O2.lt q hq).1; omega)
        have KA3 : K3 W.heap.size (.int .i64 (h : Int)) (.int .i64 (w : Int)) (.slice (some ⟨g, 0, none⟩) n cap) w3 := (KA2.alloc _).grown hgrow (fun e9 => by have := (O2.lt _ e9).1; omega)
        have hown2 : w3.ownsRow (W.heap.size + 1) 53 3 v' (symP h w F (k + 1)).length (cellsM (symP h w F (k + 1))) := by rw [symP_yes HS.out hkp]; exact own_nextM (by simpa using hown')
        clear hown' hgrow O2 KA2 B2 km0 km1 km2 kml KM2
        go_wp2
        go_roundw
        case rel => exact ⟨k + 1, by go_num, by have := HK.out; omega, hown2, KA3, B3⟩
        case measure => first | (simp [intOf]; done) | (simp [intOf]; omega)
    · obtain rfl : k = 4 * d := by omega
      have hown2 : wr.ownsRow W.heap.size 53 3 u4 (symL h w F).length (cellsM (symL h w F)) := by unfold symL; rw [← HD.out]; exact ownsRow_lower hown (by omega)
      clear hown
      go_wp2
      go_ret
      exact ⟨_, rfl, hown2, hB⟩
theorem symAt_two {p a b s : Nat} (ha : a < 2) (hb : b < 2) (hs : s < p) : symAt p ((2 * a + b) * p + s) = (a == 1, b == 1, s) := by
  have e : a = (a == 1).toNat ∧ b = (b == 1).toNat := by
    have h1 : a = 0 ∨ a = 1 := by omega
    have h2 : b = 0 ∨ b = 1 := by omega
    rcases h1 with rfl | rfl <;> rcases h2 with rfl | rfl <;> simp
  have := symAt_of (p := p) (a == 1) (b == 1) hs
  rw [← e.1, ← e.2] at this
  exact this
theorem index2_0 (W : World) : (Instr.index 102 (.agg #[.bool false, .bool true]) (.int .i64 0)).run Try.prog W = .ok (.bool false) W := by kernel_rfl
theorem index2_1 (W : World) : (Instr.index 102 (.agg #[.bool false, .bool true]) (.int .i64 1)).run Try.prog W = .ok (.bool true) W := by kernel_rfl
theorem index2_any {a : Nat} (ha : a < 2) (W : World) : (Instr.index 102 (.agg #[.bool false, .bool true]) (.int .i64 (a : Int))).run Try.prog W = .ok (.bool (a == 1)) W := by
  have h1 : a = 0 ∨ a = 1 := by omega
  rcases h1 with rfl | rfl
  · exact index2_0 W
  · exact index2_1 W
set_option maxRecDepth 100000 in
set_option maxHeartbeats 16000000 in
theorem syms_any {lo hi h w n : Nat} {v : Value} {F : Nat → Int} {W : World} (p : FriI h w n F) (hv : SRow lo hi 1 v n F W) :
    Calls Try.prog 66 #[.agg #[.int .i64 (h : Int), .int .i64 (w : Int), v]] W (SymOwn h w F W) := by
  obtain ⟨i0, hinf, hz0, hz1, hz2⟩ := info_parts infoFm
  have R := Lib.hid hv
  have P := Lib.hid p
  have w24 := p.w24
  have pb := perN_bd F p.w1 (h := h)
  have HPB := Lib.hid pb
  obtain ⟨g, cap, rfl, hg, _, r⟩ := hv.irow p.n1
  clear hv r p
  have KA0 : K3 W.heap.size (.int .i64 (h : Int)) (.int .i64 (w : Int)) (.slice (some ⟨g, 0, none⟩) n cap) (W.alloc (.cells #[.int .i64 (h : Int), .int .i64 (w : Int), .slice (some ⟨g, 0, none⟩) n cap] 26)) := K3.at _ rfl
  have B0 : Below W.heap.size W (W.alloc (.cells #[.int .i64 (h : Int), .int .i64 (w : Int), .slice (some ⟨g, 0, none⟩) n cap] 26)) := (Below.refl _ _).alloc (Nat.le_refl _) _
  go_enter Try.func66, Try.ntmps66
  go_wp2_with fail
  with_reducible refine (period_any P.out (R.out.call B0)).mono ?_
  rintro e w1 ⟨rfl, hb1⟩
  have KA1 := KA0.call hb1
  have B1 := bstep B0 hb1
  have hper1 : (1 : Int) ≤ ((perN h w F : Nat) : Int) ∧ ((perN h w F : Nat) : Int) ≤ 24 := by omega
  obtain ⟨d, hd⟩ : ∃ d, d = perN h w F := ⟨_, rfl⟩
  have HD := Lib.hid hd
  rw [← hd] at hper1
  have HD2 := Lib.hid (show ((perN h w F : Nat) : Int) = (d : Int) by rw [hd])
  rw [HD2.out]
  clear KA0 B0 hb1 pb hd
  go_wp2_with fail
  go_loopw [3, 14] (fun v9 s5 X => ∃ a : Nat, s5 = .int .i64 (a : Int) ∧ a ≤ 2 ∧ X.ownsRow (W.heap.size + 1) 53 3 v9 (symP h w F (2 * a * d)).length (cellsM (symP h w F (2 * a * d))) ∧ K3 W.heap.size (.int .i64 (h : Int)) (.int .i64 (w : Int)) (.slice (some ⟨g, 0, none⟩) n cap) X ∧ Below W.heap.size W X) (fun _ s5 _ => 2 - (intOf s5).toNat)
  case atStart => exact ⟨0, rfl, by omega, ⟨by simp [symP, cellsM], .inl ⟨rfl, by simp [symP]⟩⟩, KA1, B1⟩
  case round =>
    clear KA1 B1
    obtain ⟨a, rfl, ha, hown, KA, hB⟩ := hrel
    by_cases ha1 : a < 2
    · have ha2 : (a : Int) < 2 := by omega
      have hixa := fun W => index2_any ha1 W
      go_wp2_with fail
      go_loopw [3, 18] (fun v9 s5 X => ∃ b : Nat, s5 = .int .i64 (b : Int) ∧ b ≤ 2 ∧ X.ownsRow (W.heap.size + 1) 53 3 v9 (symP h w F ((2 * a + b) * d)).length (cellsM (symP h w F ((2 * a + b) * d))) ∧ K3 W.heap.size (.int .i64 (h : Int)) (.int .i64 (w : Int)) (.slice (some ⟨g, 0, none⟩) n cap) X ∧ Below W.heap.size W X) (fun _ s5 _ => 2 - (intOf s5).toNat)
      case atStart => exact ⟨0, rfl, by omega, by simpa using hown, KA, hB⟩
      case round =>
        clear hown KA hB
        obtain ⟨b, rfl, hb, hown, KA, hB⟩ := hrel
        by_cases hb1 : b < 2
        · have hb2 : (b : Int) < 2 := by omega
          have hixb := fun W => index2_any hb1 W
          go_wp2_with fail
          go_loopw [3, 22] (fun v9 s5 X => ∃ s : Nat, s5 = .int .i64 (s : Int) ∧ s ≤ d ∧ X.ownsRow (W.heap.size + 1) 53 3 v9 (symP h w F ((2 * a + b) * d + s)).length (cellsM (symP h w F ((2 * a + b) * d + s))) ∧ K3 W.heap.size (.int .i64 (h : Int)) (.int .i64 (w : Int)) (.slice (some ⟨g, 0, none⟩) n cap) X ∧ Below W.heap.size W X) (fun _ s5 _ => d - (intOf s5).toNat)
          case atStart => exact ⟨0, rfl, by omega, by simpa using hown, KA, hB⟩
          case round =>
            clear hown KA hB
            obtain ⟨s, rfl, hs, hown, KA, hB⟩ := hrel
            by_cases hs1 : s < d
            · have hs2 : (s : Int) < (d : Int) := by omega
              have hsx : (s : Int) ≤ 24 := by omega
              have hsy : symAt (perN h w F) ((2 * a + b) * d + s) = (a == 1, b == 1, s) := by rw [← HD.out]; exact symAt_two ha1 hb1 hs1
              have hln : (symP h w F ((2 * a + b) * d + s)).length ≤ 1000 := by
                have h1 := symP_len h w F ((2 * a + b) * d + s)
                have h2 : (2 * a + b) * d ≤ 3 * 24 := Nat.mul_le_mul (by omega) (by omega)
                omega
              have HS := Lib.hid hsy
              have HL := Lib.hid hln
              have HAB := Lib.hid (And.intro ha1 hb1)
              clear hsy hln
              generalize (a == 1) = tx at *
              generalize (b == 1) = ty at *
              have ka0 := KA.c0
              have ka1 := KA.c1
              have ka2 := KA.c2
              have kal := KA.lt
              go_wp2_with fail
              have B1 : Below W.heap.size W (wr.alloc (.cells #[.bool tx, .bool ty, .int .i64 ((s : Nat) : Int)] 53)) := hB.alloc hB.size _
              have KA1 := (KA.alloc (.cells #[.bool tx, .bool ty, .int .i64 ((s : Nat) : Int)] 53))
              have O1 := ownsRow_call hown (show Below wr.heap.size wr (wr.alloc (.cells #[.bool tx, .bool ty, .int .i64 ((s : Nat) : Int)] 53)) from (Below.refl _ _).alloc (Nat.le_refl _) _)
              have KM1 : K3 wr.heap.size (.bool tx) (.bool ty) (.int .i64 (s : Int)) (wr.alloc (.cells #[.bool tx, .bool ty, .int .i64 ((s : Nat) : Int)] 53)) := (K3.at _ rfl)
              generalize (wr.alloc (.cells #[.bool tx, .bool ty, .int .i64 ((s : Nat) : Int)] 53)) = wq at *
              with_reducible refine (kept_any P.out (R.out.call B1) tx ty (s := s) (by omega)).mono ?_
              rintro e w2 ⟨rfl, hb2⟩
              have B2 := bstep B1 hb2
              have KA2 := KA1.call hb2
              have O2 := ownsRow_call O1 hb2
              have KM2 := KM1.call hb2
              have km0 := KM2.c0
              have km1 := KM2.c1
              have km2 := KM2.c2
              have kml := KM2.lt
              clear hb2 B1 KA1 O1 KM1 hown KA hB ka0 ka1 ka2 kal
              rcases hkp : kpN h w F tx ty s with _ | _
              · have hown2 : w2.ownsRow (W.heap.size + 1) 53 3 u3 (symP h w F ((2 * a + b) * d + (s + 1))).length (cellsM (symP h w F ((2 * a + b) * d + (s + 1)))) := by rw [← Nat.add_assoc, symP_no HS.out hkp]; exact O2
                clear O2
                go_wp2
                go_roundw
                case rel => exact ⟨s + 1, by go_num, by omega, hown2, KA2, B2⟩
                case measure => first | (simp [intOf]; done) | (simp [intOf]; omega)
              · go_wp2_with (at_builtin; refine wpList_append_own _ rfl _ _ 51 rfl (W.heap.size + 1) 53 i0 (.agg #[.bool false, .bool false, .int .i64 0]) 3 16 Try.underlying51 hinf hz0 hz1 hz2 rfl (by decide) _ _ _ rfl (O2.alloc _) ⟨w2.heap.size, 0, none⟩ 1 1 [.bool tx, .bool ty, .int .i64 ((s : Nat) : Int)] rfl rfl ?c1 ?c2 ?c3 ?c4 ?c5 ?_)
                case c1 => exact new_fmo _ _ _ _ rfl
                case c2 => exact one_fmo
                case c3 => have := HL.out; unfold maxLen; omega
                case c4 => have := HL.out; omega
                case c5 => have := KA2.lt; simp; omega
                intro v' w3 hown' hgrow _
                have B3 : Below W.heap.size W w3 := Below.grown (Below.alloc B2 B2.size _) hgrow (by have := B2.size; simp; omega) (fun q hq => by have := (O2.lt q hq).1; omega)
                have KA3 : K3 W.heap.size (.int .i64 (h : Int)) (.int .i64 (w : Int)) (.slice (some ⟨g, 0, none⟩) n cap) w3 := (KA2.alloc _).grown hgrow (fun e9 => by have := (O2.lt _ e9).1; omega)
                have hown2 : w3.ownsRow (W.heap.size + 1) 53 3 v' (symP h w F ((2 * a + b) * d + s + 1)).length (cellsM (symP h w F ((2 * a + b) * d + s + 1))) := by rw [symP_yes HS.out hkp]; exact own_nextM (by simpa using hown')
                rw [Nat.add_assoc] at hown2
                clear hown' hgrow O2 KA2 B2 km0 km1 km2 kml KM2
                go_wp2
                go_roundw
                case rel => exact ⟨s + 1, by go_num, by omega, hown2, KA3, B3⟩
                case measure => first | (simp [intOf]; done) | (simp [intOf]; omega)
            · obtain rfl : s = d := by omega
              have hown2 : wr.ownsRow (W.heap.size + 1) 53 3 u3 (symP h w F ((2 * a + (b + 1)) * s)).length (cellsM (symP h w F ((2 * a + (b + 1)) * s))) := by rw [← Nat.add_assoc, Nat.succ_mul]; exact hown
              clear hown
              go_wp2
              go_roundw
              case rel => exact ⟨b + 1, by go_num, by omega, hown2, KA, hB⟩
              case measure => first | (simp [intOf]; done) | (simp [intOf]; omega)
        · obtain rfl : b = 2 := by omega
          have hown2 : wr.ownsRow (W.heap.size + 1) 53 3 u3 (symP h w F (2 * (a + 1) * d)).length (cellsM (symP h w F (2 * (a + 1) * d))) := by rw [Nat.mul_add]; exact hown
          clear hown
          go_wp2
          go_roundw
          case rel => exact ⟨a + 1, by go_num, by omega, hown2, KA, hB⟩
          case measure => first | (simp [intOf]; done) | (simp [intOf]; omega)
    · obtain rfl : a = 2 := by omega
      have hown2 : wr.ownsRow W.heap.size 53 3 u3 (symL h w F).length (cellsM (symL h w F)) := by unfold symL; rw [← HD.out]; exact ownsRow_lower hown (by omega)
      clear hown
      go_wp2
      go_ret
      exact ⟨_, rfl, hown2, hB⟩
/- a row of motions, to be read -/
def MRo (v : Value) (l : List FMo) (W : World) : Prop :=
  (l.length = 0 ∧ ∃ ao cap, v = .slice ao 0 cap) ∨ ∃ g cap, v = .slice (some ⟨g, 0, none⟩) l.length cap ∧ g < W.heap.size ∧
    ∀ k (hk : k < l.length), W.cell? ⟨g, k * 3, none⟩ = some (.bool l[k].1) ∧ W.cell? ⟨g, k * 3 + 1, none⟩ = some (.bool l[k].2.1) ∧ W.cell? ⟨g, k * 3 + 2, none⟩ = some (.int .i64 ((l[k].2.2 : Nat) : Int))
theorem MRo.call {v : Value} {l : List FMo} {W w1 : World} (h : MRo v l W) (hb : Below W.heap.size W w1) : MRo v l w1 := by
  rcases h with h | ⟨g, cap, e, hg, hc⟩
  · exact .inl h
  · refine .inr ⟨g, cap, e, Nat.lt_of_lt_of_le hg hb.size, fun k hk => ?_⟩
    obtain ⟨a, b, c⟩ := hc k hk
    exact ⟨by rw [hb.cell (p := ⟨g, k * 3, none⟩) hg]; exact a, by rw [hb.cell (p := ⟨g, k * 3 + 1, none⟩) hg]; exact b, by rw [hb.cell (p := ⟨g, k * 3 + 2, none⟩) hg]; exact c⟩
theorem cellsM_at {l : List FMo} {k : Nat} (hk : k < l.length) : (cellsM l)[k * 3]? = some (.bool l[k].1) ∧ (cellsM l)[k * 3 + 1]? = some (.bool l[k].2.1) ∧ (cellsM l)[k * 3 + 2]? = some (.int .i64 ((l[k].2.2 : Nat) : Int)) := by
  induction l generalizing k with
  | nil => simp at hk
  | cons m l ih =>
    have e : cellsM (m :: l) = [.bool m.1, .bool m.2.1, .int .i64 ((m.2.2 : Nat) : Int)] ++ cellsM l := rfl
    rw [e]
    rcases k with _ | k
    · simp
    · have hk2 : k < l.length := by simpa using hk
      obtain ⟨a, b, c⟩ := ih hk2
      have i0 : (k + 1) * 3 = k * 3 + 3 := by omega
      rw [i0]
      refine ⟨?_, ?_, ?_⟩
      · rw [List.getElem?_append_right (by simp)]; simpa using a
      · rw [List.getElem?_append_right (by simp)]; simpa using b
      · rw [List.getElem?_append_right (by simp)]; simpa using c
theorem MRo.of {base : Nat} {v : Value} {l : List FMo} {W : World} (h : W.ownsRow base 53 3 v l.length (cellsM l)) : MRo v l W := by
  rcases h.2 with ⟨rfl, h2⟩ | ⟨g, cap, cur, rfl, _⟩
  · exact .inl ⟨h2, none, 0, rfl⟩
  · have hl := h.lt g rfl
    refine .inr ⟨g, cap, rfl, hl.2, fun k hk => ?_⟩
    obtain ⟨a, b, c⟩ := cellsM_at hk
    exact ⟨(h.cellAt (k * 3) (by omega)).trans a, (h.cellAt (k * 3 + 1) (by omega)).trans b, (h.cellAt (k * 3 + 2) (by omega)).trans c⟩
end Go.Proofs.Ytajmfeppnhkcdaa
