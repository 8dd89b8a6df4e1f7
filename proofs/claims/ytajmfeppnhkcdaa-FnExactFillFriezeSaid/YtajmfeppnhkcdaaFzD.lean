/-
  FillFrieze in the program. Condition: the slice lies in a block of its own.
-/
import Derived.Test.YtajmfeppnhkcdaaFzC
namespace Go.Proofs.Ytajmfeppnhkcdaa
open Go.RowKit
set_option linter.unusedSimpArgs false
set_option linter.unusedVariables false

theorem mkP_maks (s : ByteArray) (w : Nat) : Maks w (mkP s w).1 ∧ (mkP s w).1.length ≤ 2 ∧ ((mkP s w).2 = 0 ∨ (mkP s w).2 = 2 ∨ (mkP s w).2 = 5) := by
  unfold mkP
  repeat' split
  all_goals first
    | exact ⟨.inl rfl, by simp, by simp⟩
    | exact ⟨.inr (.inl ⟨_, rfl, .inl rfl⟩), by simp, by simp⟩
    | exact ⟨.inr (.inl ⟨_, rfl, .inr ⟨rfl, by dsimp only; omega⟩⟩), by simp, by simp⟩
    | exact ⟨.inr (.inr ⟨_, rfl, .inl rfl⟩), by simp, by simp⟩
    | exact ⟨.inr (.inr ⟨_, rfl, .inr (by omega)⟩), by simp, by simp⟩
theorem maks_small {w : Nat} {ms : List FMo} (h : Maks w ms) : ∀ m ∈ ms, m.2.2 ≤ w := by
  intro m hm
  rcases h with rfl | ⟨m', rfl, h⟩ | ⟨s, rfl, h⟩
  · simp at hm
  · obtain rfl : m = m' := by simpa using hm
    rcases h with h | ⟨_, h⟩ <;> omega
  · have : m = (true, false, 0) ∨ m = (false, true, s) := by simpa using hm
    rcases this with rfl | rfl <;> dsimp only <;> omega
def fiG (h w : Nat) (ms : List FMo) (F : Nat → Int) (t : Nat) : Int := F (firN h w ms t)
def fiA (a b : Int) (n : Nat) (F : Nat → Int) (s : ByteArray) : FR :=
  if friB a b n F = true then (if (mkP s b.toNat).2 = 0 then (a, b, n, fiG a.toNat b.toNat (mkP s b.toNat).1 F, 0) else (0, 0, 0, fun _ => 0, (mkP s b.toNat).2)) else (0, 0, 0, fun _ => 0, 1)
theorem fiA_no {a b : Int} {n : Nat} {F : Nat → Int} {s : ByteArray} (h : friB a b n F = false) : fiA a b n F s = (0, 0, 0, fun _ => 0, 1) := by simp [fiA, h]
theorem fiA_bad {h w n : Nat} {F : Nat → Int} {s : ByteArray} (p : FriI h w n F) (hc : ¬ (mkP s w).2 = 0) : fiA h w n F s = (0, 0, 0, fun _ => 0, (mkP s w).2) := by
  unfold fiA; rw [if_pos p.b]; exact if_neg hc
theorem fiA_yes {h w n : Nat} {F : Nat → Int} {s : ByteArray} (p : FriI h w n F) (hc : (mkP s w).2 = 0) : fiA h w n F s = ((h : Int), (w : Int), n, fiG h w (mkP s w).1 F, 0) := by
  unfold fiA; rw [if_pos p.b]; exact if_pos hc
set_option maxHeartbeats 4000000 in
theorem implFi_no {lo hi n : Nat} {v : Value} {F : Nat → Int} {W : World} (a b : Int) (hv : SRow lo hi 1 v n F W) (s : ByteArray) (hf : friB a b n F = false) :
    Calls Try.prog 11 #[.agg #[.int .i64 a, .int .i64 b, v], .string s] W (FAns (fiA a b n F s) W) := by
  have R := Lib.hid hv
  obtain ⟨ao, cap, rfl⟩ := hv.slice
  clear hv
  go_enter Try.func11, Try.ntmps11
  go_wp2_with fail
  with_reducible refine (friValid_any a b (R.out.call (by repeat (first | with_reducible exact Below.refl _ _ | with_reducible assumption | with_reducible refine Below.setCell ?_ (by first | omega | (dsimp only; omega) | (simp <;> omega)) _ | with_reducible refine Below.alloc ?_ (by first | omega | (simp <;> omega)) _ | with_reducible refine bstep ?_ (by with_reducible assumption) | with_reducible refine Below.drew ?_)))).mono ?_
  rintro e w1 ⟨rfl, hb1⟩
  rw [hf]
  have HB := Lib.hid (show Below W.heap.size W w1 from bstep (by repeat (first | with_reducible exact Below.refl _ _ | with_reducible assumption | with_reducible refine Below.setCell ?_ (by first | omega | (dsimp only; omega) | (simp <;> omega)) _ | with_reducible refine Below.alloc ?_ (by first | omega | (simp <;> omega)) _ | with_reducible refine bstep ?_ (by with_reducible assumption) | with_reducible refine Below.drew ?_)) hb1)
  have KC1 : KF (W.heap.size + 1) 0 0 (.slice none 0 0) w1 := (KF.at (w := (W.alloc (.cells #[.int .i64 a, .int .i64 b, .slice ao n cap] 26))) _ (by simp)).call hb1
  have kc0 := KC1.c0
  have kc1 := KC1.c1
  have kc2 := KC1.c2
  have kcf0 := KC1.f0
  have kcf1 := KC1.f1
  have kcf2 := KC1.f2
  have kcl := KC1.lt
  clear hb1 KC1
  go_wp2
  refine bodyPost_ret (v := .tuple #[.agg #[.int .i64 0, .int .i64 0, .slice none 0 0], .int .i64 1]) (by simp [results, Try.results11, go_sem, *]) rfl ⟨0, 0, 0, fun _ => 0, 1, _, fiA_no hf, rfl, ?_, ?_⟩
  · exact SRow.zero _ _ _
  · have hB := HB.out
    repeat (first | with_reducible exact Below.refl _ _ | with_reducible assumption | with_reducible refine Below.setCell ?_ (by first | omega | (dsimp only; omega) | (simp <;> omega)) _ | with_reducible refine Below.alloc ?_ (by first | omega | (simp <;> omega)) _ | with_reducible refine bstep ?_ (by with_reducible assumption) | with_reducible refine Below.drew ?_)
set_option maxRecDepth 100000 in
set_option maxHeartbeats 16000000 in
theorem implFi_yes {lo hi h w n : Nat} {v : Value} {F : Nat → Int} {W : World} (p : FriI h w n F) (hv : SRow lo hi 1 v n F W) (s : ByteArray) :
    Calls Try.prog 11 #[.agg #[.int .i64 (h : Int), .int .i64 (w : Int), v], .string s] W (FAns (fiA h w n F s) W) := by
  obtain ⟨i0, hinf, hz0, hz1, hz2⟩ := info_parts infoI64
  have R := Lib.hid hv
  have P := Lib.hid p
  have hf := p.b
  have w24 := p.w24
  have n144 := p.n144
  have HNN := Lib.hid p.nn
  have hmk := mkP_maks s w
  have HSM := Lib.hid (maks_small hmk.1)
  have HML := Lib.hid hmk.2.1
  have HFB := Lib.hid (fun hc => fiA_bad (s := s) p hc)
  have HFY := Lib.hid (fun hc => fiA_yes (s := s) p hc)
  obtain ⟨g, cap, rfl, hg, _, r⟩ := hv.irow p.n1
  have hgs := hv.1
  have hgw : g < W.heap.size := by omega
  obtain ⟨ms, hms⟩ : ∃ ms, ms = (mkP s w).1 := ⟨_, rfl⟩
  obtain ⟨cd, hcd⟩ : ∃ cd, cd = (mkP s w).2 := ⟨_, rfl⟩
  have hcd3 : cd = 0 ∨ cd = 2 ∨ cd = 5 := by rw [hcd]; exact hmk.2.2
  have HMK := Lib.hid (fun X => (show Calls Try.prog 46 #[.agg #[.int .i64 (h : Int), .int .i64 (w : Int), .slice (some ⟨g, 0, none⟩) n cap], .string s] X (fun e w' => ∃ u : Value, e = .returned (.tuple #[u, .int .i64 cd]) ∧ MRo u ms w' ∧ Below X.heap.size X w') by rw [hcd, hms]; exact makersFor_any s _ _ X (by omega)))
  rw [← hms] at HSM HML HFY
  rw [← hcd] at HFB HFY
  clear hv p hmk hms hcd
  go_enter Try.func11, Try.ntmps11
  go_wp2_with fail
  with_reducible refine (friValid_any _ _ (R.out.call (by repeat (first | with_reducible exact Below.refl _ _ | with_reducible assumption | with_reducible refine Below.setCell ?_ (by first | omega | (dsimp only; omega) | (simp <;> omega)) _ | with_reducible refine Below.alloc ?_ (by first | omega | (simp <;> omega)) _ | with_reducible refine bstep ?_ (by with_reducible assumption) | with_reducible refine Below.drew ?_)))).mono ?_
  rintro e w1 ⟨rfl, hb1⟩
  rw [hf]
  have B1 : Below W.heap.size W w1 := bstep (by repeat (first | with_reducible exact Below.refl _ _ | with_reducible assumption | with_reducible refine Below.setCell ?_ (by first | omega | (dsimp only; omega) | (simp <;> omega)) _ | with_reducible refine Below.alloc ?_ (by first | omega | (simp <;> omega)) _ | with_reducible refine bstep ?_ (by with_reducible assumption) | with_reducible refine Below.drew ?_)) hb1
  have KA1 : K3 W.heap.size (.int .i64 (h : Int)) (.int .i64 (w : Int)) (.slice (some ⟨g, 0, none⟩) n cap) w1 := ((K3.at _ rfl).alloc _ : K3 _ _ _ _ ((W.alloc (.cells #[.int .i64 (h : Int), .int .i64 (w : Int), .slice (some ⟨g, 0, none⟩) n cap] 26)).alloc (.cells #[.int .i64 0, .int .i64 0, .slice none 0 0] 26))).call hb1
  have KC1 : KF (W.heap.size + 1) 0 0 (.slice none 0 0) w1 := (KF.at (w := (W.alloc (.cells #[.int .i64 (h : Int), .int .i64 (w : Int), .slice (some ⟨g, 0, none⟩) n cap] 26))) _ (by simp)).call hb1
  have ka0 := KA1.c0
  have ka1 := KA1.c1
  have ka2 := KA1.c2
  have kal := KA1.lt
  clear hb1
  go_wp2_with fail
  with_reducible refine (HMK.out _).mono ?_
  rintro e w2 ⟨u, rfl, hu, hb2⟩
  have HM := Lib.hid hu
  have KA2 := KA1.call hb2
  have KC2 := KC1.call hb2
  have B2 := bstep B1 hb2
  obtain ⟨aou, capu, rfl⟩ : ∃ ao cap, u = .slice ao ms.length cap := by
    rcases hu with ⟨h1, ao, cap, rfl⟩ | ⟨g, cap, rfl, _⟩
    · exact ⟨ao, cap, by rw [h1]⟩
    · exact ⟨_, cap, rfl⟩
  clear hu hb2 KA1 KC1 B1 ka0 ka1 ka2 kal
  have ka0 := KA2.c0
  have ka1 := KA2.c1
  have ka2 := KA2.c2
  have kal := KA2.lt
  by_cases hcz : cd = 0
  · have HFA := Lib.hid (HFY.out hcz)
    subst hcz
    have n144i : (n : Int) ≤ 144 := by omega
    go_wp2_with (refine wpList_make_full _ rfl _ _ _ rfl w2.heap.size 2 i0 (.int .i64 0) 1 Try.underlying22 hinf hz0 hz1 .i64 .i64 _ _ n rfl rfl rfl rfl (by rw [hz2]; omega) (by unfold maxLen; omega) (Nat.le_refl _) ?_; intro w3 hown1 hgr1; have KA3 := KA2.grown hgr1 (fun e => by cases e); have kb0 := KA3.c0; have kb1 := KA3.c1; have kb2 := KA3.c2; have kbl := KA3.lt)
    have R3 := made_row hown1
    have KC3 := KC2.grown hgr1 (fun e => by cases e)
    have B3 : Below W.heap.size W w3 := Below.grown B2 hgr1 (by have := KC2.lt; omega) (fun r hr => by cases hr)
    have C3 : Below w2.heap.size w2 w3 := Below.grown (Below.refl _ _) hgr1 (Nat.le_refl _) (fun r hr => by cases hr)
    have hw2 := Lib.hid (show W.heap.size + 2 ≤ w2.heap.size by have := KC2.lt; omega)
    clear hown1 hgr1 KA2 KC2 B2 hinf hz0 hz1 hz2 ka0 ka1 ka2 kal kb0 kb1 kb2 kbl
    go_wp2_with fail
    go_loopw [30] (fun s30 X => ∃ k : Nat, s30 = .int .i64 (k : Int) ∧ k ≤ n ∧ IRow w2.heap.size (n * 1) (fun t => if t < k then fiG h w ms F t else 0) X ∧ K3 W.heap.size (.int .i64 (h : Int)) (.int .i64 (w : Int)) (.slice (some ⟨g, 0, none⟩) n cap) X ∧ KF (W.heap.size + 1) 0 0 (.slice none 0 0) X ∧ Below W.heap.size W X ∧ Below w2.heap.size w2 X) (fun s30 _ => n - (intOf s30).toNat)
    case atStart => exact ⟨0, rfl, by omega, R3.ext (fun t _ => by simp), KA3, KC3, B3, C3⟩
    case round =>
      clear R3 KA3 KC3 B3 C3
      obtain ⟨k, rfl, hk, R1, KA, KC, hB, hC⟩ := hrel
      by_cases hk1 : k < n
      · have hk2 : (k : Int) < (n : Int) := by omega
        have I0 := r.call hB
        have hfl : firN h w ms k < n := by have h9 := HNN.out; rw [h9]; exact firN_lt (by omega)
        obtain ⟨y, hy⟩ : ∃ y, y = firN h w ms k := ⟨_, rfl⟩
        have HY := Lib.hid hy
        rw [← hy] at hfl
        have hyi : (y : Int) < (n : Int) := by omega
        have hyi0 : (0 : Int) ≤ (y : Int) := by omega
        have hIn : y < n * 1 := by omega
        have HFC := Lib.hid (fun X (hb : Below wr.heap.size wr X) => (show Calls Try.prog 47 #[.agg #[.int .i64 (h : Int), .int .i64 (w : Int), .slice (some ⟨g, 0, none⟩) n cap], .slice aou ms.length capu, .int .i64 (k : Int)] X (fun e w' => e = .returned (.int .i64 (y : Int)) ∧ Below X.heap.size X w') by rw [hy]; exact firstCell_any P.out (R.out.call (bstep hB hb)) (HM.out.call (bstep hC hb)) HML.out (fun m hm => by have := HSM.out m hm; omega) hk1))
        clear hy
        have c1 := I0.at y (by omega)
        obtain ⟨b, hb⟩ : ∃ b, b = F y := ⟨_, rfl⟩
        have HAB := Lib.hid hb
        rw [← hb] at c1
        clear hb
        have hgl := I0.1
        have rl := R1.1
        have hlt := KA.lt
        have ka0 := KA.c0
        have ka1 := KA.c1
        have ka2 := KA.c2
        have hw2' := hw2.out
        go_wp2_with fail
        go_region_held3 (fun W9 => (W9.cell? ⟨W.heap.size, 0, none⟩ = some (.int .i64 (h : Int)) ∧ W9.cell? ⟨W.heap.size, 1, none⟩ = some (.int .i64 (w : Int)) ∧ W9.cell? ⟨W.heap.size, 2, none⟩ = some (.slice (some ⟨g, 0, none⟩) n cap)) ∧ W9.cell? ⟨g, y, none⟩ = some (.int .i64 b)) ((refine And.intro (K3.cells ?_) ((IRow.at (N := n * 1) ?_ _ hIn).trans (by rw [HAB.out]))) <;> (repeat (first | with_reducible assumption | with_reducible refine K3.drew ?_ | with_reducible refine IRow.drew ?_ | with_reducible refine K3.alloc ?_ _ | with_reducible refine K3.call ?_ (by with_reducible assumption) | with_reducible refine IRow.call ?_ (by with_reducible assumption) | ((with_reducible refine K3.far ?_ ?_); (first | omega | (dsimp only; omega))) | ((with_reducible refine IRow.far ?_ ?_); (first | omega | (dsimp only; omega))))))
          ((go_at_call 47; with_reducible refine (HFC.out _ (by repeat (first | with_reducible assumption | with_reducible exact Below.refl _ _ | with_reducible refine Below.drew ?_ | with_reducible refine below_drewN ?_ _ | with_reducible refine Below.alloc ?_ (by first | omega | (simp <;> omega)) _ | with_reducible refine bstep ?_ (by with_reducible assumption)))).mono ?_; rintro e w4 ⟨rfl, hb4⟩; have c4 : Below wr.heap.size wr w4 := bstep (by repeat (first | with_reducible assumption | with_reducible exact Below.refl _ _ | with_reducible refine Below.drew ?_ | with_reducible refine below_drewN ?_ _ | with_reducible refine Below.alloc ?_ (by first | omega | (simp <;> omega)) _ | with_reducible refine bstep ?_ (by with_reducible assumption))) hb4; have R4 := R1.call c4; have r4c := R4.at k (by omega); have r4f := R4.free k (by omega); have r4l := R4.size; have KA4 := KA.call c4; have KC4 := KC.call c4; have I4 := I0.call c4; have i4l := I4.size; have B4 := bstep hB c4; have C4 := bstep hC c4))
        all_goals
          go_wp2
          go_roundw
          case rel =>
            refine ⟨k + 1, by go_num, by omega, (R4.put k (by omega) b).ext ?_, K3.far (by dsimp only; omega) KA4, KF.far (by dsimp only; omega) KC4, B4.setCell (by dsimp only; omega) _, C4.setCell (by dsimp only; omega) _⟩
            intro t _
            by_cases e0 : t = k
            · subst e0
              rw [if_pos rfl, if_pos (by omega), HAB.out, HY.out]; rfl
            · rw [if_neg e0]
              by_cases el : t < k
              · rw [if_pos el, if_pos (by omega)]
              · rw [if_neg el, if_neg (by omega)]
          case measure => first | (simp [intOf]; done) | (simp [intOf]; omega)
      · obtain rfl : k = n := by omega
        have ka0 := KA.c0
        have ka1 := KA.c1
        have ka2 := KA.c2
        have kal := KA.lt
        have kc0 := KC.c0
        have kc1 := KC.c1
        have kc2 := KC.c2
        have kcf0 := KC.f0
        have kcf1 := KC.f1
        have kcf2 := KC.f2
        have kcl := KC.lt
        have rl := R1.1
        have hw2' := hw2.out
        have HR := Lib.hid R1
        have HB := Lib.hid hB
        clear R1 hB hC
        go_wp2
        refine bodyPost_ret (v := .tuple #[.agg #[.int .i64 (h : Int), .int .i64 (w : Int), .slice (some ⟨w2.heap.size, 0, none⟩) k k], .int .i64 0]) (by simp [results, Try.results11, go_sem, *]) rfl ⟨_, _, _, _, _, _, HFA.out, rfl, ?_, ?_⟩
        · suffices h9 : IRow w2.heap.size (k * 1) (fiG h w ms F) _ from ⟨Nat.le_refl _, by omega, .inr ⟨_, _, rfl, by omega, h9.1, h9⟩⟩
          refine IRow.ext ?_ (fun t ht => show (if t < k then fiG h w ms F t else 0) = fiG h w ms F t from if_pos (by omega))
          repeat (first | with_reducible exact HR.out | (with_reducible refine IRow.far (by dsimp only; omega) ?_))
        · have hB := HB.out
          repeat (first | with_reducible exact Below.refl _ _ | with_reducible assumption | with_reducible refine Below.setCell ?_ (by first | omega | (dsimp only; omega) | (simp <;> omega)) _ | with_reducible refine Below.alloc ?_ (by first | omega | (simp <;> omega)) _ | with_reducible refine bstep ?_ (by with_reducible assumption) | with_reducible refine Below.drew ?_)
  · have HFA := Lib.hid (HFB.out hcz)
    have hcn : (cd != 0) = true := by simp [hcz]
    have kc0 := KC2.c0
    have kc1 := KC2.c1
    have kc2 := KC2.c2
    have kcf0 := KC2.f0
    have kcf1 := KC2.f1
    have kcf2 := KC2.f2
    have kcl := KC2.lt
    have HB := Lib.hid B2
    clear B2
    go_wp2
    refine bodyPost_ret (v := .tuple #[.agg #[.int .i64 0, .int .i64 0, .slice none 0 0], .int .i64 cd]) (by simp [results, Try.results11, go_sem, *]) rfl ⟨_, _, _, _, _, _, HFA.out, rfl, ?_, ?_⟩
    · exact SRow.zero _ _ _
    · have hB := HB.out
      repeat (first | with_reducible exact Below.refl _ _ | with_reducible assumption | with_reducible refine Below.setCell ?_ (by first | omega | (dsimp only; omega) | (simp <;> omega)) _ | with_reducible refine Below.alloc ?_ (by first | omega | (simp <;> omega)) _ | with_reducible refine bstep ?_ (by with_reducible assumption) | with_reducible refine Below.drew ?_)
end Go.Proofs.Ytajmfeppnhkcdaa
