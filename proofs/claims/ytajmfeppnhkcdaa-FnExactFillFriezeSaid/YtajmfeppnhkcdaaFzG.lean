/-
  The name of a frieze, in the program and in the model. Condition: the slice lies in a block of its own.
-/
import Derived.Test.YtajmfeppnhkcdaaFzS
namespace Go.Proofs.Ytajmfeppnhkcdaa
open Go.RowKit
set_option linter.unusedSimpArgs false
set_option linter.unusedVariables false

theorem take_any {l : List FMo} {k : Nat} (hk : k < l.length) (f : FMo → Bool) : (l.take (k + 1)).any f = ((l.take k).any f || f l[k]) := by
  rw [List.take_add_one, List.any_append, List.getElem?_eq_getElem hk]
  simp
def nmB (h g v r : Bool) : ByteArray :=
  if h && v then ⟨#[112, 50, 109, 109]⟩ else if h then ⟨#[112, 49, 49, 109]⟩ else if v && r then ⟨#[112, 50, 109, 103]⟩ else if v then ⟨#[112, 49, 109, 49]⟩ else if r then ⟨#[112, 50]⟩ else if g then ⟨#[112, 49, 49, 103]⟩ else ⟨#[112, 49]⟩
def nameN (l : List FMo) : ByteArray := nmB (hasH l) (hasG l) (hasV l) (hasR l)
theorem syms_len {h w n : Nat} {F : Nat → Int} (p : FriI h w n F) : (symL h w F).length ≤ 96 := by
  have h1 := symP_len h w F (4 * perN h w F)
  have h2 := (perN_bd F p.w1 (h := h)).2.1
  have := p.w24
  unfold symL
  omega
set_option maxRecDepth 100000 in
set_option maxHeartbeats 16000000 in
theorem name_any {lo hi h w n : Nat} {v : Value} {F : Nat → Int} {W : World} (p : FriI h w n F) (hv : SRow lo hi 1 v n F W) :
    Calls Try.prog 63 #[.agg #[.int .i64 (h : Int), .int .i64 (w : Int), v]] W fun e w' => e = .returned (.string (nameN (symL h w F))) ∧ Below W.heap.size W w' := by
  have R := Lib.hid hv
  have P := Lib.hid p
  have hf := p.b
  have HL := Lib.hid (syms_len p)
  obtain ⟨g, cap, rfl, hg, _, r⟩ := hv.irow p.n1
  clear hv r p
  have B0 : Below W.heap.size W (W.alloc (.cells #[.int .i64 (h : Int), .int .i64 (w : Int), .slice (some ⟨g, 0, none⟩) n cap] 26)) := (Below.refl _ _).alloc (Nat.le_refl _) _
  go_enter Try.func63, Try.ntmps63
  go_wp2_with fail
  with_reducible refine (syms_any P.out (R.out.call B0)).mono ?_
  rintro e w1 hh
  unfold SymOwn at hh
  obtain ⟨u, rfl, ho, hb1⟩ := hh
  have M1 := MRo.of ho
  have B1 := bstep B0 hb1
  have HLL := Lib.hid (And.intro HL.out rfl : (symL h w F).length ≤ 96 ∧ (0 : Nat) = 0)
  obtain ⟨L, hL⟩ : ∃ L, L = symL h w F := ⟨_, rfl⟩
  have hl96 : L.length ≤ 96 := by rw [hL]; exact HL.out
  rw [← hL] at M1
  have HE := Lib.hid hL
  have HM := Lib.hid M1
  obtain ⟨ao, cap9, rfl⟩ : ∃ ao cap, u = .slice ao L.length cap := by
    rcases M1 with ⟨h1, ao, cap, rfl⟩ | ⟨g, cap, rfl, _⟩
    · exact ⟨ao, cap, by rw [h1]⟩
    · exact ⟨_, cap, rfl⟩
  have hl96i : (L.length : Int) ≤ 96 := by omega
  clear ho hb1 B0 hL M1
  go_wp2_with fail
  go_loopw [3, 4, 5, 6, 12] (fun sh sg sv sr si X => ∃ k : Nat, si = .int .i64 (k : Int) ∧ k ≤ L.length ∧ sh = .bool (hasH (L.take k)) ∧ sg = .bool (hasG (L.take k)) ∧ sv = .bool (hasV (L.take k)) ∧ sr = .bool (hasR (L.take k)) ∧ Below w1.heap.size w1 X) (fun _ _ _ _ si _ => L.length - (intOf si).toNat)
  case atStart => exact ⟨0, rfl, by omega, rfl, rfl, rfl, rfl, Below.refl _ _⟩
  case round =>
    obtain ⟨k, rfl, hk, rfl, rfl, rfl, rfl, hB⟩ := hrel
    by_cases hk1 : k < L.length
    · have hk2 : (k : Int) < (L.length : Int) := by omega
      have M := HM.out.call hB
      obtain ⟨g9, cap8, e9, hg9, hc9⟩ := M.resolve_left (fun h9 => by omega)
      simp only [Value.slice.injEq] at e9
      obtain ⟨rfl, _, rfl⟩ := e9
      obtain ⟨c0, c1, c2⟩ := hc9 k hk1
      have th := take_any hk1 (fun m => !m.1 && m.2.1 && m.2.2 == 0)
      have tg := take_any hk1 (fun m => !m.1 && m.2.1 && m.2.2 != 0)
      have tv := take_any hk1 (fun m => m.1 && !m.2.1)
      have tr := take_any hk1 (fun m => m.1 && m.2.1)
      change hasH (L.take (k + 1)) = (hasH (L.take k) || _) at th
      change hasG (L.take (k + 1)) = (hasG (L.take k) || _) at tg
      change hasV (L.take (k + 1)) = (hasV (L.take k) || _) at tv
      change hasR (L.take (k + 1)) = (hasR (L.take k) || _) at tr
      clear hc9 M
      obtain ⟨⟨tx, ty, s⟩, hm⟩ : ∃ m, m = L[k] := ⟨_, rfl⟩
      rw [← hm] at c0 c1 c2 th tg tv tr
      clear hm
      dsimp only at c0 c1 c2 th tg tv tr
      generalize hasH (L.take k) = fh at *
      generalize hasG (L.take k) = fg at *
      generalize hasV (L.take k) = fv at *
      generalize hasR (L.take k) = fr at *
      have HT := Lib.hid (And.intro th (And.intro tg (And.intro tv tr)))
      clear th tg tv tr
      have hs0 : ((s : Int) == 0) = (s == 0) := by rw [Bool.eq_iff_iff]; simp
      have hzb := hB.size
      rcases tx with _ | _ <;> rcases ty with _ | _ <;> (rcases hs9 : (s == 0) with _ | _) <;> rw [hs9] at hs0
      all_goals
        go_wp2
        go_roundw
        case rel => exact ⟨k + 1, by go_num, by omega, by rw [HT.out.1]; simp [hs9], by rw [HT.out.2.1]; simp [hs9, bne], by rw [HT.out.2.2.1]; simp, by rw [HT.out.2.2.2]; simp, by repeat (first | with_reducible assumption | with_reducible exact Below.refl _ _ | with_reducible refine Below.drew ?_ | with_reducible refine below_drewN ?_ _ | with_reducible refine Below.alloc ?_ (by first | omega | (simp <;> omega)) _ | with_reducible refine bstep ?_ (by with_reducible assumption))⟩
        case measure => first | (simp [intOf]; done) | (simp [intOf]; omega)
    · obtain rfl : k = L.length := by omega
      have B9 := bstep B1 hB
      have HN := Lib.hid (show nameN (symL h w F) = nmB (hasH (L.take L.length)) (hasG (L.take L.length)) (hasV (L.take L.length)) (hasR (L.take L.length)) by rw [List.take_length, HE.out]; rfl)
      generalize hasH (L.take L.length) = fh at *
      generalize hasG (L.take L.length) = fg at *
      generalize hasV (L.take L.length) = fv at *
      generalize hasR (L.take L.length) = fr at *
      rcases fh with _ | _ <;> rcases fv with _ | _ <;> rcases fr with _ | _ <;> rcases fg with _ | _
      all_goals
        go_wp2
        go_ret
        exact ⟨ret_str (by rw [HN.out]; rfl), B9⟩
set_option maxRecDepth 100000 in
set_option maxHeartbeats 16000000 in
theorem specName_yes {lo hi h w n : Nat} {v : Value} {F : Nat → Int} {W : World} (p : FriI h w n F) (hv : SRow lo hi 1 v n F W) :
    Calls Try.prog 35 #[.agg #[.int .i64 (h : Int), .int .i64 (w : Int), v]] W fun e w' => e = .returned (.tuple #[.string (nameN (symL h w F)), .int .i64 0]) ∧ Below W.heap.size W w' := by
  have R := Lib.hid hv
  have P := Lib.hid p
  have hf := p.b
  have HL := Lib.hid (syms_len p)
  obtain ⟨g, cap, rfl, hg, _, r⟩ := hv.irow p.n1
  clear hv r p
  have B0 : Below W.heap.size W (W.alloc (.cells #[.int .i64 (h : Int), .int .i64 (w : Int), .slice (some ⟨g, 0, none⟩) n cap] 26)) := (Below.refl _ _).alloc (Nat.le_refl _) _
  go_enter Try.func35, Try.ntmps35
  go_wp2_with fail
  with_reducible refine (specIsFri_any _ _ (R.out.call B0)).mono ?_
  rintro e w0 ⟨rfl, hb0⟩
  rw [hf]
  have KA0 : K3 W.heap.size (.int .i64 (h : Int)) (.int .i64 (w : Int)) (.slice (some ⟨g, 0, none⟩) n cap) w0 := (K3.at _ rfl : K3 W.heap.size (.int .i64 (h : Int)) (.int .i64 (w : Int)) (.slice (some ⟨g, 0, none⟩) n cap) (W.alloc (.cells #[.int .i64 (h : Int), .int .i64 (w : Int), .slice (some ⟨g, 0, none⟩) n cap] 26))).call hb0
  have B0 := bstep B0 hb0
  have ka0 := KA0.c0
  have ka1 := KA0.c1
  have ka2 := KA0.c2
  have kal := KA0.lt
  clear hb0
  go_wp2_with fail
  with_reducible refine (l08Syms_any P.out (R.out.call B0)).mono ?_
  rintro e w1 hh
  unfold SymOwn at hh
  obtain ⟨u, rfl, ho, hb1⟩ := hh
  have M1 := MRo.of ho
  have B1 := bstep B0 hb1
  have HLL := Lib.hid (And.intro HL.out rfl : (symL h w F).length ≤ 96 ∧ (0 : Nat) = 0)
  obtain ⟨L, hL⟩ : ∃ L, L = symL h w F := ⟨_, rfl⟩
  have hl96 : L.length ≤ 96 := by rw [hL]; exact HL.out
  rw [← hL] at M1
  have HE := Lib.hid hL
  have HM := Lib.hid M1
  obtain ⟨ao, cap9, rfl⟩ : ∃ ao cap, u = .slice ao L.length cap := by
    rcases M1 with ⟨h1, ao, cap, rfl⟩ | ⟨g, cap, rfl, _⟩
    · exact ⟨ao, cap, by rw [h1]⟩
    · exact ⟨_, cap, rfl⟩
  have hl96i : (L.length : Int) ≤ 96 := by omega
  clear ho hb1 B0 hL M1 ka0 ka1 ka2 kal KA0
  go_wp2_with fail
  go_loopw [5, 6, 7, 8, 9, 10] (fun sh sg sv sr si sm X => ∃ k : Nat, si = .int .i64 (k : Int) ∧ k ≤ L.length ∧ sh = .bool (hasH (L.take k)) ∧ sg = .bool (hasG (L.take k)) ∧ sv = .bool (hasV (L.take k)) ∧ sr = .bool (hasR (L.take k)) ∧ Below w1.heap.size w1 X) (fun _ _ _ _ si _ _ => L.length - (intOf si).toNat)
  case atStart => exact ⟨0, rfl, by omega, rfl, rfl, rfl, rfl, Below.refl _ _⟩
  case round =>
    obtain ⟨k, rfl, hk, rfl, rfl, rfl, rfl, hB⟩ := hrel
    by_cases hk1 : k < L.length
    · have hk2 : (k : Int) < (L.length : Int) := by omega
      have M := HM.out.call hB
      obtain ⟨g9, cap8, e9, hg9, hc9⟩ := M.resolve_left (fun h9 => by omega)
      simp only [Value.slice.injEq] at e9
      obtain ⟨rfl, _, rfl⟩ := e9
      obtain ⟨c0, c1, c2⟩ := hc9 k hk1
      have th := take_any hk1 (fun m => !m.1 && m.2.1 && m.2.2 == 0)
      have tg := take_any hk1 (fun m => !m.1 && m.2.1 && m.2.2 != 0)
      have tv := take_any hk1 (fun m => m.1 && !m.2.1)
      have tr := take_any hk1 (fun m => m.1 && m.2.1)
      change hasH (L.take (k + 1)) = (hasH (L.take k) || _) at th
      change hasG (L.take (k + 1)) = (hasG (L.take k) || _) at tg
      change hasV (L.take (k + 1)) = (hasV (L.take k) || _) at tv
      change hasR (L.take (k + 1)) = (hasR (L.take k) || _) at tr
      clear hc9 M
      obtain ⟨⟨tx, ty, s⟩, hm⟩ : ∃ m, m = L[k] := ⟨_, rfl⟩
      rw [← hm] at c0 c1 c2 th tg tv tr
      clear hm
      dsimp only at c0 c1 c2 th tg tv tr
      generalize hasH (L.take k) = fh at *
      generalize hasG (L.take k) = fg at *
      generalize hasV (L.take k) = fv at *
      generalize hasR (L.take k) = fr at *
      have HT := Lib.hid (And.intro th (And.intro tg (And.intro tv tr)))
      clear th tg tv tr
      have hs0 : ((s : Int) == 0) = (s == 0) := by rw [Bool.eq_iff_iff]; simp
      have hzb := hB.size
      rcases tx with _ | _ <;> rcases ty with _ | _ <;> (rcases hs9 : (s == 0) with _ | _) <;> rw [hs9] at hs0
      all_goals
        rcases fh with _ | _ <;> rcases fg with _ | _ <;> rcases fv with _ | _ <;> rcases fr with _ | _
      all_goals
        go_wp2
        go_roundw
        case rel => exact ⟨k + 1, by go_num, by omega, by rw [HT.out.1]; first | (simp [hs9]; done) | (simp [hs9]; simpa using hs9), by rw [HT.out.2.1]; first | (simp [hs9, bne]; done) | (simp [hs9, bne]; simpa using hs9), by rw [HT.out.2.2.1]; simp, by rw [HT.out.2.2.2]; simp, by repeat (first | with_reducible assumption | with_reducible exact Below.refl _ _ | with_reducible refine Below.drew ?_ | with_reducible refine below_drewN ?_ _ | with_reducible refine Below.alloc ?_ (by first | omega | (simp <;> omega)) _ | with_reducible refine bstep ?_ (by with_reducible assumption))⟩
        case measure => first | (simp [intOf]; done) | (simp [intOf]; omega)
    · obtain rfl : k = L.length := by omega
      have B9 := bstep B1 hB
      have HN := Lib.hid (show nameN (symL h w F) = nmB (hasH (L.take L.length)) (hasG (L.take L.length)) (hasV (L.take L.length)) (hasR (L.take L.length)) by rw [List.take_length, HE.out]; rfl)
      generalize hasH (L.take L.length) = fh at *
      generalize hasG (L.take L.length) = fg at *
      generalize hasV (L.take L.length) = fv at *
      generalize hasR (L.take L.length) = fr at *
      rcases fh with _ | _ <;> rcases fv with _ | _ <;> rcases fr with _ | _ <;> rcases fg with _ | _
      all_goals
        go_wp2
        go_ret2
        exact ⟨ret_val (by rw [HN.out]; rfl), B9⟩
end Go.Proofs.Ytajmfeppnhkcdaa
