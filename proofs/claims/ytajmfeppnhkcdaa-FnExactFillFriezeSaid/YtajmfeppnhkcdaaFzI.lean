/-
  FillFrieze in the model. Condition: the slice lies in a block of its own.
-/
import Derived.Test.YtajmfeppnhkcdaaFzE
import Derived.Test.YtajmfeppnhkcdaaFzY
namespace Go.Proofs.Ytajmfeppnhkcdaa
open Go.RowKit
set_option linter.unusedSimpArgs false
set_option linter.unusedVariables false

def oddB (s : ByteArray) (w : Nat) : Bool := (decide (s = (⟨#[112, 49, 49, 103]⟩ : ByteArray)) || decide (s = (⟨#[112, 50, 109, 103]⟩ : ByteArray))) && decide (w % 2 = 1)
theorem mk_cases (s : ByteArray) (w : Nat) : ((mkM s w).2 = false ∧ (mkP s w).2 = 2) ∨ ((mkM s w).2 = true ∧ oddB s w = true ∧ (mkP s w).2 = 5) ∨
    ((mkM s w).2 = true ∧ oddB s w = false ∧ (mkP s w).2 = 0 ∧ (∀ m, m ∈ (mkM s w).1 ↔ m ∈ (mkP s w).1) ∧ (mkM s w).1.length ≤ 2) := by
  unfold mkM mkP oddB
  by_cases n_p1 : s = (⟨#[112, 49]⟩ : ByteArray)
  · rw [if_pos n_p1, if_pos n_p1, n_p1]
    exact .inr (.inr ⟨rfl, by rw [show decide (((⟨#[112, 49]⟩ : ByteArray) : ByteArray) = (⟨#[112, 49, 49, 103]⟩ : ByteArray)) = false from by decide, show decide (((⟨#[112, 49]⟩ : ByteArray) : ByteArray) = (⟨#[112, 50, 109, 103]⟩ : ByteArray)) = false from by decide]; rfl, rfl, fun m => Iff.rfl, by simp⟩)
  rw [if_neg n_p1, if_neg n_p1]
  by_cases n_p11m : s = (⟨#[112, 49, 49, 109]⟩ : ByteArray)
  · rw [if_pos n_p11m, if_pos n_p11m, n_p11m]
    exact .inr (.inr ⟨rfl, by rw [show decide (((⟨#[112, 49, 49, 109]⟩ : ByteArray) : ByteArray) = (⟨#[112, 49, 49, 103]⟩ : ByteArray)) = false from by decide, show decide (((⟨#[112, 49, 49, 109]⟩ : ByteArray) : ByteArray) = (⟨#[112, 50, 109, 103]⟩ : ByteArray)) = false from by decide]; rfl, rfl, fun m => Iff.rfl, by simp⟩)
  rw [if_neg n_p11m, if_neg n_p11m]
  by_cases n_p1m1 : s = (⟨#[112, 49, 109, 49]⟩ : ByteArray)
  · rw [if_pos n_p1m1, if_pos n_p1m1, n_p1m1]
    exact .inr (.inr ⟨rfl, by rw [show decide (((⟨#[112, 49, 109, 49]⟩ : ByteArray) : ByteArray) = (⟨#[112, 49, 49, 103]⟩ : ByteArray)) = false from by decide, show decide (((⟨#[112, 49, 109, 49]⟩ : ByteArray) : ByteArray) = (⟨#[112, 50, 109, 103]⟩ : ByteArray)) = false from by decide]; rfl, rfl, fun m => Iff.rfl, by simp⟩)
  rw [if_neg n_p1m1, if_neg n_p1m1]
  by_cases n_p2 : s = (⟨#[112, 50]⟩ : ByteArray)
  · rw [if_pos n_p2, if_pos n_p2, n_p2]
    exact .inr (.inr ⟨rfl, by rw [show decide (((⟨#[112, 50]⟩ : ByteArray) : ByteArray) = (⟨#[112, 49, 49, 103]⟩ : ByteArray)) = false from by decide, show decide (((⟨#[112, 50]⟩ : ByteArray) : ByteArray) = (⟨#[112, 50, 109, 103]⟩ : ByteArray)) = false from by decide]; rfl, rfl, fun m => Iff.rfl, by simp⟩)
  rw [if_neg n_p2, if_neg n_p2]
  by_cases n_p2mm : s = (⟨#[112, 50, 109, 109]⟩ : ByteArray)
  · rw [if_pos n_p2mm, if_pos n_p2mm, n_p2mm]
    exact .inr (.inr ⟨rfl, by rw [show decide (((⟨#[112, 50, 109, 109]⟩ : ByteArray) : ByteArray) = (⟨#[112, 49, 49, 103]⟩ : ByteArray)) = false from by decide, show decide (((⟨#[112, 50, 109, 109]⟩ : ByteArray) : ByteArray) = (⟨#[112, 50, 109, 103]⟩ : ByteArray)) = false from by decide]; rfl, rfl, fun m => by simp [or_comm], by simp⟩)
  rw [if_neg n_p2mm, if_neg n_p2mm]
  by_cases n_p11g : s = (⟨#[112, 49, 49, 103]⟩ : ByteArray)
  · rw [if_pos n_p11g, if_pos n_p11g, n_p11g]
    rw [show (decide (((⟨#[112, 49, 49, 103]⟩ : ByteArray) : ByteArray) = (⟨#[112, 49, 49, 103]⟩ : ByteArray)) || decide (((⟨#[112, 49, 49, 103]⟩ : ByteArray) : ByteArray) = (⟨#[112, 50, 109, 103]⟩ : ByteArray))) = true from by decide, Bool.true_and]
    by_cases e : w % 2 = 0
    · rw [if_pos e]
      exact .inr (.inr ⟨rfl, decide_eq_false (by omega), rfl, fun m => Iff.rfl, by simp⟩)
    · rw [if_neg e]
      exact .inr (.inl ⟨rfl, decide_eq_true (by omega), rfl⟩)
  rw [if_neg n_p11g, if_neg n_p11g]
  by_cases n_p2mg : s = (⟨#[112, 50, 109, 103]⟩ : ByteArray)
  · rw [if_pos n_p2mg, if_pos n_p2mg, n_p2mg]
    rw [show (decide (((⟨#[112, 50, 109, 103]⟩ : ByteArray) : ByteArray) = (⟨#[112, 49, 49, 103]⟩ : ByteArray)) || decide (((⟨#[112, 50, 109, 103]⟩ : ByteArray) : ByteArray) = (⟨#[112, 50, 109, 103]⟩ : ByteArray))) = true from by decide, Bool.true_and]
    by_cases e : w % 2 = 0
    · rw [if_pos e]
      exact .inr (.inr ⟨rfl, decide_eq_false (by omega), rfl, fun m => Iff.rfl, by simp⟩)
    · rw [if_neg e]
      exact .inr (.inl ⟨rfl, decide_eq_true (by omega), rfl⟩)
  rw [if_neg n_p2mg, if_neg n_p2mg]
  exact .inl ⟨rfl, rfl⟩
theorem teq {s : ByteArray} {a : Array UInt8} (h : s = ⟨a⟩) : (s.toList == a.toList) = true := by
  subst h; rw [ByteArray.toList_eq]; simp
theorem tof (s : ByteArray) (a : Array UInt8) : (s.toList == a.toList) = decide (s = ⟨a⟩) := by
  by_cases h : s = ⟨a⟩
  · rw [teq h, decide_eq_true h]
  · rw [tneq h, decide_eq_false h]
structure K3at (g o : Nat) (u0 u1 u2 : Value) (W : World) : Prop where
  lt : g < W.heap.size
  c0 : W.cell? ⟨g, o, none⟩ = some u0
  c1 : W.cell? ⟨g, o + 1, none⟩ = some u1
  c2 : W.cell? ⟨g, o + 2, none⟩ = some u2
theorem K3at.call {g o : Nat} {u0 u1 u2 : Value} {W w1 : World} (h : K3at g o u0 u1 u2 W) (hb : Below W.heap.size W w1) : K3at g o u0 u1 u2 w1 :=
  ⟨Nat.lt_of_lt_of_le h.lt hb.size, by rw [hb.cell (p := ⟨g, o, none⟩) h.lt]; exact h.c0, by rw [hb.cell (p := ⟨g, o + 1, none⟩) h.lt]; exact h.c1, by rw [hb.cell (p := ⟨g, o + 2, none⟩) h.lt]; exact h.c2⟩
theorem K3at.cells {g o : Nat} {u0 u1 u2 : Value} {W : World} (h : K3at g o u0 u1 u2 W) : W.cell? ⟨g, o, none⟩ = some u0 ∧ W.cell? ⟨g, o + 1, none⟩ = some u1 ∧ W.cell? ⟨g, o + 2, none⟩ = some u2 := ⟨h.c0, h.c1, h.c2⟩
def isT8 : Value → Bool | .bool b => b | _ => false
set_option maxHeartbeats 4000000 in
theorem specFi_no {lo hi n : Nat} {v : Value} {F : Nat → Int} {W : World} (a b : Int) (hv : SRow lo hi 1 v n F W) (s : ByteArray) (hf : friB a b n F = false) :
    Calls Try.prog 9 #[.agg #[.int .i64 a, .int .i64 b, v], .string s] W (FAns (fiA a b n F s) W) := by
  have R := Lib.hid hv
  obtain ⟨ao, cap, rfl⟩ := hv.slice
  clear hv
  go_enter Try.func9, Try.ntmps9
  go_wp2_with fail
  with_reducible refine (l08Motions_gen s b _).mono ?_
  rintro e w0 ⟨⟨u, c, rfl⟩, hb0⟩
  have HC1 := (KF.at (w := (W.alloc (.cells #[.int .i64 a, .int .i64 b, .slice ao n cap] 26))) _ (by simp) : KF (W.heap.size + 1) 0 0 (.slice none 0 0) _).call hb0
  have HA1 := ((KF.at _ rfl).alloc _ : KF W.heap.size a b (.slice ao n cap) ((W.alloc (.cells #[.int .i64 a, .int .i64 b, .slice ao n cap] 26)).alloc (.cells #[.int .i64 0, .int .i64 0, .slice none 0 0] 26))).call hb0
  have B0 : Below W.heap.size W w0 := bstep (by repeat (first | with_reducible exact Below.refl _ _ | with_reducible assumption | with_reducible refine Below.setCell ?_ (by first | omega | (dsimp only; omega) | (simp <;> omega)) _ | with_reducible refine Below.alloc ?_ (by first | omega | (simp <;> omega)) _ | with_reducible refine bstep ?_ (by with_reducible assumption) | with_reducible refine Below.drew ?_)) hb0
  have ha0 := HA1.c0
  have ha1 := HA1.c1
  have ha2 := HA1.c2
  have hal := HA1.lt
  clear hb0
  go_wp2_with fail
  with_reducible refine (specIsFri_any a b (R.out.call (by repeat (first | with_reducible exact Below.refl _ _ | with_reducible assumption | with_reducible refine Below.setCell ?_ (by first | omega | (dsimp only; omega) | (simp <;> omega)) _ | with_reducible refine Below.alloc ?_ (by first | omega | (simp <;> omega)) _ | with_reducible refine bstep ?_ (by with_reducible assumption) | with_reducible refine Below.drew ?_)))).mono ?_
  rintro e w1 ⟨rfl, hb1⟩
  rw [hf]
  have HB := Lib.hid (show Below W.heap.size W w1 from bstep B0 hb1)
  have KC1 : KF (W.heap.size + 1) 0 0 (.slice none 0 0) w1 := HC1.call hb1
  have kc0 := KC1.c0
  have kc1 := KC1.c1
  have kc2 := KC1.c2
  have kcf0 := KC1.f0
  have kcf1 := KC1.f1
  have kcf2 := KC1.f2
  have kcl := KC1.lt
  clear hb1 KC1 B0 HC1 HA1 ha0 ha1 ha2 hal
  go_wp2
  refine bodyPost_ret (v := .tuple #[.agg #[.int .i64 0, .int .i64 0, .slice none 0 0], .int .i64 1]) (by simp [results, Try.results9, go_sem, *]) rfl ⟨0, 0, 0, fun _ => 0, 1, _, fiA_no hf, rfl, ?_, ?_⟩
  · exact SRow.zero _ _ _
  · have hB := HB.out
    repeat (first | with_reducible exact Below.refl _ _ | with_reducible assumption | with_reducible refine Below.setCell ?_ (by first | omega | (dsimp only; omega) | (simp <;> omega)) _ | with_reducible refine Below.alloc ?_ (by first | omega | (simp <;> omega)) _ | with_reducible refine bstep ?_ (by with_reducible assumption) | with_reducible refine Below.drew ?_)
set_option maxRecDepth 100000 in
set_option maxHeartbeats 16000000 in
theorem specFi_yes {lo hi h w n : Nat} {v : Value} {F : Nat → Int} {W : World} (p : FriI h w n F) (hv : SRow lo hi 1 v n F W) (s : ByteArray) :
    Calls Try.prog 9 #[.agg #[.int .i64 (h : Int), .int .i64 (w : Int), v], .string s] W (FAns (fiA h w n F s) W) := by
  obtain ⟨i0, hinf, hz0, hz1, hz2⟩ := info_parts infoI64
  have R := Lib.hid hv
  have P := Lib.hid p
  have hf := p.b
  have h6 := p.h6
  have w24 := p.w24
  have w1' := p.w1
  have n144 := p.n144
  have HN1 := Lib.hid p.n1
  have HNN := Lib.hid p.nn
  have hmk := mk_cases s w
  have HMA := Lib.hid (mkP_maks s w).1
  have HFB := Lib.hid (fun hc => fiA_bad (s := s) p hc)
  have HFY := Lib.hid (fun hc => fiA_yes (s := s) p hc)
  obtain ⟨g, cap, rfl, hg, _, r⟩ := hv.irow p.n1
  have hgs := hv.1
  have hgw : g < W.heap.size := by omega
  obtain ⟨lm, hlm⟩ : ∃ lm, lm = (mkM s w).1 := ⟨_, rfl⟩
  obtain ⟨okb, hok⟩ : ∃ okb, okb = (mkM s w).2 := ⟨_, rfl⟩
  obtain ⟨ms, hms⟩ : ∃ ms, ms = (mkP s w).1 := ⟨_, rfl⟩
  obtain ⟨cd, hcd⟩ : ∃ cd, cd = (mkP s w).2 := ⟨_, rfl⟩
  obtain ⟨c1, hc1⟩ : ∃ c1, c1 = decide (s = (⟨#[112, 49, 49, 103]⟩ : ByteArray)) := ⟨_, rfl⟩
  obtain ⟨c2, hc2⟩ : ∃ c2, c2 = decide (s = (⟨#[112, 50, 109, 103]⟩ : ByteArray)) := ⟨_, rfl⟩
  obtain ⟨od, hod⟩ : ∃ od, od = oddB s w := ⟨_, rfl⟩
  have q1 : (s.toList == [112, 49, 49, 103]) = c1 := by rw [hc1]; exact tof s #[112, 49, 49, 103]
  have q2 : (s.toList == [112, 50, 109, 103]) = c2 := by rw [hc2]; exact tof s #[112, 50, 109, 103]
  obtain ⟨r2, hr2⟩ : ∃ r2, r2 = w % 2 := ⟨_, rfl⟩
  have h20 : ¬ (2 : Int) = 0 := by omega
  have hm1 : (w : Int) % 2 = (r2 : Int) := by rw [hr2]; omega
  have hm2 : (w : Int).tmod 2 = (r2 : Int) := by rw [Int.tmod_eq_emod_of_nonneg (by omega)]; exact hm1
  have HOD := Lib.hid (show od = ((c1 || c2) && decide (r2 = 1)) by rw [hod, hc1, hc2, hr2]; rfl)
  have hr22 : r2 < 2 := by omega
  have HMK := Lib.hid (fun X => (show Calls Try.prog 41 #[.string s, .int .i64 (w : Int)] X (fun e w' => ∃ u : Value, e = .returned (.tuple #[u, .bool okb]) ∧ MRo u lm w' ∧ Below X.heap.size X w') by rw [hok, hlm]; exact l08Motions_any s X (by omega)))
  rw [← hok, ← hod, ← hcd, ← hlm, ← hms] at hmk
  rw [← hcd] at HFB
  rw [← hcd, ← hms] at HFY
  rw [← hms] at HMA
  clear hv p hok hms hcd hlm hod hc1 hc2 hr2
  go_enter Try.func9, Try.ntmps9
  go_wp2_with fail
  with_reducible refine (HMK.out _).mono ?_
  rintro e w0 ⟨u, rfl, hu, hb0⟩
  have HM := Lib.hid hu
  have KA0 : K3 W.heap.size (.int .i64 (h : Int)) (.int .i64 (w : Int)) (.slice (some ⟨g, 0, none⟩) n cap) w0 := ((K3.at _ rfl).alloc _ : K3 _ _ _ _ ((W.alloc (.cells #[.int .i64 (h : Int), .int .i64 (w : Int), .slice (some ⟨g, 0, none⟩) n cap] 26)).alloc (.cells #[.int .i64 0, .int .i64 0, .slice none 0 0] 26))).call hb0
  have KC0 : KF (W.heap.size + 1) 0 0 (.slice none 0 0) w0 := (KF.at (w := (W.alloc (.cells #[.int .i64 (h : Int), .int .i64 (w : Int), .slice (some ⟨g, 0, none⟩) n cap] 26))) _ (by simp)).call hb0
  have B0 : Below W.heap.size W w0 := bstep (by repeat (first | with_reducible exact Below.refl _ _ | with_reducible assumption | with_reducible refine Below.setCell ?_ (by first | omega | (dsimp only; omega) | (simp <;> omega)) _ | with_reducible refine Below.alloc ?_ (by first | omega | (simp <;> omega)) _ | with_reducible refine bstep ?_ (by with_reducible assumption) | with_reducible refine Below.drew ?_)) hb0
  obtain ⟨aou, capu, rfl⟩ : ∃ ao cap, u = .slice ao lm.length cap := by
    rcases hu with ⟨h1, ao, cap, rfl⟩ | ⟨g, cap, rfl, _⟩
    · exact ⟨ao, cap, by rw [h1]⟩
    · exact ⟨_, cap, rfl⟩
  clear hu hb0
  have ha0 := KA0.c0
  have ha1 := KA0.c1
  have ha2 := KA0.c2
  have hal := KA0.lt
  go_wp2_with fail
  with_reducible refine (specIsFri_any _ _ (R.out.call (by repeat (first | with_reducible exact Below.refl _ _ | with_reducible assumption | with_reducible refine Below.setCell ?_ (by first | omega | (dsimp only; omega) | (simp <;> omega)) _ | with_reducible refine Below.alloc ?_ (by first | omega | (simp <;> omega)) _ | with_reducible refine bstep ?_ (by with_reducible assumption) | with_reducible refine Below.drew ?_)))).mono ?_
  rintro e w1 ⟨rfl, hb1⟩
  rw [hf]
  have KA1 := KA0.call hb1
  have KC1 := KC0.call hb1
  have B1 := bstep B0 hb1
  have HM1 := Lib.hid (HM.out.call hb1)
  clear hb1 KA0 KC0 B0 ha0 ha1 ha2 hal HM
  have ka0 := KA1.c0
  have ka1 := KA1.c1
  have ka2 := KA1.c2
  have kal := KA1.lt
  rcases hmk with ⟨rfl, hcc⟩ | ⟨rfl, hodd, hcc⟩ | ⟨rfl, hodd, hcc, hmem, hlen⟩
  · have HFA := Lib.hid (HFB.out (by rw [hcc]; omega))
    rw [hcc] at HFA
    have kc0 := KC1.c0
    have kc1 := KC1.c1
    have kc2 := KC1.c2
    have kcf0 := KC1.f0
    have kcf1 := KC1.f1
    have kcf2 := KC1.f2
    have kcl := KC1.lt
    have HB := Lib.hid B1
    clear B1
    go_wp2
    refine bodyPost_ret (v := .tuple #[.agg #[.int .i64 0, .int .i64 0, .slice none 0 0], .int .i64 2]) (by simp [results, Try.results9, go_sem, *]) rfl ⟨_, _, _, _, _, _, HFA.out, rfl, ?_, ?_⟩
    · exact SRow.zero _ _ _
    · have hB := HB.out
      repeat (first | with_reducible exact Below.refl _ _ | with_reducible assumption | with_reducible refine Below.setCell ?_ (by first | omega | (dsimp only; omega) | (simp <;> omega)) _ | with_reducible refine Below.alloc ?_ (by first | omega | (simp <;> omega)) _ | with_reducible refine bstep ?_ (by with_reducible assumption) | with_reducible refine Below.drew ?_)
  · have HFA := Lib.hid (HFB.out (by rw [hcc]; omega))
    rw [hcc] at HFA
    have hoo := HOD.out
    rw [hodd] at hoo
    have hcs : (c1 || c2) = true ∧ r2 = 1 := by simpa using hoo.symm
    obtain ⟨hcs, rfl⟩ := hcs
    have kc0 := KC1.c0
    have kc1 := KC1.c1
    have kc2 := KC1.c2
    have kcf0 := KC1.f0
    have kcf1 := KC1.f1
    have kcf2 := KC1.f2
    have kcl := KC1.lt
    have HB := Lib.hid B1
    clear B1 hoo hodd
    have hcs2 : c1 = true ∨ (c1 = false ∧ c2 = true) := by rcases c1 with _ | _ <;> rcases c2 with _ | _ <;> simp at hcs ⊢
    rcases hcs2 with rfl | ⟨rfl, rfl⟩
    all_goals
      go_wp2
      refine bodyPost_ret (v := .tuple #[.agg #[.int .i64 0, .int .i64 0, .slice none 0 0], .int .i64 5]) (by simp [results, Try.results9, go_sem, *]) rfl ⟨_, _, _, _, _, _, HFA.out, rfl, ?_, ?_⟩
      · exact SRow.zero _ _ _
      · have hB := HB.out
        repeat (first | with_reducible exact Below.refl _ _ | with_reducible assumption | with_reducible refine Below.setCell ?_ (by first | omega | (dsimp only; omega) | (simp <;> omega)) _ | with_reducible refine Below.alloc ?_ (by first | omega | (simp <;> omega)) _ | with_reducible refine bstep ?_ (by with_reducible assumption) | with_reducible refine Below.drew ?_)
  · have HFA := Lib.hid (HFY.out hcc)
    have HMEM := Lib.hid hmem
    have HODD := Lib.hid hodd
    clear hmem hodd
    go_upto_region 6 with fail
    go_cut [35] (fun s35 wx => s35 = .bool false ∧ K3 W.heap.size (.int .i64 (h : Int)) (.int .i64 (w : Int)) (.slice (some ⟨g, 0, none⟩) n cap) wx ∧ KF (W.heap.size + 1) 0 0 (.slice none 0 0) wx ∧ MRo (.slice aou lm.length capu) lm wx ∧ Below W.heap.size W wx)
    case first =>
      have hoo := HOD.out
      rw [HODD.out] at hoo
      have hcs2 : (c1 = true ∧ r2 = 0) ∨ (c1 = false ∧ c2 = true ∧ r2 = 0) ∨ (c1 = false ∧ c2 = false) := by rcases c1 with _ | _ <;> rcases c2 with _ | _ <;> simp at hoo ⊢ <;> omega
      clear hoo
      rcases hcs2 with ⟨rfl, rfl⟩ | ⟨rfl, rfl, rfl⟩ | ⟨rfl, rfl⟩
      all_goals
        go_wp2_with fail
        go_meet
        exact ⟨rfl, KA1, KC1, HM1.out, B1⟩
    case rest =>
      clear KA1 KC1 B1 ka0 ka1 ka2 kal HM1 q1 q2 hm1 hm2 HOD HODD h20 hr22
      obtain ⟨rfl, KA, KC, hMR, hB⟩ := hcut
      obtain ⟨w8, hw8⟩ : ∃ z, z = wc := ⟨_, rfl⟩
      subst hw8
      have HM := Lib.hid (show MRo (.slice aou lm.length capu) lm w8 from hMR)
      have hw8l : W.heap.size + 2 ≤ w8.heap.size := KC.lt
      clear hMR
      have ka0 := KA.c0
      have ka1 := KA.c1
      have ka2 := KA.c2
      have kal := KA.lt
      go_wp2_with fail
      go_loopw [8, 9] (fun v8 s9 X => ∃ (k : Nat), s9 = .int .i64 (k : Int) ∧ k ≤ n ∧ X.ownsRow w8.heap.size 2 1 v8 k (cellsI (fun t => (t : Int)) k) ∧ K3 W.heap.size (.int .i64 (h : Int)) (.int .i64 (w : Int)) (.slice (some ⟨g, 0, none⟩) n cap) X ∧ KF (W.heap.size + 1) 0 0 (.slice none 0 0) X ∧ Below W.heap.size W X ∧ Below w8.heap.size w8 X) (fun _ s9 _ => n - (intOf s9).toNat)
      case atStart =>
        exact ⟨0, rfl, by omega, (RowE.at _ rfl (Nat.le_refl _)).1, KA.alloc _, KC.alloc _, hB.alloc (by omega) _, (Below.refl _ _).alloc (Nat.le_refl _) _⟩
      case round =>
        clear KA KC hB ka0 ka1 ka2 kal
        obtain ⟨k, rfl, hk, O1, KA, KC, hB, hC⟩ := hrel
        have ka0 := KA.c0
        have ka1 := KA.c1
        have ka2 := KA.c2
        have kal := KA.lt
        by_cases hk1 : k < n
        · have hk2 : (k : Int) < (n : Int) := by omega
          have z8 := hC.size
          go_wp2_with (refine wpList_append_own _ rfl _ _ 22 rfl w8.heap.size 2 i0 (.int .i64 0) 1 8 Try.underlying22 hinf hz0 hz1 hz2 rfl (by decide) _ _ _ rfl (ownsRow_alloc O1 _) ⟨wr.heap.size, 0, none⟩ 1 1 [.int .i64 (k : Int)] rfl rfl (new_one _ _ rfl) (by intro u hu; simp only [List.mem_cons, List.not_mem_nil, or_false] at hu; rw [hu]; rfl) (by unfold maxLen; omega) (by omega) (by simp; omega) ?_; intro v9 w9 hown9 hgrow _)
          have O9 : w9.ownsRow w8.heap.size 2 1 v9 (k + 1) (cellsI (fun t => (t : Int)) (k + 1)) := by rw [cellsI_succ]; exact hown9
          have KAz := (KA.alloc (.cells #[.int .i64 (k : Int)] 2)).grown hgrow (fun e9 => by have := (O1.lt _ e9).1; omega)
          have KCz := (KC.alloc (.cells #[.int .i64 (k : Int)] 2)).grown hgrow (fun e9 => by have := (O1.lt _ e9).1; omega)
          have Bz : Below W.heap.size W w9 := Below.grown (Below.alloc hB (by omega) _) hgrow (by simp; omega) (fun q hq => by have := (O1.lt q hq).1; omega)
          have Cz : Below w8.heap.size w8 w9 := Below.grown (Below.alloc hC (by omega) _) hgrow (by simp; omega) (fun q hq => by have := (O1.lt q hq).1; omega)
          clear KA KC hB hC O1 hown9 hgrow ka0 ka1 ka2 kal
          have ka0 := KAz.c0
          have ka1 := KAz.c1
          have ka2 := KAz.c2
          have kal := KAz.lt
          go_wp2
          go_roundw
          case rel => exact ⟨k + 1, by go_num, by omega, O9, KAz, KCz, Bz, Cz⟩
          case measure => first | (simp [intOf]; done) | (simp [intOf]; omega)
        · obtain rfl : n = k := by omega
          have n144i : (n : Int) ≤ 144 := by omega
          have hk0 := HN1.out
          have H8 := SRow.own O1 (by omega)
          obtain ⟨g8, cap8, rfl, hg8, hg8', R8⟩ := H8.irow hk0
          have R8 := R8.ext (F' := fun t => ((t : Nat) : Int)) (fun _ _ => rfl)
          rw [Nat.mul_one] at R8
          have C8 := hC
          obtain ⟨w9, hw9⟩ : ∃ z, z = wr := ⟨_, rfl⟩
          clear H8 O1
          go_wp2_with fail
          go_loopw [10, 11, 12, 13, 14, 15, 16] (fun s10 _ _ _ _ _ _ X => ∃ (A : Nat → Nat) (c : Bool), s10 = .bool c ∧ FilI h w ms A ∧ IRow g8 n (fun t => ((A t : Nat) : Int)) X ∧ (c = false → ∀ t, t < h * w → ∀ m ∈ lm, A (imM h w m t) = A t) ∧ K3 W.heap.size (.int .i64 (h : Int)) (.int .i64 (w : Int)) (.slice (some ⟨g, 0, none⟩) n cap) X ∧ KF (W.heap.size + 1) 0 0 (.slice none 0 0) X ∧ Below W.heap.size W X ∧ Below w8.heap.size w8 X) (fun s10 _ _ _ _ _ _ X => if isT8 s10 then sumC X g8 n + 1 else 0)
          case atStart => exact ⟨fun t => t, true, rfl, FilI.start h w ms, R8, (fun e => by cases e), KA, KC, hB, hC⟩
          case round =>
            clear KA KC hB hC R8 ka0 ka1 ka2 kal
            obtain ⟨A0, c, rfl, hfil, R1, hpre, KA, KC, hB, hC⟩ := hrel
            have HPRE := Lib.hid hpre
            have HFIL := Lib.hid hfil
            clear hpre hfil
            have ka0 := KA.c0
            have ka1 := KA.c1
            have ka2 := KA.c2
            have kal := KA.lt
            rcases c with _ | _
            · obtain ⟨w6, hw6⟩ : ∃ z, z = wr := ⟨_, rfl⟩
              subst hw6
              have hw86 : W.heap.size + 2 ≤ w6.heap.size := KC.lt
              have HLT := Lib.hid (fun t (ht : t < n) => (show A0 t < n by rw [HNN.out]; exact FilI.lt HFIL.out (by rw [← HNN.out]; exact ht)))
              have HFN := Lib.hid (fun t (ht : t < n) => (show A0 t = firN h w ms t from FilI.fin HFIL.out (fun k hk m hm => HPRE.out rfl k hk m ((HMEM.out m).2 hm)) (by rw [← HNN.out]; exact ht)))
              go_wp2_with fail
              go_loopw [18] (fun s18 X => ∃ (k : Nat) (v9 : Value), s18 = .int .i64 (k : Int) ∧ k ≤ n ∧ KF (w6.heap.size + 1) (h : Int) (w : Int) v9 X ∧ X.ownsRow w6.heap.size 2 1 v9 k (cellsI (fiG h w ms F) k) ∧ v9.ownBlock ≠ some (w6.heap.size + 1) ∧ Below w6.heap.size w6 X) (fun s18 _ => n - (intOf s18).toNat)
              case atStart => exact ⟨0, .slice (some ⟨w6.heap.size, 0, none⟩) 0 0, rfl, by omega, KF.at _ (by simp), by simpa [cellsI] using (RowE.alloc (RowE.at w6.heap.size rfl (Nat.le_refl _)) _).1, (by intro e9; simp only [Value.ownBlock, Option.some.injEq] at e9; omega), by repeat (first | with_reducible exact Below.refl _ _ | with_reducible assumption | with_reducible refine Below.setCell ?_ (by first | omega | (dsimp only; omega) | (simp <;> omega)) _ | with_reducible refine Below.alloc ?_ (by first | omega | (simp <;> omega)) _ | with_reducible refine bstep ?_ (by with_reducible assumption) | with_reducible refine Below.drew ?_)⟩
              case round =>
                clear ka0 ka1 ka2 kal
                obtain ⟨k, v9, rfl, hk, KD, O1, hnb, hC⟩ := hrel
                have KA2 := KA.call hC
                have KC2 := KC.call hC
                have B2 := bstep hB hC
                by_cases hk1 : k < n
                · have hk2 : (k : Int) < (n : Int) := by omega
                  have hfl := HLT.out k hk1
                  obtain ⟨y, hy⟩ : ∃ y, y = A0 k := ⟨_, rfl⟩
                  have hfn := HFN.out k hk1
                  have c8 := (R1.call hC).at k hk1
                  (try dsimp only at c8)
                  rw [← hy] at hfl hfn c8
                  have HY := Lib.hid hfn
                  have hyi : (y : Int) < (n : Int) := by omega
                  have I0 := r.call B2
                  have c1 := I0.at y (by omega)
                  obtain ⟨b, hb⟩ : ∃ b, b = F y := ⟨_, rfl⟩
                  have HF := Lib.hid (show b = fiG h w ms F k by rw [hb, hfn]; rfl)
                  rw [← hb] at c1
                  clear hb hy hfn
                  have IGd := (show IRow g8 n (fun t => ((A0 t : Nat) : Int)) wr.drew from (R1.call hC).drew)
                  have KDd := KD.drew
                  have KAd := KA2.drew
                  have O1d := ownsRow_drew O1
                  have c8d : wr.drew.cell? ⟨g8, k, none⟩ = some (.int .i64 (y : Int)) := c8
                  have c1d : wr.drew.cell? ⟨g, y, none⟩ = some (.int .i64 b) := c1
                  have hgl := I0.1
                  have h8l := (R1.call hC).1
                  go_wp2_with fail
                  refine wp_region_T 11 (fun W9 => (W9.cell? ⟨W.heap.size, 0, none⟩ = some (.int .i64 (h : Int)) ∧ W9.cell? ⟨W.heap.size, 1, none⟩ = some (.int .i64 (w : Int)) ∧ W9.cell? ⟨W.heap.size, 2, none⟩ = some (.slice (some ⟨g, 0, none⟩) n cap)) ∧ W9.cell? ⟨w6.heap.size + 1, 2, none⟩ = some v9 ∧ W9.cell? ⟨g8, k, none⟩ = some (.int .i64 (y : Int)) ∧ W9.cell? ⟨g, y, none⟩ = some (.int .i64 b)) (by kernel_rfl) ⟨KAd.cells, KDd.c2, c8d, c1d⟩ (fun hHeld inv => ?_)
                  refine wpAnyT_take (i := 0) (v := ?_) (by kernel_rfl) (by kernel_rfl) (by decide) (by kernel_rfl) inv rfl (by decide) (by kernel_rfl) (by kernel_rfl) (fun _ _ _ h => h) (Or.inl ⟨by rfl, ?_⟩) (by assumption) (fun inv => ?_)
                  rotate_left
                  · (intro w hSw; (try dsimp only at hSw); go_simp; try with_reducible rfl)
                  simp only [Act.put, List.setIfInBounds_toArray, List.set_cons_zero, List.set_cons_succ]
                  refine wpAnyT_take (i := 1) (v := ?_) (by kernel_rfl) (by kernel_rfl) (by decide) (by kernel_rfl) inv rfl (by decide) (by kernel_rfl) (by kernel_rfl) (fun _ _ _ h => h) (Or.inl ⟨by rfl, ?_⟩) (by assumption) (fun inv => ?_)
                  rotate_left
                  · (intro w hSw; (try dsimp only at hSw); go_simp; try with_reducible rfl)
                  simp only [Act.put, List.setIfInBounds_toArray, List.set_cons_zero, List.set_cons_succ]
                  refine wpAnyT_take (i := 2) (v := ?_) (by kernel_rfl) (by kernel_rfl) (by decide) (by kernel_rfl) inv rfl (by decide) (by kernel_rfl) (by kernel_rfl) (fun _ _ _ h => h) (Or.inl ⟨by rfl, ?_⟩) (by assumption) (fun inv => ?_)
                  rotate_left
                  · (intro w hSw; (try dsimp only at hSw); go_simp; try with_reducible rfl)
                  simp only [Act.put, List.setIfInBounds_toArray, List.set_cons_zero, List.set_cons_succ]
                  refine wpAnyT_take (i := 3) (v := ?_) (by kernel_rfl) (by kernel_rfl) (by decide) (by kernel_rfl) inv rfl (by decide) (by kernel_rfl) (by kernel_rfl) (fun _ _ _ h => h) (Or.inl ⟨by rfl, ?_⟩) (by assumption) (fun inv => ?_)
                  rotate_left
                  · (intro w hSw; (try dsimp only at hSw); go_simp; try with_reducible rfl)
                  simp only [Act.put, List.setIfInBounds_toArray, List.set_cons_zero, List.set_cons_succ]
                  refine wpAnyT_take (i := 4) (v := ?_) (by kernel_rfl) (by kernel_rfl) (by decide) (by kernel_rfl) inv rfl (by decide) (by kernel_rfl) (by kernel_rfl) (fun _ _ _ h => h) (Or.inl ⟨by rfl, ?_⟩) (by assumption) (fun inv => ?_)
                  rotate_left
                  · (intro w hSw; (try dsimp only at hSw); go_simp; try with_reducible rfl)
                  simp only [Act.put, List.setIfInBounds_toArray, List.set_cons_zero, List.set_cons_succ]
                  refine wpAnyT_take (i := 5) (v := ?_) (by kernel_rfl) (by kernel_rfl) (by decide) (by kernel_rfl) inv rfl (by decide) (by kernel_rfl) (by kernel_rfl) (fun _ _ _ h => h) (Or.inl ⟨by rfl, ?_⟩) (by assumption) (fun inv => ?_)
                  rotate_left
                  · (intro w hSw; (try dsimp only at hSw); go_simp; try with_reducible rfl)
                  simp only [Act.put, List.setIfInBounds_toArray, List.set_cons_zero, List.set_cons_succ]
                  refine wpAnyT_take (i := 6) (v := ?_) (by kernel_rfl) (by kernel_rfl) (by decide) (by kernel_rfl) inv rfl (by decide) (by kernel_rfl) (by kernel_rfl) (fun _ _ _ h => h) (Or.inl ⟨by rfl, ?_⟩) (by assumption) (fun inv => ?_)
                  rotate_left
                  · (intro w hSw; (try dsimp only at hSw); go_simp; try with_reducible rfl)
                  simp only [Act.put, List.setIfInBounds_toArray, List.set_cons_zero, List.set_cons_succ]
                  refine wpAnyT_take (i := 7) (v := ?_) (by kernel_rfl) (by kernel_rfl) (by decide) (by kernel_rfl) inv rfl (by decide) (by kernel_rfl) (by kernel_rfl) (fun _ _ _ h => h) (Or.inl ⟨by rfl, ?_⟩) (by assumption) (fun inv => ?_)
                  rotate_left
                  · (intro w hSw; (try dsimp only at hSw); go_simp; try with_reducible rfl)
                  simp only [Act.put, List.setIfInBounds_toArray, List.set_cons_zero, List.set_cons_succ]
                  refine wpAnyT_take (i := 8) (v := ?_) (by kernel_rfl) (by kernel_rfl) (by decide) (by kernel_rfl) inv rfl (by decide) (by kernel_rfl) (by kernel_rfl) (fun _ _ _ h => h) (Or.inl ⟨by rfl, ?_⟩) (by assumption) (fun inv => ?_)
                  rotate_left
                  · (intro w hSw; (try dsimp only at hSw); go_simp; try with_reducible rfl)
                  simp only [Act.put, List.setIfInBounds_toArray, List.set_cons_zero, List.set_cons_succ]
                  refine wpAnyT_take (i := 9) (v := ?_) (by kernel_rfl) (by kernel_rfl) (by decide) (by kernel_rfl) inv rfl (by decide) (by kernel_rfl) (by kernel_rfl) (fun _ _ _ h => h) (Or.inl ⟨by rfl, ?_⟩) (by assumption) (fun inv => ?_)
                  rotate_left
                  · (intro w hSw; (try dsimp only at hSw); go_simp; try with_reducible rfl)
                  simp only [Act.put, List.setIfInBounds_toArray, List.set_cons_zero, List.set_cons_succ]
                  refine wpAnyT_one (i := 10) (by kernel_rfl) rfl (fun K hK => ?_)
                  go_simp
                  refine hK.out _ _ (fun _ => ⟨(KAd.alloc _).cells, (KDd.alloc _).c2, (((Below.refl _ _).alloc (Nat.le_refl _) _).cell (p := ⟨g8, k, none⟩) h8l).trans c8d, (((Below.refl _ _).alloc (Nat.le_refl _) _).cell (p := ⟨g, y, none⟩) hgl).trans c1d⟩) ?_
                  clear hK K
                  try simp only [Act.put, List.setIfInBounds_toArray, List.set_cons_zero, List.set_cons_succ]
                  refine wpAnyT_seq (k := 11) (by decide) rfl rfl (by kernel_rfl) ?_
                  clear hHeld inv c8 c1
                  refine wpList_append_own_at _ rfl _ _ 22 rfl w6.heap.size 2 i0 (.int .i64 0) 1 8 Try.underlying22 hinf hz0 hz1 hz2 rfl (by decide) _ _ _ rfl (ownsRow_alloc O1d _) ⟨wr.heap.size, 0, none⟩ 1 1 [.int .i64 b] rfl rfl ?c1 ?c2 ?c3 ?c4 ?c5 ?_
                  case c1 => exact new_one _ _ rfl
                  case c2 => intro u hu; simp only [List.mem_cons, List.not_mem_nil, or_false] at hu; rw [hu]; rfl
                  case c3 => unfold maxLen; omega
                  case c4 => omega
                  case c5 => have := hC.size; simp; omega
                  intro v' w3 hown3 hgr3 _ hat
                  have KD3 := (KDd.alloc (.cells #[.int .i64 b] 2)).grown hgr3 hnb
                  have C3 : Below w6.heap.size w6 w3 := Below.grown (Below.alloc hC.drew (by have := hC.size; simp; omega) _) hgr3 (by have := hC.size; simp; omega) (fun q hq => by have := (O1.lt q hq).1; omega)
                  have hown4 : w3.ownsRow w6.heap.size 2 1 v' (k + 1) (cellsI (fiG h w ms F) (k + 1)) := by rw [cellsI_succ, ← HF.out]; exact hown3
                  have KD4 := KD3.store2 v'
                  have hnb4 : v'.ownBlock ≠ some (w6.heap.size + 1) := by
                    rcases hat with e9 | e9 <;> rw [e9]
                    · exact hnb
                    · intro e7; have := KD.lt; simp at e7; omega
                  have OWN9 := Lib.hid hown4
                  obtain ⟨ao', cap', rfl⟩ := own_sh hown4
                  have kd2' := KD3.c2
                  have kdf2 := KD3.f2
                  have kdl' := KD3.lt
                  clear hown3 hown4 hgr3 hat KA2 KC2 B2 hC KD O1 KDd KAd O1d IGd c8d c1d hgl h8l I0
                  go_wp2
                  go_roundw
                  case rel => exact ⟨k + 1, _, by go_num, by omega, KD4, ownsRow_set OWN9.out hnb4 _, hnb4, C3.setCell (by dsimp only; omega) _⟩
                  case measure => first | (simp [intOf]; done) | (simp [intOf]; omega)
                · obtain rfl : k = n := by omega
                  have kd0 := KD.c0
                  have kd1 := KD.c1
                  have kd2 := KD.c2
                  have kdl := KD.lt
                  have kc0 := KC2.c0
                  have kc1 := KC2.c1
                  have kc2 := KC2.c2
                  have kcf0 := KC2.f0
                  have kcf1 := KC2.f1
                  have kcf2 := KC2.f2
                  have kcl := KC2.lt
                  have HR1 := Lib.hid (SRow.own O1 (by omega))
                  have HB := Lib.hid B2
                  clear hC B2 O1 hB
                  obtain ⟨ao9, cap9, rfl⟩ := SRow.slice HR1.out
                  go_wp2
                  refine bodyPost_ret (v := .tuple #[.agg #[.int .i64 (h : Int), .int .i64 (w : Int), .slice ao9 k cap9], .int .i64 0]) (by simp [results, Try.results9, go_sem, *]) rfl ⟨_, _, _, _, _, _, HFA.out, rfl, ?_, ?_⟩
                  · refine SRow.up (hi := wr.heap.size) (SRow.low (lo := w6.heap.size) ?_ (by omega))
                    repeat (first | with_reducible exact HR1.out | with_reducible refine SRow.put (by first | omega | (dsimp only; omega)) _ ?_)
                  · have hB := HB.out
                    repeat (first | with_reducible exact Below.refl _ _ | with_reducible assumption | with_reducible refine Below.setCell ?_ (by first | omega | (dsimp only; omega) | (simp <;> omega)) _ | with_reducible refine Below.alloc ?_ (by first | omega | (simp <;> omega)) _ | with_reducible refine bstep ?_ (by with_reducible assumption) | with_reducible refine Below.drew ?_)
            · go_wp2_with fail
              have HSU := Lib.hid (sumC_of R1)
              go_loopw [10, 11, 12, 13, 14, 15, 16] (fun s10 s11 _ _ _ _ _ X => ∃ (A : Nat → Nat) (ch : Bool) (j : Nat), s10 = .bool ch ∧ s11 = .int .i64 (j : Int) ∧ j ≤ n ∧ Pass h w ms lm A0 A ch j 0 ∧ IRow g8 n (fun t => ((A t : Nat) : Int)) X ∧ K3 W.heap.size (.int .i64 (h : Int)) (.int .i64 (w : Int)) (.slice (some ⟨g, 0, none⟩) n cap) X ∧ KF (W.heap.size + 1) 0 0 (.slice none 0 0) X ∧ Below W.heap.size W X ∧ Below w8.heap.size w8 X) (fun _ s11 _ _ _ _ _ _ => n - (intOf s11).toNat)
              case atStart => exact ⟨A0, false, 0, rfl, rfl, by omega, Pass.start lm HFIL.out, R1, KA, KC, hB, hC⟩
              case round =>
                clear KA KC hB hC R1 ka0 ka1 ka2 kal
                obtain ⟨A, ch, j, rfl, rfl, hj, hpass, R1, KA, KC, hB, hC⟩ := hrel
                have HPA := Lib.hid hpass
                clear hpass
                have ka0 := KA.c0
                have ka1 := KA.c1
                have ka2 := KA.c2
                have kal := KA.lt
                by_cases hj1 : j < n
                · have hj2 : (j : Int) < (n : Int) := by omega
                  go_wp2_with fail
                  go_loopw [10, 12, 13, 14, 15, 16] (fun s10 s12 _ _ _ _ X => ∃ (A : Nat → Nat) (ch : Bool) (i : Nat), s10 = .bool ch ∧ s12 = .int .i64 (i : Int) ∧ i ≤ lm.length ∧ Pass h w ms lm A0 A ch j i ∧ IRow g8 n (fun t => ((A t : Nat) : Int)) X ∧ K3 W.heap.size (.int .i64 (h : Int)) (.int .i64 (w : Int)) (.slice (some ⟨g, 0, none⟩) n cap) X ∧ KF (W.heap.size + 1) 0 0 (.slice none 0 0) X ∧ Below W.heap.size W X ∧ Below w8.heap.size w8 X) (fun _ s12 _ _ _ _ _ => lm.length - (intOf s12).toNat)
                  case atStart => exact ⟨A, ch, 0, rfl, rfl, by omega, HPA.out, R1, KA, KC, hB, hC⟩
                  case round =>
                    clear KA KC hB hC R1 ka0 ka1 ka2 kal HPA
                    obtain ⟨A, ch, i, rfl, rfl, hi, hpass, R1, KA, KC, hB, hC⟩ := hrel
                    have HPA := Lib.hid hpass
                    clear hpass
                    have ka0 := KA.c0
                    have ka1 := KA.c1
                    have ka2 := KA.c2
                    have kal := KA.lt
                    by_cases hi1 : i < lm.length
                    · have hi2 : (i : Int) < (lm.length : Int) := by omega
                      obtain ⟨gm, cm, em, hgm, hcm⟩ := (HM.out.call hC).resolve_left (fun h9 => by omega)
                      simp only [Value.slice.injEq] at em
                      obtain ⟨rfl, _, rfl⟩ := em
                      obtain ⟨m0, m1, m2⟩ := hcm i hi1
                      clear hcm
                      have hin : lm[i] ∈ ms := (HMEM.out _).1 (List.getElem_mem hi1)
                      have HST := Lib.hid (fun hK => HPA.out.step HMA.out hK hi1 hin)
                      have hsm := maks_small HMA.out _ hin
                      obtain ⟨⟨tx, ty, s9⟩, hmi⟩ : ∃ m, m = lm[i] := ⟨_, rfl⟩
                      rw [← hmi] at m0 m1 m2 hsm HST
                      dsimp only at m0 m1 m2 hsm
                      clear hmi hin
                      have KM : K3at gm (i * 3) (.bool tx) (.bool ty) (.int .i64 (s9 : Int)) wr := ⟨hgm, m0, m1, m2⟩
                      have e1 := cel_im P.out (s := s9) tx ty hj1
                      have hyb := imY_bd (h := h) ty (y := ((j / w : Nat) : Int)) ⟨Int.natCast_nonneg _, Int.ofNat_lt.2 (Nat.div_lt_of_lt_mul (by have := HNN.out; rw [Nat.mul_comm]; omega))⟩
                      have e2 := cel_of P.out (x := (s9 : Int) + imX tx ((j % w : Nat) : Int)) hyb
                      rw [e1] at e2
                      have hjh : j / w < h := Nat.div_lt_of_lt_mul (by have := HNN.out; rw [Nat.mul_comm]; omega)
                      have hjw : j % w < w := Nat.mod_lt _ (by omega)
                      obtain ⟨q9, hq9⟩ : ∃ q, q = j / w := ⟨_, rfl⟩
                      obtain ⟨r9, hr9⟩ : ∃ q, q = j % w := ⟨_, rfl⟩
                      obtain ⟨jn, hjn⟩ : ∃ q, q = imN h w tx ty s9 j := ⟨_, rfl⟩
                      have HJN := Lib.hid hjn
                      have hw0 : ¬ (w : Int) = 0 := by omega
                      have hd1 : (j : Int) / (w : Int) = (q9 : Int) := by rw [hq9]; omega
                      have hd2 : (j : Int).tdiv (w : Int) = (q9 : Int) := by rw [Int.tdiv_eq_ediv_of_nonneg (by omega)]; exact hd1
                      have hm1 : (j : Int) % (w : Int) = (r9 : Int) := by rw [hr9]; omega
                      have hm2 : (j : Int).tmod (w : Int) = (r9 : Int) := by rw [Int.tmod_eq_emod_of_nonneg (by omega)]; exact hm1
                      rw [← hq9] at hyb e2 hjh
                      rw [← hr9] at e2 hjw
                      rw [← hjn] at e2
                      have HXB := Lib.hid (show -100000 ≤ (s9 : Int) + imX tx (r9 : Int) ∧ (s9 : Int) + imX tx (r9 : Int) ≤ 100000 by unfold imX; rcases tx with _ | _ <;> simp <;> omega)
                      have HIM := Lib.hid (fun X => image_any (h := h) (w : Int) (.slice (some ⟨g, 0, none⟩) n cap) tx ty (x := (r9 : Int)) (y := (q9 : Int)) X h6 (by omega : s9 ≤ 1000) (by omega) (by omega))
                      obtain ⟨xx, hxx⟩ : ∃ z, z = (s9 : Int) + imX tx (r9 : Int) := ⟨_, rfl⟩
                      obtain ⟨yy, hyy⟩ : ∃ z, z = imY (h : Int) ty (q9 : Int) := ⟨_, rfl⟩
                      rw [← hxx, ← hyy] at e2 HIM
                      rw [← hxx] at HXB
                      rw [← hyy] at hyb
                      have HE2 := Lib.hid e2
                      clear e1 e2 hxx hyy hq9 hr9 hjn m0 m1 m2
                      have hyb2 : yy ≤ 6 := by omega
                      have KAd := KA.drew
                      have KMd := KM.call (show Below wr.heap.size wr wr.drew from (Below.refl _ _).drew)
                      go_wp2_with fail
                      refine wp_region_held_drew (S := fun W9 => (W9.cell? ⟨W.heap.size, 0, none⟩ = some (.int .i64 (h : Int)) ∧ W9.cell? ⟨W.heap.size, 1, none⟩ = some (.int .i64 (w : Int)) ∧ W9.cell? ⟨W.heap.size, 2, none⟩ = some (.slice (some ⟨g, 0, none⟩) n cap)) ∧ (W9.cell? ⟨gm, i * 3, none⟩ = some (.bool tx) ∧ W9.cell? ⟨gm, i * 3 + 1, none⟩ = some (.bool ty) ∧ W9.cell? ⟨gm, i * 3 + 2, none⟩ = some (.int .i64 (s9 : Int)))) (by kernel_rfl) ?_ (fun hHeld => ?_)
                      · exact ⟨KAd.cells, KMd.cells⟩
                      refine wpAnyH_take (i := 0) (v := ?_) (by (simp only [List.getElem?_toArray, List.getElem?_cons_succ, List.getElem?_cons_zero]); rfl) (by kernel_rfl) (by kernel_rfl) (by kernel_rfl) (by exact fun _ _ _ h => h) (Or.inl ⟨by rfl, ?_⟩) (by assumption) ?_
                      rotate_left 1
                      · (intro w hSw; (try dsimp only at hSw); go_simp; try with_reducible rfl)
                      (try simp only [Act.put, List.setIfInBounds_toArray, List.set_cons_zero, List.set_cons_succ])
                      refine wpAnyH_take (i := 1) (v := ?_) (by (simp only [List.getElem?_toArray, List.getElem?_cons_succ, List.getElem?_cons_zero]); rfl) (by kernel_rfl) (by kernel_rfl) (by kernel_rfl) (by exact fun _ _ _ h => h) (Or.inl ⟨by rfl, ?_⟩) (by assumption) ?_
                      rotate_left 1
                      · (intro w hSw; (try dsimp only at hSw); go_simp; try with_reducible rfl)
                      (try simp only [Act.put, List.setIfInBounds_toArray, List.set_cons_zero, List.set_cons_succ])
                      refine wpAnyH_take (i := 2) (v := ?_) (by (simp only [List.getElem?_toArray, List.getElem?_cons_succ, List.getElem?_cons_zero]); rfl) (by kernel_rfl) (by kernel_rfl) (by kernel_rfl) (by exact fun _ _ _ h => h) (Or.inl ⟨by rfl, ?_⟩) (by assumption) ?_
                      rotate_left 1
                      · (intro w hSw; (try dsimp only at hSw); go_simp; try with_reducible rfl)
                      (try simp only [Act.put, List.setIfInBounds_toArray, List.set_cons_zero, List.set_cons_succ])
                      refine wpAnyH_take (i := 3) (v := ?_) (by (simp only [List.getElem?_toArray, List.getElem?_cons_succ, List.getElem?_cons_zero]); rfl) (by kernel_rfl) (by kernel_rfl) (by kernel_rfl) (by exact fun _ _ _ h => h) (Or.inl ⟨by rfl, ?_⟩) (by assumption) ?_
                      rotate_left 1
                      · (intro w hSw; (try dsimp only at hSw); go_simp; try with_reducible rfl)
                      (try simp only [Act.put, List.setIfInBounds_toArray, List.set_cons_zero, List.set_cons_succ])
                      refine wpAnyH_take (i := 4) (v := ?_) (by (simp only [List.getElem?_toArray, List.getElem?_cons_succ, List.getElem?_cons_zero]); rfl) (by kernel_rfl) (by kernel_rfl) (by kernel_rfl) (by exact fun _ _ _ h => h) (Or.inl ⟨by rfl, ?_⟩) (by assumption) ?_
                      rotate_left 1
                      · (intro w hSw; (try dsimp only at hSw); go_simp; try with_reducible rfl)
                      (try simp only [Act.put, List.setIfInBounds_toArray, List.set_cons_zero, List.set_cons_succ])
                      refine wpAnyH_take (i := 5) (v := ?_) (by (simp only [List.getElem?_toArray, List.getElem?_cons_succ, List.getElem?_cons_zero]); rfl) (by kernel_rfl) (by kernel_rfl) (by kernel_rfl) (by exact fun _ _ _ h => h) (Or.inl ⟨by rfl, ?_⟩) (by assumption) ?_
                      rotate_left 1
                      · (intro w hSw; (try dsimp only at hSw); go_simp; try with_reducible rfl)
                      (try simp only [Act.put, List.setIfInBounds_toArray, List.set_cons_zero, List.set_cons_succ])
                      refine wpAnyH_take (i := 6) (v := ?_) (by (simp only [List.getElem?_toArray, List.getElem?_cons_succ, List.getElem?_cons_zero]); rfl) (by kernel_rfl) (by kernel_rfl) (by kernel_rfl) (by exact fun _ _ _ h => h) (Or.inl ⟨by rfl, ?_⟩) (by assumption) ?_
                      rotate_left 1
                      · (intro w hSw; (try dsimp only at hSw); go_simp; try with_reducible rfl)
                      (try simp only [Act.put, List.setIfInBounds_toArray, List.set_cons_zero, List.set_cons_succ])
                      refine wpAnyH_take (i := 7) (v := ?_) (by (simp only [List.getElem?_toArray, List.getElem?_cons_succ, List.getElem?_cons_zero]); rfl) (by kernel_rfl) (by kernel_rfl) (by kernel_rfl) (by exact fun _ _ _ h => h) (Or.inl ⟨by rfl, ?_⟩) (by assumption) ?_
                      rotate_left 1
                      · (intro w hSw; (try dsimp only at hSw); go_simp; try with_reducible rfl)
                      (try simp only [Act.put, List.setIfInBounds_toArray, List.set_cons_zero, List.set_cons_succ])
                      refine wpAnyH_take (i := 8) (v := ?_) (by (simp only [List.getElem?_toArray, List.getElem?_cons_succ, List.getElem?_cons_zero]); rfl) (by kernel_rfl) (by kernel_rfl) (by kernel_rfl) (by exact fun _ _ _ h => h) (Or.inl ⟨by rfl, ?_⟩) (by assumption) ?_
                      rotate_left 1
                      · (intro w hSw; (try dsimp only at hSw); go_simp; rw [if_neg (by omega)]; try with_reducible rfl)
                      (try simp only [Act.put, List.setIfInBounds_toArray, List.set_cons_zero, List.set_cons_succ])
                      refine wpAnyH_take (i := 9) (v := ?_) (by (simp only [List.getElem?_toArray, List.getElem?_cons_succ, List.getElem?_cons_zero]); rfl) (by kernel_rfl) (by kernel_rfl) (by kernel_rfl) (by exact fun _ _ _ h => h) (Or.inl ⟨by rfl, ?_⟩) (by assumption) ?_
                      rotate_left 1
                      · (intro w hSw; (try dsimp only at hSw); go_simp; try with_reducible rfl)
                      (try simp only [Act.put, List.setIfInBounds_toArray, List.set_cons_zero, List.set_cons_succ])
                      refine wpAnyH_take (i := 10) (v := ?_) (by (simp only [List.getElem?_toArray, List.getElem?_cons_succ, List.getElem?_cons_zero]); rfl) (by kernel_rfl) (by kernel_rfl) (by kernel_rfl) (by exact fun _ _ _ h => h) (Or.inl ⟨by rfl, ?_⟩) (by assumption) ?_
                      rotate_left 1
                      · (intro w hSw; (try dsimp only at hSw); go_simp; try with_reducible rfl)
                      (try simp only [Act.put, List.setIfInBounds_toArray, List.set_cons_zero, List.set_cons_succ])
                      refine wpAnyH_take (i := 11) (v := ?_) (by (simp only [List.getElem?_toArray, List.getElem?_cons_succ, List.getElem?_cons_zero]); rfl) (by kernel_rfl) (by kernel_rfl) (by kernel_rfl) (by exact fun _ _ _ h => h) (Or.inl ⟨by rfl, ?_⟩) (by assumption) ?_
                      rotate_left 1
                      · (intro w hSw; (try dsimp only at hSw); go_simp; try with_reducible rfl)
                      (try simp only [Act.put, List.setIfInBounds_toArray, List.set_cons_zero, List.set_cons_succ])
                      refine wpAnyH_take (i := 12) (v := ?_) (by (simp only [List.getElem?_toArray, List.getElem?_cons_succ, List.getElem?_cons_zero]); rfl) (by kernel_rfl) (by kernel_rfl) (by kernel_rfl) (by exact fun _ _ _ h => h) (Or.inl ⟨by rfl, ?_⟩) (by assumption) ?_
                      rotate_left 1
                      · (intro w hSw; (try dsimp only at hSw); go_simp; rw [if_neg (by omega), show IntKind.i64.wrap (q9 : Int) = (q9 : Int) from IntWalk.i64_in _ (by omega)]; try with_reducible rfl)
                      (try simp only [Act.put, List.setIfInBounds_toArray, List.set_cons_zero, List.set_cons_succ])
                      refine wpAnyH_ready (rs := [13]) (by kernel_rfl) (by simp) ?_
                      refine AllReadyH.cons (o := _) (by (simp only [List.getElem?_toArray, List.getElem?_cons_succ, List.getElem?_cons_zero]); rfl) (fun K hK => ?_) AllReadyH.nil
                      go_simp
                      go_at_call 42
                      with_reducible refine (HIM.out _).mono ?_
                      rintro e w2 ⟨rfl, hb2⟩
                      have KA2 := KAd.call hb2
                      have KM2 := KMd.call hb2
                      have KC2 := KC.drew.call hb2
                      have B2 := bstep hB.drew hb2
                      have C2 := bstep hC.drew hb2
                      have R2 := R1.drew.call hb2
                      go_wp2_with fail
                      refine hK.out _ _ ?_ (fun hHeld => ?_)
                      · (try dsimp only)
                        exact ⟨KA2.cells, KM2.cells⟩
                      clear hK K
                      (try simp only [Act.put, List.setIfInBounds_toArray, List.set_cons_zero, List.set_cons_succ])
                      refine wpAnyH_take (i := 14) (v := ?_) (by (simp only [List.getElem?_toArray, List.getElem?_cons_succ, List.getElem?_cons_zero]); rfl) (by kernel_rfl) (by kernel_rfl) (by kernel_rfl) (by exact fun _ _ _ h => h) (Or.inl ⟨by rfl, ?_⟩) (by assumption) ?_
                      rotate_left 1
                      · (intro w hSw; (try dsimp only at hSw); go_simp; try with_reducible rfl)
                      (try simp only [Act.put, List.setIfInBounds_toArray, List.set_cons_zero, List.set_cons_succ])
                      refine wpAnyH_take (i := 15) (v := ?_) (by (simp only [List.getElem?_toArray, List.getElem?_cons_succ, List.getElem?_cons_zero]); rfl) (by kernel_rfl) (by kernel_rfl) (by kernel_rfl) (by exact fun _ _ _ h => h) (Or.inl ⟨by rfl, ?_⟩) (by assumption) ?_
                      rotate_left 1
                      · (intro w hSw; (try dsimp only at hSw); go_simp; try with_reducible rfl)
                      (try simp only [Act.put, List.setIfInBounds_toArray, List.set_cons_zero, List.set_cons_succ])
                      refine wpAnyH_take (i := 16) (v := ?_) (by (simp only [List.getElem?_toArray, List.getElem?_cons_succ, List.getElem?_cons_zero]); rfl) (by kernel_rfl) (by kernel_rfl) (by kernel_rfl) (by exact fun _ _ _ h => h) (Or.inl ⟨by rfl, ?_⟩) (by assumption) ?_
                      rotate_left 1
                      · (intro w hSw; (try dsimp only at hSw); go_simp; try with_reducible rfl)
                      (try simp only [Act.put, List.setIfInBounds_toArray, List.set_cons_zero, List.set_cons_succ])
                      refine wpAnyH_take (i := 17) (v := ?_) (by (simp only [List.getElem?_toArray, List.getElem?_cons_succ, List.getElem?_cons_zero]); rfl) (by kernel_rfl) (by kernel_rfl) (by kernel_rfl) (by exact fun _ _ _ h => h) (Or.inl ⟨by rfl, ?_⟩) (by assumption) ?_
                      rotate_left 1
                      · (intro w hSw; (try dsimp only at hSw); go_simp; try with_reducible rfl)
                      (try simp only [Act.put, List.setIfInBounds_toArray, List.set_cons_zero, List.set_cons_succ])
                      refine wpAnyH_take (i := 18) (v := ?_) (by (simp only [List.getElem?_toArray, List.getElem?_cons_succ, List.getElem?_cons_zero]); rfl) (by kernel_rfl) (by kernel_rfl) (by kernel_rfl) (by exact fun _ _ _ h => h) (Or.inl ⟨by rfl, ?_⟩) (by assumption) ?_
                      rotate_left 1
                      · (intro w hSw; (try dsimp only at hSw); go_simp; try with_reducible rfl)
                      (try simp only [Act.put, List.setIfInBounds_toArray, List.set_cons_zero, List.set_cons_succ])
                      refine wpAnyH_done (by kernel_rfl) ?_ _
                      clear hb2 KA KC R1 hB hC KM KAd KMd hHeld ka0 ka1 ka2 kal hd1 hd2 hm1 hm2 hgm
                      have ka0 := KA2.c0
                      have ka1 := KA2.c1
                      have ka2 := KA2.c2
                      have kal := KA2.lt
                      obtain ⟨mm, hmm⟩ : ∃ z, z = xx % (w : Int) := ⟨_, rfl⟩
                      obtain ⟨pp, hpp⟩ : ∃ z, yy * (w : Int) = z := ⟨_, rfl⟩
                      have he := HE2.out
                      rw [hpp, ← hmm] at he
                      have HMO := Lib.hid (fun X => (show Calls Try.prog 43 #[.int .i64 xx, .int .i64 (w : Int)] X (fun e w' => e = .returned (.int .i64 mm) ∧ X = w') by rw [hmm]; exact l01Mod_eq _ _ X HXB.out (by omega) (by omega)))
                      have hsum : pp + mm = (jn : Int) := he.1.symm
                      have hjnn : jn < n := he.2
                      have hp0 : 0 ≤ pp := by rw [← hpp]; exact Int.mul_nonneg hyb.1 (by omega)
                      have hm0 : 0 ≤ mm := by rw [hmm]; exact Int.emod_nonneg _ hw0
                      have hm24 : mm < (w : Int) := by rw [hmm]; exact Int.emod_lt_of_pos _ (by omega)
                      have hjni : (jn : Int) < (n : Int) := by omega
                      have hwp : IntKind.i64.wrap pp = pp := IntWalk.i64_in _ (by omega)
                      have hwq : IntKind.i64.wrap (pp + mm) = (jn : Int) := by rw [hsum]; exact IntWalk.i64_in _ (by omega)
                      clear hmm he hw0 hsum
                      go_wp2_with fail
                      go_region_held3 (fun W9 => (W9.cell? ⟨W.heap.size, 0, none⟩ = some (.int .i64 (h : Int)) ∧ W9.cell? ⟨W.heap.size, 1, none⟩ = some (.int .i64 (w : Int)) ∧ W9.cell? ⟨W.heap.size, 2, none⟩ = some (.slice (some ⟨g, 0, none⟩) n cap))) ((refine K3.cells ?_) <;> (repeat (first | with_reducible assumption | with_reducible refine K3.drew ?_ | with_reducible refine IRow.drew ?_ | with_reducible refine K3.alloc ?_ _ | with_reducible refine K3.call ?_ (by with_reducible assumption) | with_reducible refine IRow.call ?_ (by with_reducible assumption) | ((with_reducible refine K3.far ?_ ?_); (first | omega | (dsimp only; omega))) | ((with_reducible refine IRow.far ?_ ?_); (first | omega | (dsimp only; omega))))))
                        ((go_at_call 43; with_reducible refine (HMO.out _).mono ?_; rintro e w' ⟨rfl, rfl⟩))
                      all_goals
                        clear ka0 ka1 ka2 kal hpp hyb hyb2 hp0 hm0 hm24
                        have R3 := R2.drew
                        have KA3 := KA2.drew
                        have KC3 := KC2.drew
                        have B3 := B2.drew
                        have C3 := C2.drew
                        have r3a := R3.at jn (by omega)
                        have r3b := R3.at j (by omega)
                        (try dsimp only at r3a r3b)
                        have r3l := R3.1
                        obtain ⟨a9, ha9⟩ : ∃ z, z = A jn := ⟨_, rfl⟩
                        obtain ⟨b9, hb9⟩ : ∃ z, z = A j := ⟨_, rfl⟩
                        rw [← ha9] at r3a
                        rw [← hb9] at r3b
                        obtain ⟨m9, hm9⟩ : ∃ z, z = min a9 b9 := ⟨_, rfl⟩
                        have hmin : min (a9 : Int) (b9 : Int) = (m9 : Int) := by omega
                        have HAB := Lib.hid (And.intro ha9 (And.intro hb9 hm9))
                        clear ha9 hb9 hm9
                        go_upto_region 24 with fail
                        go_region
                        have HR3 := Lib.hid R3
                        have hne : (A jn != A j) = (a9 != b9) := by rw [HAB.out.1, HAB.out.2.1]
                        have HNE := Lib.hid hne
                        clear hne
                        rcases ch with _ | _
                        · by_cases hab : a9 = b9
                          · have habi : (a9 : Int) = (b9 : Int) := by omega
                            go_upto_region 25 with fail
                            go_region
                            have R4 := R2
                            have f4a := R4.free jn (by omega)
                            have f4b := R4.free j (by omega)
                            have g4a := R4.at jn (by omega)
                            have g4b := R4.at j (by omega)
                            have KA4 := KA2
                            have KC4 := KC2
                            have B4 := B2
                            have C4 := C2
                            clear R3 KA3 KC3 B3 C3 KA2 KC2 B2 C2 R2 r3a r3b r3l
                            have HS4 := Lib.hid (HST.out (by have h9 := HNN.out; omega))
                            by_cases hjj : jn = j
                            · subst hjj
                              go_wp2
                              go_roundw
                              case rel =>
                                refine ⟨stepA A jn jn, false, i + 1, rfl, by go_num, by omega, ?_, ((R4.put jn (by omega) _).put jn (by omega) _).drew.drew.drew.ext ?_, (K3.far (by dsimp only; omega) (K3.far (by dsimp only; omega) KA4)).drew.drew.drew, (KF.far (by dsimp only; omega) (KF.far (by dsimp only; omega) KC4)).drew.drew.drew, ((B4.setCell (by dsimp only; omega) _).setCell (by dsimp only; omega) _).drew.drew.drew, ((C4.setCell (by dsimp only; omega) _).setCell (by dsimp only; omega) _).drew.drew.drew⟩
                                · have h9 := HS4.out
                                  have e9 : imM h w (tx, ty, s9) jn = jn := HJN.out.symm
                                  rw [e9, HNE.out] at h9
                                  simpa [hab] using h9
                                · intro t _
                                  have hm := HAB.out.2.2
                                  rw [HAB.out.1, HAB.out.2.1] at hm
                                  (try dsimp only)
                                  unfold stepA
                                  rw [← hm]
                                  by_cases e1 : t = jn
                                  · rw [if_pos e1, if_pos e1]; (have h9 := HAB.out.2.2); (try split) <;> omega
                                  · rw [if_neg e1, if_neg e1]
                                    by_cases e2 : t = jn
                                    · first | exact absurd e2 e1 | (rw [if_pos e2, if_pos e2]; (have h9 := HAB.out.2.2); (try split) <;> omega)
                                    · rw [if_neg e2, if_neg e2]
                              case measure => first | (simp [intOf]; done) | (simp [intOf]; omega)
                            · have hjj2 : ¬ j = jn := fun e => hjj e.symm
                              go_wp2
                              go_roundw
                              case rel =>
                                refine ⟨stepA A jn j, false, i + 1, rfl, by go_num, by omega, ?_, ((R4.put jn (by omega) _).put j (by omega) _).drew.drew.drew.ext ?_, (K3.far (by dsimp only; omega) (K3.far (by dsimp only; omega) KA4)).drew.drew.drew, (KF.far (by dsimp only; omega) (KF.far (by dsimp only; omega) KC4)).drew.drew.drew, ((B4.setCell (by dsimp only; omega) _).setCell (by dsimp only; omega) _).drew.drew.drew, ((C4.setCell (by dsimp only; omega) _).setCell (by dsimp only; omega) _).drew.drew.drew⟩
                                · have h9 := HS4.out
                                  have e9 : imM h w (tx, ty, s9) j = jn := HJN.out.symm
                                  rw [e9, HNE.out] at h9
                                  simpa [hab] using h9
                                · intro t _
                                  have hm := HAB.out.2.2
                                  rw [HAB.out.1, HAB.out.2.1] at hm
                                  (try dsimp only)
                                  unfold stepA
                                  rw [← hm]
                                  by_cases e1 : t = j
                                  · rw [if_pos e1, if_pos e1]; (have h9 := HAB.out.2.2); (try split) <;> omega
                                  · rw [if_neg e1, if_neg e1]
                                    by_cases e2 : t = jn
                                    · first | exact absurd e2 e1 | (rw [if_pos e2, if_pos e2]; (have h9 := HAB.out.2.2); (try split) <;> omega)
                                    · rw [if_neg e2, if_neg e2]
                              case measure => first | (simp [intOf]; done) | (simp [intOf]; omega)
                          · have habi : ¬ (a9 : Int) = (b9 : Int) := by omega
                            go_upto_region 25 with fail
                            go_region
                            have R4 := R2
                            have f4a := R4.free jn (by omega)
                            have f4b := R4.free j (by omega)
                            have g4a := R4.at jn (by omega)
                            have g4b := R4.at j (by omega)
                            have KA4 := KA2
                            have KC4 := KC2
                            have B4 := B2
                            have C4 := C2
                            clear R3 KA3 KC3 B3 C3 KA2 KC2 B2 C2 R2 r3a r3b r3l
                            have HS4 := Lib.hid (HST.out (by have h9 := HNN.out; omega))
                            by_cases hjj : jn = j
                            · subst hjj
                              go_wp2
                              go_roundw
                              case rel =>
                                refine ⟨stepA A jn jn, true, i + 1, congrArg Value.bool (by simp [habi]), by go_num, by omega, ?_, ((R4.put jn (by omega) _).put jn (by omega) _).drew.drew.drew.ext ?_, (K3.far (by dsimp only; omega) (K3.far (by dsimp only; omega) KA4)).drew.drew.drew, (KF.far (by dsimp only; omega) (KF.far (by dsimp only; omega) KC4)).drew.drew.drew, ((B4.setCell (by dsimp only; omega) _).setCell (by dsimp only; omega) _).drew.drew.drew, ((C4.setCell (by dsimp only; omega) _).setCell (by dsimp only; omega) _).drew.drew.drew⟩
                                · have h9 := HS4.out
                                  have e9 : imM h w (tx, ty, s9) jn = jn := HJN.out.symm
                                  rw [e9, HNE.out] at h9
                                  rw [show (a9 != b9) = true from by simp [hab]] at h9; simpa using h9
                                · intro t _
                                  have hm := HAB.out.2.2
                                  rw [HAB.out.1, HAB.out.2.1] at hm
                                  (try dsimp only)
                                  unfold stepA
                                  rw [← hm]
                                  by_cases e1 : t = jn
                                  · rw [if_pos e1, if_pos e1]; (have h9 := HAB.out.2.2); (try split) <;> omega
                                  · rw [if_neg e1, if_neg e1]
                                    by_cases e2 : t = jn
                                    · first | exact absurd e2 e1 | (rw [if_pos e2, if_pos e2]; (have h9 := HAB.out.2.2); (try split) <;> omega)
                                    · rw [if_neg e2, if_neg e2]
                              case measure => first | (simp [intOf]; done) | (simp [intOf]; omega)
                            · have hjj2 : ¬ j = jn := fun e => hjj e.symm
                              go_wp2
                              go_roundw
                              case rel =>
                                refine ⟨stepA A jn j, true, i + 1, congrArg Value.bool (by simp [habi]), by go_num, by omega, ?_, ((R4.put jn (by omega) _).put j (by omega) _).drew.drew.drew.ext ?_, (K3.far (by dsimp only; omega) (K3.far (by dsimp only; omega) KA4)).drew.drew.drew, (KF.far (by dsimp only; omega) (KF.far (by dsimp only; omega) KC4)).drew.drew.drew, ((B4.setCell (by dsimp only; omega) _).setCell (by dsimp only; omega) _).drew.drew.drew, ((C4.setCell (by dsimp only; omega) _).setCell (by dsimp only; omega) _).drew.drew.drew⟩
                                · have h9 := HS4.out
                                  have e9 : imM h w (tx, ty, s9) j = jn := HJN.out.symm
                                  rw [e9, HNE.out] at h9
                                  rw [show (a9 != b9) = true from by simp [hab]] at h9; simpa using h9
                                · intro t _
                                  have hm := HAB.out.2.2
                                  rw [HAB.out.1, HAB.out.2.1] at hm
                                  (try dsimp only)
                                  unfold stepA
                                  rw [← hm]
                                  by_cases e1 : t = j
                                  · rw [if_pos e1, if_pos e1]; (have h9 := HAB.out.2.2); (try split) <;> omega
                                  · rw [if_neg e1, if_neg e1]
                                    by_cases e2 : t = jn
                                    · first | exact absurd e2 e1 | (rw [if_pos e2, if_pos e2]; (have h9 := HAB.out.2.2); (try split) <;> omega)
                                    · rw [if_neg e2, if_neg e2]
                              case measure => first | (simp [intOf]; done) | (simp [intOf]; omega)
                        · go_upto_region 25 with fail
                          go_region
                          have R4 := R2
                          have f4a := R4.free jn (by omega)
                          have f4b := R4.free j (by omega)
                          have g4a := R4.at jn (by omega)
                          have g4b := R4.at j (by omega)
                          have KA4 := KA2
                          have KC4 := KC2
                          have B4 := B2
                          have C4 := C2
                          clear R3 KA3 KC3 B3 C3 KA2 KC2 B2 C2 R2 r3a r3b r3l
                          have HS4 := Lib.hid (HST.out (by have h9 := HNN.out; omega))
                          by_cases hjj : jn = j
                          · subst hjj
                            go_wp2
                            go_roundw
                            case rel =>
                              refine ⟨stepA A jn jn, true, i + 1, rfl, by go_num, by omega, ?_, ((R4.put jn (by omega) _).put jn (by omega) _).drew.drew.drew.ext ?_, (K3.far (by dsimp only; omega) (K3.far (by dsimp only; omega) KA4)).drew.drew.drew, (KF.far (by dsimp only; omega) (KF.far (by dsimp only; omega) KC4)).drew.drew.drew, ((B4.setCell (by dsimp only; omega) _).setCell (by dsimp only; omega) _).drew.drew.drew, ((C4.setCell (by dsimp only; omega) _).setCell (by dsimp only; omega) _).drew.drew.drew⟩
                              · have h9 := HS4.out
                                have e9 : imM h w (tx, ty, s9) jn = jn := HJN.out.symm
                                rw [e9, HNE.out] at h9
                                simpa using h9
                              · intro t _
                                have hm := HAB.out.2.2
                                rw [HAB.out.1, HAB.out.2.1] at hm
                                (try dsimp only)
                                unfold stepA
                                rw [← hm]
                                by_cases e1 : t = jn
                                · rw [if_pos e1, if_pos e1]; (have h9 := HAB.out.2.2); (try split) <;> omega
                                · rw [if_neg e1, if_neg e1]
                                  by_cases e2 : t = jn
                                  · first | exact absurd e2 e1 | (rw [if_pos e2, if_pos e2]; (have h9 := HAB.out.2.2); (try split) <;> omega)
                                  · rw [if_neg e2, if_neg e2]
                            case measure => first | (simp [intOf]; done) | (simp [intOf]; omega)
                          · have hjj2 : ¬ j = jn := fun e => hjj e.symm
                            go_wp2
                            go_roundw
                            case rel =>
                              refine ⟨stepA A jn j, true, i + 1, rfl, by go_num, by omega, ?_, ((R4.put jn (by omega) _).put j (by omega) _).drew.drew.drew.ext ?_, (K3.far (by dsimp only; omega) (K3.far (by dsimp only; omega) KA4)).drew.drew.drew, (KF.far (by dsimp only; omega) (KF.far (by dsimp only; omega) KC4)).drew.drew.drew, ((B4.setCell (by dsimp only; omega) _).setCell (by dsimp only; omega) _).drew.drew.drew, ((C4.setCell (by dsimp only; omega) _).setCell (by dsimp only; omega) _).drew.drew.drew⟩
                              · have h9 := HS4.out
                                have e9 : imM h w (tx, ty, s9) j = jn := HJN.out.symm
                                rw [e9, HNE.out] at h9
                                simpa using h9
                              · intro t _
                                have hm := HAB.out.2.2
                                rw [HAB.out.1, HAB.out.2.1] at hm
                                (try dsimp only)
                                unfold stepA
                                rw [← hm]
                                by_cases e1 : t = j
                                · rw [if_pos e1, if_pos e1]; (have h9 := HAB.out.2.2); (try split) <;> omega
                                · rw [if_neg e1, if_neg e1]
                                  by_cases e2 : t = jn
                                  · first | exact absurd e2 e1 | (rw [if_pos e2, if_pos e2]; (have h9 := HAB.out.2.2); (try split) <;> omega)
                                  · rw [if_neg e2, if_neg e2]
                            case measure => first | (simp [intOf]; done) | (simp [intOf]; omega)
                    · obtain rfl : i = lm.length := by omega
                      go_wp2
                      go_roundw
                      case rel => exact ⟨A, ch, j + 1, rfl, by go_num, by omega, HPA.out.row, R1, KA, KC, hB, hC⟩
                      case measure => first | (simp [intOf]; done) | (simp [intOf]; omega)
                · obtain rfl : j = n := by omega
                  have hno := HPA.out.no
                  have hyes := HPA.out.yes
                  have hfil := HPA.out.fil
                  have HS2 := Lib.hid (sumC_of R1)
                  go_wp2
                  go_roundw
                  case rel => exact ⟨A, ch, rfl, hfil, R1, (fun e t ht m hm => by obtain ⟨a, b, _⟩ := hno e; rw [a]; exact b t (by rw [← HNN.out] at ht; omega) m hm), KA, KC, hB, hC⟩
                  case measure =>
                    have e1 := HSU.out
                    have e2 := HS2.out
                    rcases ch with _ | _
                    · simp [isT8]
                    · have h3 := hyes rfl
                      rw [← HNN.out] at h3
                      simp only [isT8, if_true]
                      omega
theorem specFi_any {lo hi n : Nat} {v : Value} {F : Nat → Int} {W : World} (a b : Int) (hv : SRow lo hi 1 v n F W) (s : ByteArray) :
    Calls Try.prog 9 #[.agg #[.int .i64 a, .int .i64 b, v], .string s] W (FAns (fiA a b n F s) W) := by
  rcases hf : friB a b n F with _ | _
  · exact specFi_no a b hv s hf
  · obtain ⟨h, w, rfl, rfl, p⟩ := friB_of hf
    exact specFi_yes p hv s
theorem implFi_any {lo hi n : Nat} {v : Value} {F : Nat → Int} {W : World} (a b : Int) (hv : SRow lo hi 1 v n F W) (s : ByteArray) :
    Calls Try.prog 11 #[.agg #[.int .i64 a, .int .i64 b, v], .string s] W (FAns (fiA a b n F s) W) := by
  rcases hf : friB a b n F with _ | _
  · exact implFi_no a b hv s hf
  · obtain ⟨h, w, rfl, rfl, p⟩ := friB_of hf
    exact implFi_yes p hv s
end Go.Proofs.Ytajmfeppnhkcdaa
