/-
  A pattern's text, in the program and in the model: one and the same. Conditions: a slice that lies in a block of its own; the library's table of powers of ten reads as its initialiser lays it.
-/
import Derived.Test.YtpejihckepaojaaDoorDgO
import Derived.Test.YtpejihckepaojaaDoorLatT
import Derived.Test.YtpejihckepaojaaDoorTail
namespace Go.Proofs.YtpejihckepaojaaDoor
open Go.RowKit
set_option linter.unusedSimpArgs false
set_option linter.unusedVariables false

theorem appE (x : ByteArray) : x ++ (⟨#[]⟩ : ByteArray) = x := by
  apply ByteArray.ext
  simp
theorem numS_dig {z : Int} (h0 : 0 ≤ z) (h1 : z ≤ 9) : numS z = ⟨[UInt8.ofNat (48 + z).toNat].toArray⟩ := by
  rw [numS_pos _ (by omega), decS_small z h0 (by omega)]
  rfl
def sgnS (f : Int) : ByteArray := if f = 1 then ⟨#[72]⟩ else ⟨#[83]⟩
theorem sgnS_size (f : Int) : (sgnS f).size = 1 := by unfold sgnS; split <;> rfl
def patT (f A B C : Int) (n : Nat) (F : Nat → Int) : ByteArray := sgnS f ++ ⟨#[32]⟩ ++ numsS [A, B, C] ++ ⟨#[32]⟩ ++ digS n F
def ptA (f A B C : Int) (n : Nat) (F : Nat → Int) : ByteArray × Int := if patB f A B C n F = true then (patT f A B C n F, 0) else (⟨#[]⟩, 1)
set_option maxHeartbeats 1000000 in
theorem frameSign_any (f : Int) (w : World) : Calls Tryd.prog 76 #[.int .i64 f] w fun e w' => e = .returned (.string (sgnS f)) ∧ Below w.heap.size w w' := by
  by_cases h : f = 1
  · subst h
    go_enter Tryd.func76, Tryd.ntmps76
    go_wp2
    go_ret
    exact ⟨rfl, Below.refl _ _⟩
  · have HE := Lib.hid (show sgnS f = ⟨#[83]⟩ by simp [sgnS, h])
    have h1 : (f == 1) = false := by simpa using h
    clear h
    go_enter Tryd.func76, Tryd.ntmps76
    go_wp2
    go_ret
    exact ⟨by rw [HE.out]; rfl, Below.refl _ _⟩
set_option maxHeartbeats 4000000 in
theorem joinD_any {lo hi n : Nat} {v : Value} {F : Nat → Int} {w : World} (h : SRow lo hi 1 v n F w) (hn : 1 ≤ n) (h64 : n ≤ 64) (hF : ∀ t, t < n → 0 ≤ F t ∧ F t ≤ 9) :
    Calls Tryd.prog 75 #[v, .string ⟨#[]⟩] w fun e w' => e = .returned (.string (digS n F)) ∧ Below w.heap.size w w' := by
  obtain ⟨g, cap, rfl, hg, _, r⟩ := h.irow hn
  have hgw : g < w.heap.size := Nat.lt_of_lt_of_le hg h.1
  have R := Lib.hid r
  have HF := Lib.hid hF
  have HN := Lib.hid hn
  clear h r hF hn hg
  go_enter Tryd.func75, Tryd.ntmps75
  go_wp2_with fail
  go_loopw [5, 6] (fun s i W => ∃ k : Nat, i = .int .i64 (k : Int) ∧ k ≤ n ∧ s = .string (digS k F) ∧ Below w.heap.size w W) (fun _ i _ => n - (intOf i).toNat)
  case atStart => exact ⟨0, rfl, by omega, rfl, Below.refl _ _⟩
  case round =>
    obtain ⟨k, rfl, hk, rfl, hB⟩ := hrel
    by_cases hk1 : k < n
    · have hk2 : (k : Int) < (n : Int) := by omega
      have hk0 : (0 : Int) ≤ (k : Int) := by omega
      have s1 := (R.out.grow hB hgw).at k (by omega)
      obtain ⟨hz9, hz10⟩ := HF.out k hk1
      have HE := Lib.hid (show digS (k + 1) F = digS k F ++ numS (F k) by rw [digS_succ, numS_dig hz9 hz10])
      have hzn : (numS (F k)).size ≤ 21 := numS_size (F k) (by omega) (by omega)
      have hzs := digS_size F k
      by_cases h0 : k = 0
      · subst h0
        generalize F 0 = x at *
        have s2 := addS2 ⟨#[]⟩ (numS x) (by simp only [show (⟨#[]⟩ : ByteArray).size = 0 from rfl]; omega)
        rw [digS_zero] at *
        go_wp2_with fail
        refine (number_any x _ (by omega) (by omega)).mono ?_
        rintro e w1 ⟨rfl, hb1⟩
        go_wp2
        go_roundw
        case rel => exact ⟨1, by go_num, by omega, by rw [HE.out], bstep hB hb1⟩
        case measure => first | (simp [intOf]; done) | (simp [intOf]; omega)
      · have hkp : (0 : Int) < (k : Int) := by omega
        generalize F k = x at *
        have HS := Lib.hid (show digS (k + 1) F = digS k F ++ ⟨#[]⟩ ++ numS x by rw [appE, HE.out])
        generalize digS k F = P at *
        have s1' := addS2 P ⟨#[]⟩ (by simp only [show (⟨#[]⟩ : ByteArray).size = 0 from rfl]; omega)
        have s2 := addS2 (P ++ ⟨#[]⟩) (numS x) (by rw [ByteArray.size_append]; simp only [show (⟨#[]⟩ : ByteArray).size = 0 from rfl]; omega)
        go_wp2_with fail
        refine (number_any x _ (by omega) (by omega)).mono ?_
        rintro e w1 ⟨rfl, hb1⟩
        go_wp2
        go_roundw
        case rel => exact ⟨k + 1, by go_num, by omega, by rw [HS.out], bstep hB hb1⟩
        case measure => first | (simp [intOf]; done) | (simp [intOf]; omega)
    · obtain rfl : k = n := by omega
      go_wp2
      go_ret
      exact ⟨ret_str (by simp), hB⟩
set_option maxRecDepth 100000 in
set_option maxHeartbeats 8000000 in
theorem text_any {lo hi p q n : Nat} {f B : Int} {v : Value} {F : Nat → Int} {W : World} (h : PatI f p B q n F) (hv : SRow lo hi 1 v n F W) (hT : TabOK W) :
    Calls Tryd.prog 46 #[.agg #[.int .i64 f, .int .i64 (p : Int), .int .i64 B, .int .i64 (q : Int), v]] W fun e w' => e = .returned (.string (patT f (p : Int) B (q : Int) n F)) ∧ Below W.heap.size W w' := by
  have R := Lib.hid hv
  have HH := Lib.hid h
  obtain ⟨hp1, hp2, hq1, hq2, hn64, hn1⟩ := h.bd
  have hfr := frB_iff.1 h.fr
  have hs7 := numsS_size [(p : Int), B, (q : Int)] (latI_N h.lat)
  have hs9 := digS_size F n
  simp only [List.length_cons, List.length_nil] at hs7
  obtain ⟨g, cap, rfl, hg, _, r⟩ := hv.irow hn1
  have hgs := hv.1
  have hgw : g < W.heap.size := by omega
  have P0 : Bx W.heap.size [.int .i64 f, .int .i64 (p : Int), .int .i64 B, .int .i64 (q : Int), .slice (some ⟨g, 0, none⟩) n cap] (W.alloc (.cells #[.int .i64 f, .int .i64 (p : Int), .int .i64 B, .int .i64 (q : Int), .slice (some ⟨g, 0, none⟩) n cap] 30)) := Bx.at _ rfl
  have B0 : Below W.heap.size W (W.alloc (.cells #[.int .i64 f, .int .i64 (p : Int), .int .i64 B, .int .i64 (q : Int), .slice (some ⟨g, 0, none⟩) n cap] 30)) := by repeat (first | with_reducible exact Below.refl _ _ | with_reducible assumption | with_reducible refine Below.setCell ?_ (by first | omega | (dsimp only; omega) | (simp <;> omega)) _ | with_reducible refine Below.alloc ?_ (by first | omega | (simp <;> omega)) _ | with_reducible refine bstep ?_ (by with_reducible assumption) | with_reducible refine Below.drew ?_ | with_reducible refine below_drewN ?_ _)
  have HFS := Lib.hid (fun X => frameSign_any f X)
  have HLT := Lib.hid (fun (X : World) (hX : Below W.heap.size W X) => ltext_any (p : Int) B (q : Int) X (hT.on hX) HH.out.lat)
  have HDG := Lib.hid (fun (X : World) (hX : Below W.heap.size W X) => digitsOf_any (R.out.call hX) hn1 HH.out.col)
  have hs0 := sgnS_size f
  have HE := Lib.hid (show patT f (p : Int) B (q : Int) n F = sgnS f ++ ⟨#[32]⟩ ++ numsS [(p : Int), B, (q : Int)] ++ ⟨#[32]⟩ ++ digS n F from rfl)
  obtain ⟨s9, HS9⟩ : ∃ s9, Hid (digS n F = s9) := ⟨_, Lib.hid rfl⟩
  rw [HS9.out] at hs9 HE
  generalize sgnS f = s0 at *
  generalize numsS [(p : Int), B, (q : Int)] = s7 at *
  have s1 := addS2 s0 ⟨#[32]⟩ (by rw [hs0]; decide)
  have s2 := addS2 (s0 ++ ⟨#[32]⟩) s7 (by rw [ByteArray.size_append, hs0]; simp only [show (⟨#[32]⟩ : ByteArray).size = 1 from rfl]; omega)
  have s3 := addS2 (s0 ++ ⟨#[32]⟩ ++ s7) ⟨#[32]⟩ (by rw [ByteArray.size_append, ByteArray.size_append, hs0]; simp only [show (⟨#[32]⟩ : ByteArray).size = 1 from rfl]; omega)
  have s4 := addS2 (s0 ++ ⟨#[32]⟩ ++ s7 ++ ⟨#[32]⟩) s9 (by rw [ByteArray.size_append, ByteArray.size_append, ByteArray.size_append, hs0]; simp only [show (⟨#[32]⟩ : ByteArray).size = 1 from rfl]; omega)
  clear hv h r hT hfr
  go_enter Tryd.func46, Tryd.ntmps46
  go_wp2_with fail
  refine wp_region_T 13 (fun W9 => (W9.cell? ⟨W.heap.size, 0, none⟩ = some (.int .i64 f) ∧ W9.cell? ⟨W.heap.size, 1, none⟩ = some (.int .i64 (p : Int)) ∧ W9.cell? ⟨W.heap.size, 2, none⟩ = some (.int .i64 B) ∧ W9.cell? ⟨W.heap.size, 3, none⟩ = some (.int .i64 (q : Int)) ∧ W9.cell? ⟨W.heap.size, 4, none⟩ = some (.slice (some ⟨g, 0, none⟩) n cap))) (by kernel_rfl) P0.drew.cells5 (fun hHeld inv => ?_)
  refine wpAnyT_take (i := 0) (v := ?_) (by kernel_rfl) (by kernel_rfl) (by decide) (by kernel_rfl) inv rfl (by decide) (by kernel_rfl) (by kernel_rfl) (fun _ _ _ h => h) (Or.inl ⟨by rfl, ?_⟩) (by assumption) (fun inv => ?_)
  rotate_left
  · (intro w hSw; (try dsimp only at hSw); go_simp; try with_reducible rfl)
  simp only [Act.put, List.setIfInBounds_toArray, List.set_cons_zero, List.set_cons_succ]
  refine wpAnyT_take (i := 1) (v := ?_) (by kernel_rfl) (by kernel_rfl) (by decide) (by kernel_rfl) inv rfl (by decide) (by kernel_rfl) (by kernel_rfl) (fun _ _ _ h => h) (Or.inl ⟨by rfl, ?_⟩) (by assumption) (fun inv => ?_)
  rotate_left
  · (intro w hSw; (try dsimp only at hSw); go_simp; try with_reducible rfl)
  simp only [Act.put, List.setIfInBounds_toArray, List.set_cons_zero, List.set_cons_succ]
  refine wpAnyT_take (i := 4) (v := ?_) (by kernel_rfl) (by kernel_rfl) (by decide) (by kernel_rfl) inv rfl (by decide) (by kernel_rfl) (by kernel_rfl) (fun _ _ _ h => h) (Or.inl ⟨by rfl, ?_⟩) (by assumption) (fun inv => ?_)
  rotate_left
  · (intro w hSw; (try dsimp only at hSw); go_simp; try with_reducible rfl)
  simp only [Act.put, List.setIfInBounds_toArray, List.set_cons_zero, List.set_cons_succ]
  refine wpAnyT_take (i := 5) (v := ?_) (by kernel_rfl) (by kernel_rfl) (by decide) (by kernel_rfl) inv rfl (by decide) (by kernel_rfl) (by kernel_rfl) (fun _ _ _ h => h) (Or.inl ⟨by rfl, ?_⟩) (by assumption) (fun inv => ?_)
  rotate_left
  · (intro w hSw; (try dsimp only at hSw); go_simp; try with_reducible rfl)
  simp only [Act.put, List.setIfInBounds_toArray, List.set_cons_zero, List.set_cons_succ]
  refine wpAnyT_take (i := 9) (v := ?_) (by kernel_rfl) (by kernel_rfl) (by decide) (by kernel_rfl) inv rfl (by decide) (by kernel_rfl) (by kernel_rfl) (fun _ _ _ h => h) (Or.inl ⟨by rfl, ?_⟩) (by assumption) (fun inv => ?_)
  rotate_left
  · (intro w hSw; (try dsimp only at hSw); go_simp; try with_reducible rfl)
  simp only [Act.put, List.setIfInBounds_toArray, List.set_cons_zero, List.set_cons_succ]
  refine wpAnyT_take (i := 10) (v := ?_) (by kernel_rfl) (by kernel_rfl) (by decide) (by kernel_rfl) inv rfl (by decide) (by kernel_rfl) (by kernel_rfl) (fun _ _ _ h => h) (Or.inl ⟨by rfl, ?_⟩) (by assumption) (fun inv => ?_)
  rotate_left
  · (intro w hSw; (try dsimp only at hSw); go_simp; try with_reducible rfl)
  simp only [Act.put, List.setIfInBounds_toArray, List.set_cons_zero, List.set_cons_succ]
  have HI2 := Lib.hid inv
  refine wpAnyT_one (i := 2) (by kernel_rfl) rfl (fun K hK => ?_)
  go_simp
  (go_at_call 76; with_reducible refine (HFS.out _).mono ?_; rintro e w1 ⟨rfl, hb1⟩; have P1 : Bx W.heap.size [.int .i64 f, .int .i64 (p : Int), .int .i64 B, .int .i64 (q : Int), .slice (some ⟨g, 0, none⟩) n cap] w1 := (by repeat (first | with_reducible assumption | with_reducible refine Bx.drew ?_ | with_reducible refine Bx.alloc ?_ _ | with_reducible refine Bx.call ?_ (by with_reducible assumption) | with_reducible refine BX.drew ?_ | with_reducible refine BX.alloc ?_ _ | with_reducible refine BX.call ?_ (by with_reducible assumption) | with_reducible refine Bx.far (by first | omega | (dsimp only; omega)) ?_)); have C1 : Below W.heap.size W w1 := (by repeat (first | with_reducible assumption | with_reducible exact Below.refl _ _ | with_reducible refine Below.drew ?_ | with_reducible refine Below.alloc ?_ (by first | omega | (simp <;> omega)) _ | with_reducible refine Below.setCell ?_ (by first | omega | (dsimp only; omega)) _ | with_reducible refine bstep ?_ (by with_reducible assumption))))
  refine hK.out _ _ (fun _ => P1.cells5) ?_
  clear hK K inv hHeld
  have hHeld := P1.cells5
  have inv := HI2.out.set (i := 2) (List.contains_iff_mem.1 (by kernel_rfl)) (by decide)
  try simp only [Act.put, List.setIfInBounds_toArray, List.set_cons_zero, List.set_cons_succ]
  try simp only [List.setIfInBounds_toArray, List.set_cons_zero, List.set_cons_succ] at inv
  refine wpAnyT_take (i := 3) (v := ?_) (by kernel_rfl) (by kernel_rfl) (by decide) (by kernel_rfl) inv rfl (by decide) (by kernel_rfl) (by kernel_rfl) (fun _ _ _ h => h) (Or.inl ⟨by rfl, ?_⟩) (by assumption) (fun inv => ?_)
  rotate_left
  · (intro w hSw; (try dsimp only at hSw); go_simp; try with_reducible rfl)
  simp only [Act.put, List.setIfInBounds_toArray, List.set_cons_zero, List.set_cons_succ]
  have HI6 := Lib.hid inv
  refine wpAnyT_one (i := 6) (by kernel_rfl) rfl (fun K hK => ?_)
  go_simp
  (go_at_call 77; with_reducible refine (HLT.out _ (by repeat (first | with_reducible assumption | with_reducible exact Below.refl _ _ | with_reducible refine Below.drew ?_ | with_reducible refine Below.alloc ?_ (by first | omega | (simp <;> omega)) _ | with_reducible refine Below.setCell ?_ (by first | omega | (dsimp only; omega)) _ | with_reducible refine bstep ?_ (by with_reducible assumption)))).mono ?_; rintro e w2 ⟨rfl, hb2⟩; have P2 : Bx W.heap.size [.int .i64 f, .int .i64 (p : Int), .int .i64 B, .int .i64 (q : Int), .slice (some ⟨g, 0, none⟩) n cap] w2 := (by repeat (first | with_reducible assumption | with_reducible refine Bx.drew ?_ | with_reducible refine Bx.alloc ?_ _ | with_reducible refine Bx.call ?_ (by with_reducible assumption) | with_reducible refine BX.drew ?_ | with_reducible refine BX.alloc ?_ _ | with_reducible refine BX.call ?_ (by with_reducible assumption) | with_reducible refine Bx.far (by first | omega | (dsimp only; omega)) ?_)); have C2 : Below W.heap.size W w2 := (by repeat (first | with_reducible assumption | with_reducible exact Below.refl _ _ | with_reducible refine Below.drew ?_ | with_reducible refine Below.alloc ?_ (by first | omega | (simp <;> omega)) _ | with_reducible refine Below.setCell ?_ (by first | omega | (dsimp only; omega)) _ | with_reducible refine bstep ?_ (by with_reducible assumption))))
  refine hK.out _ _ (fun _ => P2.cells5) ?_
  clear hK K inv hHeld
  have hHeld := P2.cells5
  have inv := HI6.out.set (i := 6) (List.contains_iff_mem.1 (by kernel_rfl)) (by decide)
  try simp only [Act.put, List.setIfInBounds_toArray, List.set_cons_zero, List.set_cons_succ]
  try simp only [List.setIfInBounds_toArray, List.set_cons_zero, List.set_cons_succ] at inv
  refine wpAnyT_take (i := 7) (v := ?_) (by kernel_rfl) (by kernel_rfl) (by decide) (by kernel_rfl) inv rfl (by decide) (by kernel_rfl) (by kernel_rfl) (fun _ _ _ h => h) (Or.inl ⟨by rfl, ?_⟩) (by assumption) (fun inv => ?_)
  rotate_left
  · (intro w hSw; (try dsimp only at hSw); go_simp; try with_reducible rfl)
  simp only [Act.put, List.setIfInBounds_toArray, List.set_cons_zero, List.set_cons_succ]
  refine wpAnyT_take (i := 8) (v := ?_) (by kernel_rfl) (by kernel_rfl) (by decide) (by kernel_rfl) inv rfl (by decide) (by kernel_rfl) (by kernel_rfl) (fun _ _ _ h => h) (Or.inl ⟨by rfl, ?_⟩) (by assumption) (fun inv => ?_)
  rotate_left
  · (intro w hSw; (try dsimp only at hSw); go_simp; try with_reducible rfl)
  simp only [Act.put, List.setIfInBounds_toArray, List.set_cons_zero, List.set_cons_succ]
  have HI11 := Lib.hid inv
  refine wpAnyT_one (i := 11) (by kernel_rfl) rfl (fun K hK => ?_)
  go_simp
  (go_at_call 78; with_reducible refine (HDG.out _ (by repeat (first | with_reducible assumption | with_reducible exact Below.refl _ _ | with_reducible refine Below.drew ?_ | with_reducible refine Below.alloc ?_ (by first | omega | (simp <;> omega)) _ | with_reducible refine Below.setCell ?_ (by first | omega | (dsimp only; omega)) _ | with_reducible refine bstep ?_ (by with_reducible assumption)))).mono ?_; rintro e w3 ⟨g3, cap3, rfl, own3, hb3⟩; have P3 : Bx W.heap.size [.int .i64 f, .int .i64 (p : Int), .int .i64 B, .int .i64 (q : Int), .slice (some ⟨g, 0, none⟩) n cap] w3 := (by repeat (first | with_reducible assumption | with_reducible refine Bx.drew ?_ | with_reducible refine Bx.alloc ?_ _ | with_reducible refine Bx.call ?_ (by with_reducible assumption) | with_reducible refine BX.drew ?_ | with_reducible refine BX.alloc ?_ _ | with_reducible refine BX.call ?_ (by with_reducible assumption) | with_reducible refine Bx.far (by first | omega | (dsimp only; omega)) ?_)); have C3 : Below W.heap.size W w3 := (by repeat (first | with_reducible assumption | with_reducible exact Below.refl _ _ | with_reducible refine Below.drew ?_ | with_reducible refine Below.alloc ?_ (by first | omega | (simp <;> omega)) _ | with_reducible refine Below.setCell ?_ (by first | omega | (dsimp only; omega)) _ | with_reducible refine bstep ?_ (by with_reducible assumption))); have cv3 := conv_dig own3; rw [HS9.out] at cv3; have HO3 := Lib.hid own3; clear own3)
  refine hK.out _ _ (fun _ => P3.cells5) ?_
  clear hK K inv hHeld
  have hHeld := P3.cells5
  have inv := HI11.out.set (i := 11) (List.contains_iff_mem.1 (by kernel_rfl)) (by decide)
  try simp only [Act.put, List.setIfInBounds_toArray, List.set_cons_zero, List.set_cons_succ]
  try simp only [List.setIfInBounds_toArray, List.set_cons_zero, List.set_cons_succ] at inv
  refine wpAnyT_one (i := 12) (by kernel_rfl) rfl (fun K hK => ?_)
  go_simp
  refine hK.out _ _ (fun _ => P3.cells5) ?_
  clear hK K inv hHeld
  try simp only [Act.put, List.setIfInBounds_toArray, List.set_cons_zero, List.set_cons_succ]
  refine wpAnyT_seq (k := 13) (by decide) rfl rfl (by kernel_rfl) ?_
  clear HI2 HI6 HI11
  go_wp2
  refine bodyPost_ret (v := .string (s0 ++ ⟨#[32]⟩ ++ s7 ++ ⟨#[32]⟩ ++ s9)) (by simp [results, Tryd.results46, go_sem, *]) rfl ⟨by rw [HE.out], C3⟩
set_option maxRecDepth 100000 in
set_option maxHeartbeats 8000000 in
theorem l09Text_any {lo hi p q n : Nat} {f B : Int} {v : Value} {F : Nat → Int} {W : World} (h : PatI f p B q n F) (hv : SRow lo hi 1 v n F W) :
    Calls Tryd.prog 45 #[.agg #[.int .i64 f, .int .i64 (p : Int), .int .i64 B, .int .i64 (q : Int), v]] W fun e w' => e = .returned (.string (patT f (p : Int) B (q : Int) n F)) ∧ Below W.heap.size W w' := by
  have R := Lib.hid hv
  have HH := Lib.hid h
  obtain ⟨hp1, hp2, hq1, hq2, hn64, hn1⟩ := h.bd
  have hfr := frB_iff.1 h.fr
  have hs7 := numsS_size [(p : Int), B, (q : Int)] (latI_N h.lat)
  have hs9 := digS_size F n
  simp only [List.length_cons, List.length_nil] at hs7
  obtain ⟨g, cap, rfl, hg, _, r⟩ := hv.irow hn1
  have hgs := hv.1
  have hgw : g < W.heap.size := by omega
  have P0 : Bx W.heap.size [.int .i64 f, .int .i64 (p : Int), .int .i64 B, .int .i64 (q : Int), .slice (some ⟨g, 0, none⟩) n cap] (W.alloc (.cells #[.int .i64 f, .int .i64 (p : Int), .int .i64 B, .int .i64 (q : Int), .slice (some ⟨g, 0, none⟩) n cap] 30)) := Bx.at _ rfl
  have B0 : Below W.heap.size W (W.alloc (.cells #[.int .i64 f, .int .i64 (p : Int), .int .i64 B, .int .i64 (q : Int), .slice (some ⟨g, 0, none⟩) n cap] 30)) := by repeat (first | with_reducible exact Below.refl _ _ | with_reducible assumption | with_reducible refine Below.setCell ?_ (by first | omega | (dsimp only; omega) | (simp <;> omega)) _ | with_reducible refine Below.alloc ?_ (by first | omega | (simp <;> omega)) _ | with_reducible refine bstep ?_ (by with_reducible assumption) | with_reducible refine Below.drew ?_ | with_reducible refine below_drewN ?_ _)
  have HLT := Lib.hid (fun (X : World) => (show Calls Tryd.prog 74 #[.agg #[.int .i64 ((p : Int)), .int .i64 B, .int .i64 ((q : Int))]] X (fun e w' => e = .returned (.string (numsS [(p : Int), B, (q : Int)])) ∧ Below X.heap.size X w') from by
    have h9 := specLText_any (p : Int) B (q : Int) X
    rw [show latText (p : Int) B (q : Int) = numsS [(p : Int), B, (q : Int)] from by simp [latText, latB_iff.2 HH.out.lat]] at h9
    exact h9))
  have HJN := Lib.hid (fun (X : World) (hX : Below W.heap.size W X) => joinD_any (R.out.call hX) hn1 hn64 HH.out.col)
  have HE0 := Lib.hid (show patT f (p : Int) B (q : Int) n F = sgnS f ++ ⟨#[32]⟩ ++ numsS [(p : Int), B, (q : Int)] ++ ⟨#[32]⟩ ++ digS n F from rfl)
  generalize digS n F = s9 at *
  generalize numsS [(p : Int), B, (q : Int)] = s7 at *
  rcases hfr with rfl | rfl
  · have hs0 : (⟨#[83]⟩ : ByteArray).size = 1 := rfl
    have HE := Lib.hid (show patT 0 (p : Int) B (q : Int) n F = ⟨#[83]⟩ ++ ⟨#[32]⟩ ++ s7 ++ ⟨#[32]⟩ ++ s9 from by rw [HE0.out]; rfl)
    clear HE0
    have hsl : ∀ X : World, Sem.run Tryd.prog (Instr.slice 9 (Value.string { data := #[83, 72] }) (some (Value.int IntKind.i64 0)) (some (Value.int IntKind.i64 (IntKind.i64.wrap 1))) none) X = .ok (.string ⟨#[83]⟩) X := by
      intro X
      kernel_rfl
    have s1 := addS2 (⟨#[83]⟩ : ByteArray) ⟨#[32]⟩ (by rw [hs0]; decide)
    have s2 := addS2 ((⟨#[83]⟩ : ByteArray) ++ ⟨#[32]⟩) s7 (by rw [ByteArray.size_append, hs0]; simp only [show (⟨#[32]⟩ : ByteArray).size = 1 from rfl]; omega)
    have s3 := addS2 ((⟨#[83]⟩ : ByteArray) ++ ⟨#[32]⟩ ++ s7) ⟨#[32]⟩ (by rw [ByteArray.size_append, ByteArray.size_append, hs0]; simp only [show (⟨#[32]⟩ : ByteArray).size = 1 from rfl]; omega)
    have s4 := addS2 ((⟨#[83]⟩ : ByteArray) ++ ⟨#[32]⟩ ++ s7 ++ ⟨#[32]⟩) s9 (by rw [ByteArray.size_append, ByteArray.size_append, ByteArray.size_append, hs0]; simp only [show (⟨#[32]⟩ : ByteArray).size = 1 from rfl]; omega)
    clear hv h r
    go_enter Tryd.func45, Tryd.ntmps45
    go_wp2_with fail
    go_region_held3 (fun W9 => (W9.cell? ⟨W.heap.size, 0, none⟩ = some (.int .i64 0) ∧ W9.cell? ⟨W.heap.size, 1, none⟩ = some (.int .i64 (p : Int)) ∧ W9.cell? ⟨W.heap.size, 2, none⟩ = some (.int .i64 B) ∧ W9.cell? ⟨W.heap.size, 3, none⟩ = some (.int .i64 (q : Int)) ∧ W9.cell? ⟨W.heap.size, 4, none⟩ = some (.slice (some ⟨g, 0, none⟩) n cap))) ((refine Bx.cells5 ?_) <;> repeat (first | with_reducible assumption | with_reducible refine Bx.drew ?_ | with_reducible refine Bx.alloc ?_ _ | with_reducible refine Bx.call ?_ (by with_reducible assumption) | with_reducible refine BX.drew ?_ | with_reducible refine BX.alloc ?_ _ | with_reducible refine BX.call ?_ (by with_reducible assumption) | with_reducible refine Bx.far (by first | omega | (dsimp only; omega)) ?_))
      (first
        | (go_at_call 74; with_reducible refine (HLT.out _).mono ?_; rintro e w1 ⟨rfl, hb1⟩; have P1 : Bx W.heap.size [.int .i64 0, .int .i64 (p : Int), .int .i64 B, .int .i64 (q : Int), .slice (some ⟨g, 0, none⟩) n cap] w1 := (by repeat (first | with_reducible assumption | with_reducible refine Bx.drew ?_ | with_reducible refine Bx.alloc ?_ _ | with_reducible refine Bx.call ?_ (by with_reducible assumption) | with_reducible refine BX.drew ?_ | with_reducible refine BX.alloc ?_ _ | with_reducible refine BX.call ?_ (by with_reducible assumption) | with_reducible refine Bx.far (by first | omega | (dsimp only; omega)) ?_)); have C1 : Below W.heap.size W w1 := (by repeat (first | with_reducible assumption | with_reducible exact Below.refl _ _ | with_reducible refine Below.drew ?_ | with_reducible refine Below.alloc ?_ (by first | omega | (simp <;> omega)) _ | with_reducible refine Below.setCell ?_ (by first | omega | (dsimp only; omega)) _ | with_reducible refine bstep ?_ (by with_reducible assumption))))
        | (go_at_call 75; with_reducible refine (HJN.out _ (by repeat (first | with_reducible assumption | with_reducible exact Below.refl _ _ | with_reducible refine Below.drew ?_ | with_reducible refine Below.alloc ?_ (by first | omega | (simp <;> omega)) _ | with_reducible refine Below.setCell ?_ (by first | omega | (dsimp only; omega)) _ | with_reducible refine bstep ?_ (by with_reducible assumption)))).mono ?_; rintro e w2 ⟨rfl, hb2⟩; have P2 : Bx W.heap.size [.int .i64 0, .int .i64 (p : Int), .int .i64 B, .int .i64 (q : Int), .slice (some ⟨g, 0, none⟩) n cap] w2 := (by repeat (first | with_reducible assumption | with_reducible refine Bx.drew ?_ | with_reducible refine Bx.alloc ?_ _ | with_reducible refine Bx.call ?_ (by with_reducible assumption) | with_reducible refine BX.drew ?_ | with_reducible refine BX.alloc ?_ _ | with_reducible refine BX.call ?_ (by with_reducible assumption) | with_reducible refine Bx.far (by first | omega | (dsimp only; omega)) ?_)); have C2 : Below W.heap.size W w2 := (by repeat (first | with_reducible assumption | with_reducible exact Below.refl _ _ | with_reducible refine Below.drew ?_ | with_reducible refine Below.alloc ?_ (by first | omega | (simp <;> omega)) _ | with_reducible refine Below.setCell ?_ (by first | omega | (dsimp only; omega)) _ | with_reducible refine bstep ?_ (by with_reducible assumption)))))
    all_goals
      go_wp2
      refine bodyPost_ret (v := .string (⟨#[83]⟩ ++ ⟨#[32]⟩ ++ s7 ++ ⟨#[32]⟩ ++ s9)) (by simp [results, Tryd.results45, go_sem, *]) rfl ⟨by rw [HE.out], C2⟩
  · have hs0 : (⟨#[72]⟩ : ByteArray).size = 1 := rfl
    have HE := Lib.hid (show patT 1 (p : Int) B (q : Int) n F = ⟨#[72]⟩ ++ ⟨#[32]⟩ ++ s7 ++ ⟨#[32]⟩ ++ s9 from by rw [HE0.out]; rfl)
    clear HE0
    have hsl : ∀ X : World, Sem.run Tryd.prog (Instr.slice 9 (Value.string { data := #[83, 72] }) (some (Value.int IntKind.i64 1)) (some (Value.int IntKind.i64 (IntKind.i64.wrap 2))) none) X = .ok (.string ⟨#[72]⟩) X := by
      intro X
      kernel_rfl
    have s1 := addS2 (⟨#[72]⟩ : ByteArray) ⟨#[32]⟩ (by rw [hs0]; decide)
    have s2 := addS2 ((⟨#[72]⟩ : ByteArray) ++ ⟨#[32]⟩) s7 (by rw [ByteArray.size_append, hs0]; simp only [show (⟨#[32]⟩ : ByteArray).size = 1 from rfl]; omega)
    have s3 := addS2 ((⟨#[72]⟩ : ByteArray) ++ ⟨#[32]⟩ ++ s7) ⟨#[32]⟩ (by rw [ByteArray.size_append, ByteArray.size_append, hs0]; simp only [show (⟨#[32]⟩ : ByteArray).size = 1 from rfl]; omega)
    have s4 := addS2 ((⟨#[72]⟩ : ByteArray) ++ ⟨#[32]⟩ ++ s7 ++ ⟨#[32]⟩) s9 (by rw [ByteArray.size_append, ByteArray.size_append, ByteArray.size_append, hs0]; simp only [show (⟨#[32]⟩ : ByteArray).size = 1 from rfl]; omega)
    clear hv h r
    go_enter Tryd.func45, Tryd.ntmps45
    go_wp2_with fail
    go_region_held3 (fun W9 => (W9.cell? ⟨W.heap.size, 0, none⟩ = some (.int .i64 1) ∧ W9.cell? ⟨W.heap.size, 1, none⟩ = some (.int .i64 (p : Int)) ∧ W9.cell? ⟨W.heap.size, 2, none⟩ = some (.int .i64 B) ∧ W9.cell? ⟨W.heap.size, 3, none⟩ = some (.int .i64 (q : Int)) ∧ W9.cell? ⟨W.heap.size, 4, none⟩ = some (.slice (some ⟨g, 0, none⟩) n cap))) ((refine Bx.cells5 ?_) <;> repeat (first | with_reducible assumption | with_reducible refine Bx.drew ?_ | with_reducible refine Bx.alloc ?_ _ | with_reducible refine Bx.call ?_ (by with_reducible assumption) | with_reducible refine BX.drew ?_ | with_reducible refine BX.alloc ?_ _ | with_reducible refine BX.call ?_ (by with_reducible assumption) | with_reducible refine Bx.far (by first | omega | (dsimp only; omega)) ?_))
      (first
        | (go_at_call 74; with_reducible refine (HLT.out _).mono ?_; rintro e w1 ⟨rfl, hb1⟩; have P1 : Bx W.heap.size [.int .i64 1, .int .i64 (p : Int), .int .i64 B, .int .i64 (q : Int), .slice (some ⟨g, 0, none⟩) n cap] w1 := (by repeat (first | with_reducible assumption | with_reducible refine Bx.drew ?_ | with_reducible refine Bx.alloc ?_ _ | with_reducible refine Bx.call ?_ (by with_reducible assumption) | with_reducible refine BX.drew ?_ | with_reducible refine BX.alloc ?_ _ | with_reducible refine BX.call ?_ (by with_reducible assumption) | with_reducible refine Bx.far (by first | omega | (dsimp only; omega)) ?_)); have C1 : Below W.heap.size W w1 := (by repeat (first | with_reducible assumption | with_reducible exact Below.refl _ _ | with_reducible refine Below.drew ?_ | with_reducible refine Below.alloc ?_ (by first | omega | (simp <;> omega)) _ | with_reducible refine Below.setCell ?_ (by first | omega | (dsimp only; omega)) _ | with_reducible refine bstep ?_ (by with_reducible assumption))))
        | (go_at_call 75; with_reducible refine (HJN.out _ (by repeat (first | with_reducible assumption | with_reducible exact Below.refl _ _ | with_reducible refine Below.drew ?_ | with_reducible refine Below.alloc ?_ (by first | omega | (simp <;> omega)) _ | with_reducible refine Below.setCell ?_ (by first | omega | (dsimp only; omega)) _ | with_reducible refine bstep ?_ (by with_reducible assumption)))).mono ?_; rintro e w2 ⟨rfl, hb2⟩; have P2 : Bx W.heap.size [.int .i64 1, .int .i64 (p : Int), .int .i64 B, .int .i64 (q : Int), .slice (some ⟨g, 0, none⟩) n cap] w2 := (by repeat (first | with_reducible assumption | with_reducible refine Bx.drew ?_ | with_reducible refine Bx.alloc ?_ _ | with_reducible refine Bx.call ?_ (by with_reducible assumption) | with_reducible refine BX.drew ?_ | with_reducible refine BX.alloc ?_ _ | with_reducible refine BX.call ?_ (by with_reducible assumption) | with_reducible refine Bx.far (by first | omega | (dsimp only; omega)) ?_)); have C2 : Below W.heap.size W w2 := (by repeat (first | with_reducible assumption | with_reducible exact Below.refl _ _ | with_reducible refine Below.drew ?_ | with_reducible refine Below.alloc ?_ (by first | omega | (simp <;> omega)) _ | with_reducible refine Below.setCell ?_ (by first | omega | (dsimp only; omega)) _ | with_reducible refine bstep ?_ (by with_reducible assumption)))))
    all_goals
      go_wp2
      refine bodyPost_ret (v := .string (⟨#[72]⟩ ++ ⟨#[32]⟩ ++ s7 ++ ⟨#[32]⟩ ++ s9)) (by simp [results, Tryd.results45, go_sem, *]) rfl ⟨by rw [HE.out], C2⟩
set_option maxHeartbeats 8000000 in
theorem implPT_any {lo hi n : Nat} {v : Value} {F : Nat → Int} {w : World} {s : ByteArray} {c : Int} (f A B C : Int) (hr : ptA f A B C n F = (s, c)) (hv : SRow lo hi 1 v n F w) (hT : TabOK w) :
    Calls Tryd.prog 21 #[.agg #[.int .i64 f, .int .i64 A, .int .i64 B, .int .i64 C, v]] w fun e w' => e = .returned (.tuple #[.string s, .int .i64 c]) ∧ Below w.heap.size w w' := by
  have R := Lib.hid hv
  have HT := Lib.hid hT
  obtain ⟨ao, cap, rfl⟩ := hv.slice
  clear hv hT
  have P0 : Bx w.heap.size [.int .i64 f, .int .i64 A, .int .i64 B, .int .i64 C, (.slice ao n cap)] (w.alloc (.cells #[.int .i64 f, .int .i64 A, .int .i64 B, .int .i64 C, .slice ao n cap] 30)) := Bx.at _ rfl
  have B0 : Below w.heap.size w (w.alloc (.cells #[.int .i64 f, .int .i64 A, .int .i64 B, .int .i64 C, .slice ao n cap] 30)) := by repeat (first | with_reducible exact Below.refl _ _ | with_reducible assumption | with_reducible refine Below.setCell ?_ (by first | omega | (dsimp only; omega) | (simp <;> omega)) _ | with_reducible refine Below.alloc ?_ (by first | omega | (simp <;> omega)) _ | with_reducible refine bstep ?_ (by with_reducible assumption) | with_reducible refine Below.drew ?_ | with_reducible refine below_drewN ?_ _)
  rcases h1 : patB f A B C n F with _ | _
  · obtain ⟨rfl, rfl⟩ : (⟨#[]⟩ : ByteArray) = s ∧ (1 : Int) = c := by simpa [ptA, h1] using hr
    clear hr
    go_enter Tryd.func21, Tryd.ntmps21
    go_wp2_with fail
    with_reducible refine (patValid_any f A B C (R.out.call B0)).mono ?_
    rintro e w1 ⟨rfl, hb1⟩
    rw [h1]
    have P1 := P0.call hb1
    have B1 := bstep B0 hb1
    clear P0 B0 hb1
    have p1c0 := P1.c0
    have p1c1 := P1.c1
    have p1c2 := P1.c2
    have p1c3 := P1.c3
    have p1c4 := P1.c4
    have p1l := P1.lt
    go_wp2
    refine bodyPost_ret (v := .tuple #[.string ⟨#[]⟩, .int .i64 1]) (by simp [results, Tryd.results21, go_sem, *]) rfl ⟨rfl, ?_⟩
    repeat (first | with_reducible exact Below.refl _ _ | with_reducible assumption | with_reducible refine Below.setCell ?_ (by first | omega | (dsimp only; omega) | (simp <;> omega)) _ | with_reducible refine Below.alloc ?_ (by first | omega | (simp <;> omega)) _ | with_reducible refine bstep ?_ (by with_reducible assumption) | with_reducible refine Below.drew ?_ | with_reducible refine below_drewN ?_ _)
  · obtain ⟨hs, rfl⟩ : patT f A B C n F = s ∧ (0 : Int) = c := by simpa [ptA, h1] using hr
    clear hr
    have HFU := Lib.hid (fun (X : World) (hX : Below w.heap.size w X) => (show Calls Tryd.prog 46 #[.agg #[.int .i64 f, .int .i64 A, .int .i64 B, .int .i64 C, .slice ao n cap]] X (fun e w' => e = .returned (.string s) ∧ Below X.heap.size X w') from by
      obtain ⟨p, q, rfl, rfl, hp⟩ := patB_of h1
      rw [← hs]
      exact text_any hp (R.out.call hX) (HT.out.on hX)))
    clear hs
    go_enter Tryd.func21, Tryd.ntmps21
    go_wp2_with fail
    with_reducible refine (patValid_any f A B C (R.out.call B0)).mono ?_
    rintro e w1 ⟨rfl, hb1⟩
    rw [h1]
    have P1 := P0.call hb1
    have B1 := bstep B0 hb1
    clear P0 B0 hb1
    have p1c0 := P1.c0
    have p1c1 := P1.c1
    have p1c2 := P1.c2
    have p1c3 := P1.c3
    have p1c4 := P1.c4
    have p1l := P1.lt
    go_wp2_with fail
    with_reducible refine (HFU.out _ B1).mono ?_
    rintro e w2 ⟨rfl, hb2⟩
    have B2 := bstep B1 hb2
    go_wp2
    refine bodyPost_ret (v := .tuple #[.string s, .int .i64 0]) (by simp [results, Tryd.results21, go_sem, *]) rfl ⟨rfl, B2⟩
set_option maxHeartbeats 8000000 in
theorem specPT_any {lo hi n : Nat} {v : Value} {F : Nat → Int} {w : World} {s : ByteArray} {c : Int} (f A B C : Int) (hr : ptA f A B C n F = (s, c)) (hv : SRow lo hi 1 v n F w) :
    Calls Tryd.prog 20 #[.agg #[.int .i64 f, .int .i64 A, .int .i64 B, .int .i64 C, v]] w fun e w' => e = .returned (.tuple #[.string s, .int .i64 c]) ∧ Below w.heap.size w w' := by
  have R := Lib.hid hv
  obtain ⟨ao, cap, rfl⟩ := hv.slice
  clear hv
  have P0 : Bx w.heap.size [.int .i64 f, .int .i64 A, .int .i64 B, .int .i64 C, (.slice ao n cap)] (w.alloc (.cells #[.int .i64 f, .int .i64 A, .int .i64 B, .int .i64 C, .slice ao n cap] 30)) := Bx.at _ rfl
  have B0 : Below w.heap.size w (w.alloc (.cells #[.int .i64 f, .int .i64 A, .int .i64 B, .int .i64 C, .slice ao n cap] 30)) := by repeat (first | with_reducible exact Below.refl _ _ | with_reducible assumption | with_reducible refine Below.setCell ?_ (by first | omega | (dsimp only; omega) | (simp <;> omega)) _ | with_reducible refine Below.alloc ?_ (by first | omega | (simp <;> omega)) _ | with_reducible refine bstep ?_ (by with_reducible assumption) | with_reducible refine Below.drew ?_ | with_reducible refine below_drewN ?_ _)
  rcases h1 : patB f A B C n F with _ | _
  · obtain ⟨rfl, rfl⟩ : (⟨#[]⟩ : ByteArray) = s ∧ (1 : Int) = c := by simpa [ptA, h1] using hr
    clear hr
    go_enter Tryd.func20, Tryd.ntmps20
    go_wp2_with fail
    with_reducible refine (specIsPat_any f A B C (R.out.call B0)).mono ?_
    rintro e w1 ⟨rfl, hb1⟩
    rw [h1]
    have P1 := P0.call hb1
    have B1 := bstep B0 hb1
    clear P0 B0 hb1
    have p1c0 := P1.c0
    have p1c1 := P1.c1
    have p1c2 := P1.c2
    have p1c3 := P1.c3
    have p1c4 := P1.c4
    have p1l := P1.lt
    go_wp2
    refine bodyPost_ret (v := .tuple #[.string ⟨#[]⟩, .int .i64 1]) (by simp [results, Tryd.results20, go_sem, *]) rfl ⟨rfl, ?_⟩
    repeat (first | with_reducible exact Below.refl _ _ | with_reducible assumption | with_reducible refine Below.setCell ?_ (by first | omega | (dsimp only; omega) | (simp <;> omega)) _ | with_reducible refine Below.alloc ?_ (by first | omega | (simp <;> omega)) _ | with_reducible refine bstep ?_ (by with_reducible assumption) | with_reducible refine Below.drew ?_ | with_reducible refine below_drewN ?_ _)
  · obtain ⟨hs, rfl⟩ : patT f A B C n F = s ∧ (0 : Int) = c := by simpa [ptA, h1] using hr
    clear hr
    have HFU := Lib.hid (fun (X : World) (hX : Below w.heap.size w X) => (show Calls Tryd.prog 45 #[.agg #[.int .i64 f, .int .i64 A, .int .i64 B, .int .i64 C, .slice ao n cap]] X (fun e w' => e = .returned (.string s) ∧ Below X.heap.size X w') from by
      obtain ⟨p, q, rfl, rfl, hp⟩ := patB_of h1
      rw [← hs]
      exact l09Text_any hp (R.out.call hX)))
    clear hs
    go_enter Tryd.func20, Tryd.ntmps20
    go_wp2_with fail
    with_reducible refine (specIsPat_any f A B C (R.out.call B0)).mono ?_
    rintro e w1 ⟨rfl, hb1⟩
    rw [h1]
    have P1 := P0.call hb1
    have B1 := bstep B0 hb1
    clear P0 B0 hb1
    have p1c0 := P1.c0
    have p1c1 := P1.c1
    have p1c2 := P1.c2
    have p1c3 := P1.c3
    have p1c4 := P1.c4
    have p1l := P1.lt
    go_wp2_with fail
    with_reducible refine (HFU.out _ B1).mono ?_
    rintro e w2 ⟨rfl, hb2⟩
    have B2 := bstep B1 hb2
    go_wp2
    refine bodyPost_ret (v := .tuple #[.string s, .int .i64 0]) (by simp [results, Tryd.results20, go_sem, *]) rfl ⟨rfl, B2⟩
end Go.Proofs.YtpejihckepaojaaDoor
