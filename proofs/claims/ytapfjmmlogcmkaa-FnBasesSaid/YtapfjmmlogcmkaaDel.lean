/-
  The program's deletion from the row of neighbours: the closure, slices.IndexFunc and slices.DeleteFunc. Conditions: the row lies in a block of its own.
-/
import Derived.Test.YtapfjmmlogcmkaaSvR
import Derived.Laws.IdiomCopy
namespace Go.Proofs.Ytapfjmmlogcmkaa
open Go.RowKit
set_option linter.unusedSimpArgs false
set_option linter.unusedVariables false

abbrev delV (p q : Nat) : Value := .func (.func 37) #[] #[.pointer (some ⟨p, 0, none⟩), .pointer (some ⟨q, 0, none⟩)]
/- the closure says whether a vector is to be deleted -/
def outP (A B C ux uy : Int) (v : Int × Int) : Bool := ux * v.2 - uy * v.1 != A * C
set_option maxHeartbeats 4000000 in
theorem crossMid_any (ux uy x y : Int) (w : World) (h1 : -1000000000000 ≤ ux * y ∧ ux * y ≤ 1000000000000) (h2 : -1000000000000 ≤ uy * x ∧ uy * x ≤ 1000000000000) :
    Calls Try.prog 38 #[.agg #[.int .i64 ux, .int .i64 uy], .agg #[.int .i64 x, .int .i64 y]] w fun e w' => e = .returned (.int .i64 (ux * y - uy * x)) ∧ Below w.heap.size w w' := by
  obtain ⟨a1, a2⟩ := h1
  obtain ⟨a3, a4⟩ := h2
  go_enter Try.func38, Try.ntmps38
  go_wp2
  go_ret
  refine ⟨rfl, ?_⟩
  repeat (first | exact Below.refl _ _ | refine Below.setCell ?_ (by first | omega | (simp <;> omega)) _ | refine Below.alloc ?_ (by first | omega | (simp <;> omega)) _ | refine bstep ?_ (by assumption) | refine Below.drew ?_)
set_option maxHeartbeats 1000000 in
theorem indexC_any (A B C : Int) (w : World) (h : -1000000 ≤ A * C ∧ A * C ≤ 1000000) :
    Calls Try.prog 39 #[.agg #[.int .i64 A, .int .i64 B, .int .i64 C]] w fun e w' => e = .returned (.int .i64 (A * C)) ∧ Below w.heap.size w w' := by
  go_enter Try.func39, Try.ntmps39
  go_wp2
  go_ret
  refine ⟨rfl, ?_⟩
  repeat (first | exact Below.refl _ _ | refine Below.setCell ?_ (by first | omega | (simp <;> omega)) _ | refine Below.alloc ?_ (by first | omega | (simp <;> omega)) _ | refine bstep ?_ (by assumption) | refine Below.drew ?_)
set_option maxRecDepth 100000 in
set_option maxHeartbeats 8000000 in
theorem closure_any (p q : Nat) (A B C ux uy x y : Int) (w : World) (hx : midI x ∧ midI y) (hu : midI ux ∧ midI uy) (hl : latI A B C) (h1 : KW p ux uy w) (h2 : Kt q A B C w) :
    Calls Try.prog 37 #[.agg #[.int .i64 x, .int .i64 y], .pointer (some ⟨p, 0, none⟩), .pointer (some ⟨q, 0, none⟩)] w fun e w' => e = .returned (.bool (outP A B C ux uy (x, y))) ∧ Below w.heap.size w w' := by
  have HI := Lib.hid (latI_prod hl)
  have HI2 := Lib.hid (Int.mul_nonneg (show (0 : Int) ≤ A by have := hl.1; omega) (show (0 : Int) ≤ C by have := hl.2.1; omega))
  have CR := Lib.hid (fun W => crossMid_any ux uy x y W (mid_mul hu.1 hx.2) (mid_mul hu.2 hx.1))
  have IX := Lib.hid (fun W => indexC_any A B C W (by have := HI.out; have := HI2.out; omega))
  have X1 : KW p ux uy (w.alloc (.cells #[.int .i64 x, .int .i64 y] 29)) := h1.alloc _
  have X2 : Kt q A B C (w.alloc (.cells #[.int .i64 x, .int .i64 y] 29)) := h2.alloc _
  have X3 : KW w.heap.size x y (w.alloc (.cells #[.int .i64 x, .int .i64 y] 29)) := KW.at _ rfl
  have B0 : Below w.heap.size w (w.alloc (.cells #[.int .i64 x, .int .i64 y] 29)) := (Below.refl _ _).alloc (Nat.le_refl _) _
  have P1 := X1.pair
  have P2 := X2.cells
  have P3 := X3.pair
  clear hx hu hl h1 h2
  go_enter Try.func37, Try.ntmps37
  go_wp2_with fail
  go_region_held3 (fun W => (W.cell? ⟨p, 0, none⟩ = some (.int .i64 ux) ∧ W.cell? ⟨p, 1, none⟩ = some (.int .i64 uy)) ∧ (W.cell? ⟨w.heap.size, 0, none⟩ = some (.int .i64 x) ∧ W.cell? ⟨w.heap.size, 1, none⟩ = some (.int .i64 y)) ∧ (W.cell? ⟨q, 0, none⟩ = some (.int .i64 A) ∧ W.cell? ⟨q, 1, none⟩ = some (.int .i64 B) ∧ W.cell? ⟨q, 2, none⟩ = some (.int .i64 C))) (((refine And.intro (KW.pair ?_) (And.intro (KW.pair ?_) (Kt.cells ?_))) <;> (repeat (first | assumption | with_reducible refine KW.alloc ?_ _ | with_reducible refine KW.drew ?_ | with_reducible refine KW.call ?_ (by assumption) | with_reducible refine Kt.alloc ?_ _ | with_reducible refine Kt.drew ?_ | with_reducible refine Kt.call ?_ (by assumption)))))
    (first
      | (go_at_call 38; refine (CR.out _).mono ?_; rintro e u1 ⟨rfl, hb1⟩; have G1 : KW p ux uy u1 := (by repeat (first | assumption | with_reducible refine KW.alloc ?_ _ | with_reducible refine KW.drew ?_ | with_reducible refine KW.call ?_ (by assumption) | with_reducible refine Kt.alloc ?_ _ | with_reducible refine Kt.drew ?_ | with_reducible refine Kt.call ?_ (by assumption))); have H1 : KW w.heap.size x y u1 := (by repeat (first | assumption | with_reducible refine KW.alloc ?_ _ | with_reducible refine KW.drew ?_ | with_reducible refine KW.call ?_ (by assumption) | with_reducible refine Kt.alloc ?_ _ | with_reducible refine Kt.drew ?_ | with_reducible refine Kt.call ?_ (by assumption))); have J1 : Kt q A B C u1 := (by repeat (first | assumption | with_reducible refine KW.alloc ?_ _ | with_reducible refine KW.drew ?_ | with_reducible refine KW.call ?_ (by assumption) | with_reducible refine Kt.alloc ?_ _ | with_reducible refine Kt.drew ?_ | with_reducible refine Kt.call ?_ (by assumption))); have B1 : Below w.heap.size w u1 := (by repeat (first | assumption | exact Below.refl _ _ | refine Below.alloc ?_ (by first | omega | (simp <;> omega)) _ | refine bstep ?_ (by assumption) | refine Below.drew ?_)))
      | (go_at_call 39; refine (IX.out _).mono ?_; rintro e u2 ⟨rfl, hb2⟩; have G2 : KW p ux uy u2 := (by repeat (first | assumption | with_reducible refine KW.alloc ?_ _ | with_reducible refine KW.drew ?_ | with_reducible refine KW.call ?_ (by assumption) | with_reducible refine Kt.alloc ?_ _ | with_reducible refine Kt.drew ?_ | with_reducible refine Kt.call ?_ (by assumption))); have H2 : KW w.heap.size x y u2 := (by repeat (first | assumption | with_reducible refine KW.alloc ?_ _ | with_reducible refine KW.drew ?_ | with_reducible refine KW.call ?_ (by assumption) | with_reducible refine Kt.alloc ?_ _ | with_reducible refine Kt.drew ?_ | with_reducible refine Kt.call ?_ (by assumption))); have J2 : Kt q A B C u2 := (by repeat (first | assumption | with_reducible refine KW.alloc ?_ _ | with_reducible refine KW.drew ?_ | with_reducible refine KW.call ?_ (by assumption) | with_reducible refine Kt.alloc ?_ _ | with_reducible refine Kt.drew ?_ | with_reducible refine Kt.call ?_ (by assumption))); have B2 : Below w.heap.size w u2 := (by repeat (first | assumption | exact Below.refl _ _ | refine Below.alloc ?_ (by first | omega | (simp <;> omega)) _ | refine bstep ?_ (by assumption) | refine Below.drew ?_))))
  all_goals
    go_wp2
    go_ret
    exact ⟨rfl, by assumption⟩
/- where the first one to be deleted stands -/
def firstOut (O : Int × Int → Bool) (L : List (Int × Int)) (e : Ending) : Prop :=
  (∃ (k : Nat) (h : k < L.length), e = .returned (.int .i64 (k : Int)) ∧ O L[k] = true ∧ ∀ v ∈ L.take k, O v = false) ∨ (e = .returned (.int .i64 (-1)) ∧ ∀ v ∈ L, O v = false)
set_option maxRecDepth 100000 in
set_option maxHeartbeats 8000000 in
theorem indexFunc_any (p q g cap : Nat) (A B C ux uy : Int) (L : List (Int × Int)) (w : World) (hm : midL L) (hu : midI ux ∧ midI uy) (hl : latI A B C) (h8 : L.length = 8) (hR : IRow g 16 (intAt (cells2 L)) w) (h1 : KW p ux uy w) (h2 : Kt q A B C w) :
    Calls Try.prog 76 #[.slice (some ⟨g, 0, none⟩) 8 cap, delV p q] w fun e w' => firstOut (outP A B C ux uy) L e ∧ Below w.heap.size w w' := by
  have HRR := Lib.hid hR
  have HM := Lib.hid hm
  have HU := Lib.hid hu
  have HI := Lib.hid hl
  have H1 := Lib.hid h1
  have H2 := Lib.hid h2
  have H8 := Lib.hid h8
  clear hm hu hl h8 hR h1 h2
  go_enter Try.func76, Try.ntmps76
  go_wp2_with fail
  go_loopw [8] (fun i W => ∃ k : Nat, i = .int .i64 (k : Int) ∧ k ≤ 8 ∧ Hid (∀ v ∈ L.take k, outP A B C ux uy v = false) ∧ Below w.heap.size w W) (fun i _ => 8 - (intOf i).toNat)
  case atStart => exact ⟨0, rfl, by omega, Lib.hid (by simp), Below.refl _ _⟩
  case round =>
    obtain ⟨k, rfl, hk, hN, hB⟩ := hrel
    by_cases hk1 : k < 8
    · have hk2 : (k : Int) < 8 := by omega
      have hk3 : (0 : Int) ≤ (k : Int) := by omega
      have hkL : k < L.length := by have := H8.out; omega
      have q1 := (HRR.out.grow hB HRR.out.1).ko2 (k * 2) (by omega)
      rw [(at2 hkL).1, (at2 hkL).2] at q1
      have CL := Lib.hid (fun W h1 h2 => closure_any p q A B C ux uy L[k].1 L[k].2 W (HM.out _ (List.getElem_mem hkL)) HU.out HI.out h1 h2)
      have HT : Hid (outP A B C ux uy L[k] = true → firstOut (outP A B C ux uy) L (.returned (.int .i64 (k : Int)))) := Lib.hid (fun h => .inl ⟨k, hkL, rfl, h, hN.out⟩)
      have HF : Hid (outP A B C ux uy L[k] = false → ∀ v ∈ L.take (k + 1), outP A B C ux uy v = false) := Lib.hid (fun h v hv => by
        rw [List.take_succ_eq_append_getElem hkL, List.mem_append] at hv
        rcases hv with hv | hv
        · exact hN.out v hv
        · simp at hv; rw [hv]; exact h)
      have HK := Lib.hid hk1
      generalize L[k] = v at *
      obtain ⟨x, y⟩ := v
      simp only at q1 CL
      obtain ⟨q10, q11, q12⟩ := id q1
      clear hk hk1 hkL
      go_wp2_with fail
      refine (CL.out _ (H1.out.grow hB H1.out.lt) (Kt.grow H2.out hB H2.out.1)).mono ?_
      rintro e w2 ⟨rfl, hb2⟩
      have hB2 := bstep hB hb2
      generalize outP A B C ux uy (x, y) = o at *
      rcases o with _ | _
      · have HF2 := Lib.hid (HF.out rfl)
        clear CL q1 q10 q11 q12 HT
        go_wp2
        have hk1 := HK.out
        go_roundw
        case rel => exact ⟨k + 1, by go_num, by omega, HF2, hB2⟩
        case measure => first | (simp [intOf]; done) | (simp [intOf]; omega)
      · have HT2 := Lib.hid (HT.out rfl)
        clear CL q1 q10 q11 q12 HF
        go_wp2
        go_ret
        exact ⟨HT2.out, hB2⟩
    · obtain rfl : k = 8 := by omega
      have HE : Hid (firstOut (outP A B C ux uy) L (.returned (.int .i64 (-1)))) := Lib.hid (.inr ⟨rfl, by have := hN.out; rwa [List.take_of_length_le (by rw [H8.out]; exact Nat.le_refl _)] at this⟩)
      clear hk hk1
      go_wp2
      go_ret
      exact ⟨HE.out, hB⟩
/- the state of the compaction -/
structure Cmp (O : Int × Int → Bool) (L M : List (Int × Int)) (i j : Nat) : Prop where
  len : M.length = 8
  ij : i < j
  pre : M.take i = (L.take j).filter (fun v => !O v)
  post : ∀ t (h : t < M.length) (hL : t < L.length), j ≤ t → M[t] = L[t]
theorem Cmp.start {O : Int × Int → Bool} {L : List (Int × Int)} {k : Nat} (h8 : L.length = 8) (hk : k < L.length) (ho : O L[k] = true) (hb : ∀ v ∈ L.take k, O v = false) : Cmp O L L k (k + 1) := by
  refine ⟨h8, by omega, ?_, fun t h hL _ => rfl⟩
  rw [List.take_succ_eq_append_getElem hk, List.filter_append, List.filter_eq_self.2 (fun v hv => by rw [hb v hv]; rfl)]
  simp [ho]
theorem Cmp.skip {O : Int × Int → Bool} {L M : List (Int × Int)} {i j : Nat} (h : Cmp O L M i j) (hj : j < L.length) (ho : O L[j] = true) : Cmp O L M i (j + 1) := by
  refine ⟨h.len, by have := h.ij; omega, ?_, fun t h1 h2 h3 => h.post t h1 h2 (by omega)⟩
  rw [List.take_succ_eq_append_getElem hj, List.filter_append, h.pre]
  simp [ho]
theorem Cmp.keep {O : Int × Int → Bool} {L M : List (Int × Int)} {i j : Nat} (h : Cmp O L M i j) (hj : j < L.length) (h8 : L.length = 8) (ho : O L[j] = false) : Cmp O L (M.set i L[j]) (i + 1) (j + 1) := by
  have hl := h.len
  have hij := h.ij
  have hi : i < (M.set i L[j]).length := by rw [List.length_set]; omega
  refine ⟨by rw [List.length_set]; exact hl, by omega, ?_, fun t h1 h2 h3 => ?_⟩
  · rw [List.take_succ_eq_append_getElem hi, List.take_succ_eq_append_getElem hj, List.filter_append, ← h.pre, List.take_set, List.set_eq_of_length_le (by rw [List.length_take]; omega), List.getElem_set_self]
    simp [ho]
  · rw [List.getElem_set_ne (by omega)]
    exact h.post t (by rw [List.length_set] at h1; exact h1) h2 (by omega)
theorem Cmp.done {O : Int × Int → Bool} {L M : List (Int × Int)} {i : Nat} (h : Cmp O L M i 8) (h8 : L.length = 8) : M.take i = L.filter (fun v => !O v) := by
  rw [h.pre, List.take_of_length_le (by omega)]
theorem row_set {g i : Nat} {M : List (Int × Int)} {W : World} {x y : Int} (hl : M.length = 8) (hi : i < 8) (h : IRow g 16 (intAt (cells2 M)) W) : IRow g 16 (intAt (cells2 (M.set i (x, y)))) ((W.setCell ⟨g, i * 2, none⟩ (.int .i64 x)).setCell ⟨g, i * 2 + 1, none⟩ (.int .i64 y)) := by
  refine ((h.put (i * 2) (by omega) x).put (i * 2 + 1) (by omega) y).ext (fun t ht => ?_)
  have hk : t / 2 < M.length := by omega
  have hk' : t / 2 < (M.set i (x, y)).length := by rw [List.length_set]; omega
  obtain ⟨a1, a2⟩ := at2 hk
  obtain ⟨b1, b2⟩ := at2 hk'
  by_cases c : t / 2 = i
  · have e : (M.set i (x, y))[t / 2] = (x, y) := by simp [c]
    rw [e] at b1 b2
    by_cases d : t % 2 = 0
    · obtain rfl : t = i * 2 := by omega
      rw [if_neg (by omega), if_pos rfl, show i * 2 = i * 2 / 2 * 2 by omega, b1]
    · obtain rfl : t = i * 2 + 1 := by omega
      rw [if_pos rfl]
      rw [show (i * 2 + 1) / 2 * 2 + 1 = i * 2 + 1 by omega] at b2
      rw [b2]
  · have e : (M.set i (x, y))[t / 2] = M[t / 2] := List.getElem_set_ne (fun h => c h.symm) _
    rw [e, ← a1] at b1
    rw [e, ← a2] at b2
    rw [if_neg (by omega), if_neg (by omega)]
    by_cases d : t % 2 = 0
    · rw [show t / 2 * 2 = t by omega] at b1; exact b1.symm
    · rw [show t / 2 * 2 + 1 = t by omega] at b2; exact b2.symm
/- clear of the tail of a row of vectors -/
theorem belowS {B : Nat} {a : World} (b : Nat) (hb : B ≤ b) : ∀ (vs : List Value) (o : Nat) {w : World}, Below B a w → Below B a (w.setCells b o vs)
  | [], _, _, h => h
  | v :: r, o, _, h => belowS b hb r (o + 1) (h.setCell (p := ⟨b, o, none⟩) hb v)
theorem sizeS (b : Nat) : ∀ (vs : List Value) (o : Nat) (w : World), (w.setCells b o vs).heap.size = w.heap.size
  | [], _, _ => rfl
  | v :: r, o, w => by rw [World.setCells, sizeS b r]; simp
theorem KtFar {R : Nat} {a b c : Int} {W : World} {q : Addr} {u : Value} (hq : ¬ q.block = R) (h : Kt R a b c W) : Kt R a b c (W.setCell q u) := by
  have e : ∀ o, (⟨R, o, none⟩ : Addr) ≠ q := fun o he => hq (by rw [← he])
  refine ⟨by simp; exact h.1, ?_, ?_, ?_⟩
  · rw [World.cell?_setCell_other _ _ _ _ (fun x => e 0 x.symm)]; exact h.2.1
  · rw [World.cell?_setCell_other _ _ _ _ (fun x => e 1 x.symm)]; exact h.2.2.1
  · rw [World.cell?_setCell_other _ _ _ _ (fun x => e 2 x.symm)]; exact h.2.2.2
theorem KW.setS {R : Nat} {a b : Int} {W : World} {g o : Nat} {vs : List Value} (hq : R ≠ g) (h : KW R a b W) : KW R a b (W.setCells g o vs) :=
  ⟨by rw [sizeS]; exact h.lt, by rw [World.cell?_setCells_out _ _ _ _ _ (fun e _ => absurd e hq)]; exact h.c0, by rw [World.cell?_setCells_out _ _ _ _ _ (fun e _ => absurd e hq)]; exact h.c1, by rw [World.frozen?_setCells]; exact h.f0, by rw [World.frozen?_setCells]; exact h.f1⟩
theorem Kt.setS {R : Nat} {a b c : Int} {W : World} {g o : Nat} {vs : List Value} (hq : R ≠ g) (h : Kt R a b c W) : Kt R a b c (W.setCells g o vs) :=
  ⟨by rw [sizeS]; exact h.1, by rw [World.cell?_setCells_out _ _ _ _ _ (fun e _ => absurd e hq)]; exact h.2.1, by rw [World.cell?_setCells_out _ _ _ _ _ (fun e _ => absurd e hq)]; exact h.2.2.1, by rw [World.cell?_setCells_out _ _ _ _ _ (fun e _ => absurd e hq)]; exact h.2.2.2⟩
theorem row_pre {g i : Nat} {M : List (Int × Int)} {W : World} (vs : List Value) (hl : M.length = 8) (hi : i < 8) (h : IRow g 16 (intAt (cells2 M)) W) : IRow g ((M.take i).length * 2) (intAt (cells2 (M.take i))) (W.setCells g (i * 2) vs) := by
  have hn : (M.take i).length = i := by rw [List.length_take]; omega
  rw [hn]
  refine ⟨by rw [sizeS]; exact h.1, fun t ht => ?_⟩
  rw [World.cell?_setCells_out _ _ _ _ _ (fun _ _ => .inl ht), World.frozen?_setCells]
  refine ⟨?_, h.free t (by omega)⟩
  rw [h.at t (by omega)]
  have hk : t / 2 < M.length := by omega
  have hk' : t / 2 < (M.take i).length := by omega
  obtain ⟨a1, a2⟩ := at2 hk
  obtain ⟨b1, b2⟩ := at2 hk'
  have e : (M.take i)[t / 2] = M[t / 2] := by simp
  rw [e, ← a1] at b1
  rw [e, ← a2] at b2
  by_cases d : t % 2 = 0
  · rw [show t / 2 * 2 = t by omega] at b1; rw [b1]
  · rw [show t / 2 * 2 + 1 = t by omega] at b2; rw [b2]
theorem zeros2 (n : Nat) : (Builtin.zeroCells (#[.int .i64 0, .int .i64 0] : Array Value) n).toList = List.replicate (n * 2) (.int .i64 0) := by
  simp [Builtin.zeroCells]
  apply List.ext_getElem
  · simp
  · intro t h1 h2
    have : t % 2 = 0 ∨ t % 2 = 1 := by omega
    rcases this with h | h <;> simp [h]
set_option maxRecDepth 100000 in
theorem clear2 {g i c : Nat} {F : Nat → Int} {W : World} (hi : i < 8) (h : IRow g 16 F W) :
    Sem.run Try.prog (Builtin.clear_ #[32] 0 #[.slice (some ⟨g, i * 2, none⟩) (8 - i) c]) W = .ok (.tuple #[]) (W.setCells g (i * 2) (List.replicate ((8 - i) * 2) (.int .i64 0))) := by
  have hv : ∀ W, Sem.run Try.prog (zeroValue 29) W = .ok (.agg #[.int .i64 0, .int .i64 0]) W := fun W => rfl
  have hst := run_storeCells_cells (P := Try.prog) g (i * 2) (List.replicate ((8 - i) * 2) (.int .i64 0)) 0 W
    (fun j hj => by rw [List.length_replicate] at hj; rw [h.at (i * 2 + 0 + j) (by omega)]; rfl)
    (fun j hj => by rw [List.length_replicate] at hj; exact h.free (i * 2 + 0 + j) (by omega))
    (fun v hv => by rw [List.eq_of_mem_replicate hv]; rfl)
  simp only [Nat.add_zero] at hst
  obtain ⟨m, hm⟩ : ∃ m, 8 - i = m + 1 := ⟨8 - i - 1, by omega⟩
  rw [hm] at hst ⊢
  have hz := zeros2 (m + 1)
  have ht := Try.underlying32
  simp [Builtin.clear_, run_underlying ht, hv, Value.cells, hz, hst]
def DelPost (O : Int × Int → Bool) (p q g cap : Nat) (A B C ux uy : Int) (L : List (Int × Int)) (w : World) (e : Ending) (w' : World) : Prop :=
  ∃ N, N = L.filter (fun v => !O v) ∧ e = .returned (.slice (some ⟨g, 0, none⟩) N.length cap) ∧ IRow g (N.length * 2) (intAt (cells2 N)) w' ∧ KW p ux uy w' ∧ Kt q A B C w' ∧ Below g w w'
set_option maxRecDepth 100000 in
set_option maxHeartbeats 8000000 in
theorem deleteFunc_any (p q g cap : Nat) (A B C ux uy : Int) (L : List (Int × Int)) (w : World) (hm : midL L) (hu : midI ux ∧ midI uy) (hl : latI A B C) (h8 : L.length = 8) (hR : IRow g 16 (intAt (cells2 L)) w) (h1 : KW p ux uy w) (h2 : Kt q A B C w) (hpg : p ≠ g) (hqg : q ≠ g) (hc8 : 8 ≤ cap) (hcm : cap ≤ maxLen) :
    Calls Try.prog 36 #[.slice (some ⟨g, 0, none⟩) 8 cap, delV p q] w (DelPost (outP A B C ux uy) p q g cap A B C ux uy L w) := by
  go_enter Try.func36, Try.ntmps36
  go_wp2_with fail
  refine (indexFunc_any p q g cap A B C ux uy L _ hm hu hl h8 hR h1 h2).mono ?_
  rintro e w2 ⟨⟨k, hk, rfl, ho, hb⟩ | ⟨rfl, ho⟩, hb2⟩
  · have hk2 : ¬ ((k : Int) = -1) := by omega
    have hk3 : IntKind.i64.wrap ((k : Int) + 1) = (k : Int) + 1 := IntWalk.i64_in _ (by omega)
    have hk4 : k + 1 ≤ 8 := by omega
    have hk5 : ((k : Int) == -1) = false := beq_eq_false_iff_ne.2 hk2
    have HC8 := Lib.hid hc8
    have HCM := Lib.hid hcm
    clear hcm
    have C0 := Lib.hid (Cmp.start h8 hk ho hb)
    have R0 := hR.call hb2
    have K0 := h1.call hb2
    have J0 := h2.call hb2
    have B0 : Below g w w2 := hb2.mono (by have := hR.1; omega)
    have HM := Lib.hid hm
    have HU := Lib.hid hu
    have HI := Lib.hid hl
    have H8 := Lib.hid h8
    clear hR h1 h2 hb2 hm hu hl ho hb h8 hk
    go_wp2_with fail
    go_loopw [5, 6] (fun si sj W => ∃ (i j : Nat) (M : List (Int × Int)), si = .int .i64 (i : Int) ∧ sj = .int .i64 (j : Int) ∧ j ≤ 8 ∧ Hid (Cmp (outP A B C ux uy) L M i j) ∧ IRow g 16 (intAt (cells2 M)) W ∧ KW p ux uy W ∧ Kt q A B C W ∧ Below g w W) (fun _ sj _ => 8 - (intOf sj).toNat)
    case atStart => exact ⟨k, k + 1, L, rfl, by go_num, hk4, C0, R0, K0, J0, B0⟩
    case round =>
      clear C0 R0 K0 J0 B0 hk2 hk3 hk4
      obtain ⟨i, j, M, rfl, rfl, hj, hC, hR, hK, hJ, hB⟩ := hrel
      by_cases hj1 : j < 8
      · have hj2 : (j : Int) < 8 := by omega
        have hj3 : (0 : Int) ≤ (j : Int) := by omega
        have hjL : j < L.length := by have := H8.out; omega
        have hjM : j < M.length := by have := hC.out.len; omega
        have q1 := hR.ko2 (j * 2) (by omega)
        rw [(at2 hjM).1, (at2 hjM).2, hC.out.post j hjM hjL (Nat.le_refl _)] at q1
        have CL := Lib.hid (fun W h1 h2 => closure_any p q A B C ux uy L[j].1 L[j].2 W (HM.out _ (List.getElem_mem hjL)) HU.out HI.out h1 h2)
        have HS : Hid (outP A B C ux uy L[j] = true → Cmp (outP A B C ux uy) L M i (j + 1)) := Lib.hid (fun h => hC.out.skip hjL h)
        have HKp : Hid (outP A B C ux uy L[j] = false → Cmp (outP A B C ux uy) L (M.set i L[j]) (i + 1) (j + 1)) := Lib.hid (fun h => hC.out.keep hjL H8.out h)
        have HIJ := Lib.hid (show i < 8 ∧ M.length = 8 by have := hC.out.ij; have := hC.out.len; omega)
        have HJ := Lib.hid hj1
        generalize L[j] = v at q1 CL HS HKp
        obtain ⟨x, y⟩ := v
        simp only at q1 CL
        obtain ⟨q10, q11, q12⟩ := id q1
        have X3 : KW wr.heap.size x y (wr.alloc (.cells #[.int .i64 x, .int .i64 y] 29)) := KW.at _ rfl
        have K3 : KW p ux uy (wr.alloc (.cells #[.int .i64 x, .int .i64 y] 29)) := hK.alloc _
        have J3 : Kt q A B C (wr.alloc (.cells #[.int .i64 x, .int .i64 y] 29)) := hJ.alloc _
        have R3 := hR.call ((Below.refl _ _).alloc (Nat.le_refl _) (.cells #[.int .i64 x, .int .i64 y] 29))
        have B3 : Below g w (wr.alloc (.cells #[.int .i64 x, .int .i64 y] 29)) := hB.alloc (by have := hR.1; omega) _
        have hgz := hR.1
        clear hj hj1 hjL hjM hR hK hJ hB hC
        obtain ⟨x0, x1, x2, x3, x4⟩ := id X3
        go_wp2_with fail
        refine (CL.out _ K3 J3).mono ?_
        rintro e w4 ⟨rfl, hb4⟩
        have X4 := X3.call hb4
        have K4 := K3.call hb4
        have J4 := J3.call hb4
        have R4 := R3.call hb4
        have B4 : Below g w w4 := B3.trans (hb4.mono (by simp; omega))
        clear X3 K3 J3 R3 B3 hb4 x0 x1 x2 x3 x4 CL q1 q10 q11 q12
        generalize outP A B C ux uy (x, y) = o at HS HKp
        rcases o with _ | _
        · have HQ := Lib.hid (HKp.out rfl)
          obtain ⟨x0, x1, x2, x3, x4⟩ := id X4
          obtain ⟨hi8, hM8⟩ := HIJ.out
          have s0 := R4.at (i * 2) (by omega)
          have s1 := R4.at (i * 2 + 1) (by omega)
          have s2 := R4.free (i * 2) (by omega)
          have s3 := R4.free (i * 2 + 1) (by omega)
          have hi2 : (i : Int) < 8 := by omega
          have hi3 : (0 : Int) ≤ (i : Int) := by omega
          clear HS HKp
          have R5 := row_set (x := x) (y := y) hM8 hi8 R4
          have K5 : KW p ux uy ((w4.setCell ⟨g, i * 2, none⟩ (.int .i64 x)).setCell ⟨g, i * 2 + 1, none⟩ (.int .i64 y)) := KW.far (fun h => hpg h.symm) (KW.far (fun h => hpg h.symm) K4)
          have J5 : Kt q A B C ((w4.setCell ⟨g, i * 2, none⟩ (.int .i64 x)).setCell ⟨g, i * 2 + 1, none⟩ (.int .i64 y)) := KtFar (fun h => hqg h.symm) (KtFar (fun h => hqg h.symm) J4)
          have B5 : Below g w ((w4.setCell ⟨g, i * 2, none⟩ (.int .i64 x)).setCell ⟨g, i * 2 + 1, none⟩ (.int .i64 y)) := Below.setCell (p := ⟨g, i * 2 + 1, none⟩) (Below.setCell (p := ⟨g, i * 2, none⟩) B4 (Nat.le_refl _) _) (Nat.le_refl _) _
          go_wp2
          have hj1 := HJ.out
          go_roundw
          case rel => exact ⟨i + 1, j + 1, M.set i (x, y), by go_num, by go_num, by omega, HQ, R5, K5, J5, B5⟩
          case measure => first | (simp [intOf]; done) | (simp [intOf]; omega)
        · have HQ := Lib.hid (HS.out rfl)
          clear HS HKp X4
          go_wp2
          have hj1 := HJ.out
          go_roundw
          case rel => exact ⟨i, j + 1, M, rfl, by go_num, by omega, HQ, R4, K4, J4, B4⟩
          case measure => first | (simp [intOf]; done) | (simp [intOf]; omega)
      · obtain rfl : j = 8 := by omega
        have hi8 : i < 8 := hC.out.ij
        have hM8 := hC.out.len
        have hcl := fun c => clear2 (c := c) hi8 hR
        have R5 := row_pre (List.replicate ((8 - i) * 2) (.int .i64 0)) hM8 hi8 hR
        have K5 : KW p ux uy (wr.setCells g (i * 2) (List.replicate ((8 - i) * 2) (.int .i64 0))) := hK.setS hpg
        have J5 : Kt q A B C (wr.setCells g (i * 2) (List.replicate ((8 - i) * 2) (.int .i64 0))) := hJ.setS hqg
        have B5 : Below g w (wr.setCells g (i * 2) (List.replicate ((8 - i) * 2) (.int .i64 0))) := belowS g (Nat.le_refl _) _ _ hB
        have hN := Lib.hid (show M.take i = L.filter (fun v => !outP A B C ux uy v) from hC.out.done H8.out)
        have hn : (M.take i).length = i := by rw [List.length_take]; omega
        rw [hn] at R5
        have hi2 : (i : Int) ≤ 8 := by omega
        have hi3 : (0 : Int) ≤ (i : Int) := by omega
        have hi4 : ¬ (cap = i) := by omega
        have hi5 : (i : Int) ≤ (cap : Int) := by omega
        have hi6 : ¬ (cap = 0) := by omega
        clear hK hJ hB hC hj hj1
        go_wp2
        go_ret
        exact ⟨M.take i, hN.out, by rw [hn]; rfl, by rw [hn]; exact R5, K5, J5, B5⟩
  · have HF : Hid (L = L.filter (fun v => !outP A B C ux uy v)) := Lib.hid (by rw [List.filter_eq_self.2 (fun v hv => by rw [ho v hv]; rfl)])
    have R0 := hR.call hb2
    have K0 := h1.call hb2
    have J0 := h2.call hb2
    have B0 : Below g w w2 := hb2.mono (by have := hR.1; omega)
    clear hm hu hl ho hR h1 h2 hb2
    go_wp2
    go_ret
    exact ⟨L, HF.out, by rw [h8]; rfl, by rw [h8]; exact R0, K0, J0, B0⟩
end Go.Proofs.Ytapfjmmlogcmkaa
