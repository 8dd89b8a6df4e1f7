/-
  Contracts of chapter 4: which matrices keep norms, point matrices, norms; the walks of the exact laws of NormOf and IsPointMat. Conditions: those stated.
-/
import Derived.Test.YtodkomaeljbhaaaFrN
import Derived.Test.YtodkomaeljbhaaaMat1
import Derived.Test.YtodkomaeljbhaaaKeep2
namespace Go.Proofs.Ytodkomaeljbhaaa
open Go.RowKit
set_option linter.unusedSimpArgs false
set_option linter.unusedVariables false

theorem ahead_f {f : Int} (hf : frB f = true) : ∀ w, (nilAhead 233 (planeT f) (.agg #[]) "loop.example/g00943/impl.norm").run Try.prog w = .ok (some false) w := by
  rcases frB_iff.1 hf with rfl | rfl
  · intro w; rw [planeT_0]; kernel_rfl
  · intro w; rw [planeT_1]; kernel_rfl
def keepB (f a b c d : Int) : Bool := nrmI f a c == 1 && (nrmI f b d == 1 && nrmI f (a + b) (c + d) == 2 + f)
theorem lim_mid {a b c d : Int} (h : limB a b c d = true) : (midI a ∧ midI b ∧ midI c ∧ midI d) ∧ (midI (a + b) ∧ midI (c + d)) := by
  have := limB_bd h
  unfold midI; omega
theorem nrm_10 (f : Int) : nrmI f 1 0 = 1 := by simp [nrmI]
theorem nrm_01 (f : Int) : nrmI f 0 1 = 1 := by simp [nrmI]
theorem nrm_11 (f : Int) : nrmI f 1 1 = 2 + f := by unfold nrmI; omega
theorem app10 (a b c d : Int) (w : World) (h : limB a b c d = true) :
    Calls Try.prog 74 #[.agg #[.int .i64 a, .int .i64 b, .int .i64 c, .int .i64 d], .agg #[.int .i64 1, .int .i64 0]] w fun e w' => e = .returned (.agg #[.int .i64 a, .int .i64 c]) ∧ Below w.heap.size w w' := by
  have := apply_any a b c d 1 0 w h (by decide)
  simpa using this
theorem norm10 (f : Int) (w : World) (hf : frB f = true) :
    Calls Try.prog (normF f) #[.agg #[], .agg #[.int .i64 1, .int .i64 0]] w fun e w' => e = .returned (.int .i64 (1)) ∧ Below w.heap.size w w' := by
  have := norm_any f 1 0 w hf (by unfold midI; omega) (by unfold midI; omega)
  rwa [nrm_10] at this
theorem app01 (a b c d : Int) (w : World) (h : limB a b c d = true) :
    Calls Try.prog 74 #[.agg #[.int .i64 a, .int .i64 b, .int .i64 c, .int .i64 d], .agg #[.int .i64 0, .int .i64 1]] w fun e w' => e = .returned (.agg #[.int .i64 b, .int .i64 d]) ∧ Below w.heap.size w w' := by
  have := apply_any a b c d 0 1 w h (by decide)
  simpa using this
theorem norm01 (f : Int) (w : World) (hf : frB f = true) :
    Calls Try.prog (normF f) #[.agg #[], .agg #[.int .i64 0, .int .i64 1]] w fun e w' => e = .returned (.int .i64 (1)) ∧ Below w.heap.size w w' := by
  have := norm_any f 0 1 w hf (by unfold midI; omega) (by unfold midI; omega)
  rwa [nrm_01] at this
theorem app11 (a b c d : Int) (w : World) (h : limB a b c d = true) :
    Calls Try.prog 74 #[.agg #[.int .i64 a, .int .i64 b, .int .i64 c, .int .i64 d], .agg #[.int .i64 1, .int .i64 1]] w fun e w' => e = .returned (.agg #[.int .i64 (a + b), .int .i64 (c + d)]) ∧ Below w.heap.size w w' := by
  have := apply_any a b c d 1 1 w h (by decide)
  simpa using this
theorem norm11 (f : Int) (w : World) (hf : frB f = true) :
    Calls Try.prog (normF f) #[.agg #[], .agg #[.int .i64 1, .int .i64 1]] w fun e w' => e = .returned (.int .i64 (2 + f)) ∧ Below w.heap.size w w' := by
  have := norm_any f 1 1 w hf (by unfold midI; omega) (by unfold midI; omega)
  rwa [nrm_11] at this
def KeepAt (f a b c d k : Int) : Prop :=
  k = 0 ∨ (k = 1 ∧ (nrmI f a c == 1) = true) ∨ (k = 2 ∧ (nrmI f a c == 1) = true ∧ (nrmI f b d == 1) = true) ∨ (k = 3 ∧ keepB f a b c d = true)
set_option maxHeartbeats 4000000 in
theorem keeps_any (f a b c d : Int) (w : World) (hf : frB f = true) (h : limB a b c d = true) :
    Calls Try.prog 76 #[.iface (planeT f) (.agg #[]), .agg #[.int .i64 a, .int .i64 b, .int .i64 c, .int .i64 d]] w fun e w' => e = .returned (.bool (keepB f a b c d)) ∧ Below w.heap.size w w' := by
  have hm := meth_f hf
  have he := ent_f hf
  have hah := ahead_f hf
  have HL := Lib.hid (lim_mid h)
  have hf01 : f = 0 ∨ f = 1 := frB_iff.1 hf
  go_enter Try.func76, Try.ntmps76
  go_wp2_with fail
  go_loopw [11] (fun i W => ∃ k : Int, i = .int .i64 k ∧ Hid (KeepAt f a b c d k) ∧ Kq w.heap.size a b c d W ∧ Below w.heap.size w W) (fun i _ => (3 - intOf i).toNat)
  case atStart => exact ⟨0, rfl, .inl rfl, Kq.at _ rfl, (Below.refl _ _).alloc (Nat.le_refl _) _⟩
  case round =>
    obtain ⟨k, rfl, hk, hK, hB⟩ := hrel
    have hz := hB.size
    have zk := hK.1
    rcases hk.out with rfl | ⟨rfl, h0⟩ | ⟨rfl, h0, h1⟩ | ⟨rfl, h0⟩
    · clear hk
      have ix : ∀ w : World, (Instr.index 114 (.agg #[.int .i64 1, .int .i64 0, .int .i64 0, .int .i64 1, .int .i64 1, .int .i64 1]) (.int .i64 0)).run Try.prog w = .ok (.agg #[.int .i64 1, .int .i64 0]) w := fun _ => by kernel_rfl
      have K1 : Kq w.heap.size a b c d (wr.alloc (.cells #[.int .i64 1, .int .i64 0] 34)) := hK.alloc _
      have V1 : Kg wr.heap.size 1 0 (wr.alloc (.cells #[.int .i64 1, .int .i64 0] 34)) := Kg.at2 _ rfl
      have B1 : Below w.heap.size w (wr.alloc (.cells #[.int .i64 1, .int .i64 0] 34)) := hB.alloc hz _
      clear hK hB
      have HX : ∀ hx : Bool, (nrmI f a c == 1) = hx → (nrmI f a c != 1) = !hx := by rintro hx rfl; rfl
      rcases hx : (nrmI f a c == 1) with _ | _
      · have hq := HX _ hx
        have HX1 := Lib.hid hx
        clear hx HX
        simp only [Bool.not_false, Bool.not_true] at hq
        go_wp2_with fail
        go_region_held3 (fun W => (W.cell? ⟨w.heap.size, 0, none⟩ = some (.int .i64 a) ∧ W.cell? ⟨w.heap.size, 1, none⟩ = some (.int .i64 b) ∧ W.cell? ⟨w.heap.size, 2, none⟩ = some (.int .i64 c) ∧ W.cell? ⟨w.heap.size, 3, none⟩ = some (.int .i64 d)) ∧ (W.cell? ⟨wr.heap.size, 0, none⟩ = some (.int .i64 1) ∧ W.cell? ⟨wr.heap.size, 1, none⟩ = some (.int .i64 0))) ((refine ⟨Kq.cells ?_, Kg.cells ?_⟩; (repeat (first | assumption | with_reducible refine Kq.alloc ?_ _ | with_reducible refine Kq.drew ?_ | with_reducible refine Kq.call ?_ (by assumption))); (repeat (first | assumption | with_reducible refine Kg.alloc ?_ _ | with_reducible refine Kg.drew ?_ | with_reducible refine Kg.call ?_ (by assumption)))))
          (first
            | (go_at_call 74; refine (app10 a b c d _ h).mono ?_; rintro e u1 ⟨rfl, hb1⟩; have K2 : Kq w.heap.size a b c d u1 := (by repeat (first | assumption | with_reducible refine Kq.alloc ?_ _ | with_reducible refine Kq.drew ?_ | with_reducible refine Kq.call ?_ (by assumption))); have V2 : Kg wr.heap.size 1 0 u1 := (by repeat (first | assumption | with_reducible refine Kg.alloc ?_ _ | with_reducible refine Kg.drew ?_ | with_reducible refine Kg.call ?_ (by assumption))); have B2 : Below w.heap.size w u1 := (by repeat (first | assumption | exact Below.refl _ _ | refine Below.setCell ?_ (by first | omega | (simp <;> omega)) _ | refine Below.alloc ?_ (by first | omega | (simp <;> omega)) _ | refine bstep ?_ (by assumption) | refine Below.drew ?_)))
            | (with_reducible refine (norm10 f _ hf).mono ?_; rintro e u3 ⟨rfl, hb3⟩; have K4 : Kq w.heap.size a b c d u3 := (by repeat (first | assumption | with_reducible refine Kq.alloc ?_ _ | with_reducible refine Kq.drew ?_ | with_reducible refine Kq.call ?_ (by assumption))); have V4 : Kg wr.heap.size 1 0 u3 := (by repeat (first | assumption | with_reducible refine Kg.alloc ?_ _ | with_reducible refine Kg.drew ?_ | with_reducible refine Kg.call ?_ (by assumption))); have B4 : Below w.heap.size w u3 := (by repeat (first | assumption | exact Below.refl _ _ | refine Below.setCell ?_ (by first | omega | (simp <;> omega)) _ | refine Below.alloc ?_ (by first | omega | (simp <;> omega)) _ | refine bstep ?_ (by assumption) | refine Below.drew ?_)))
            | (with_reducible refine (norm_any f _ _ _ hf (HL.out.1.1) (HL.out.1.2.2.1)).mono ?_; rintro e u2 ⟨rfl, hb2⟩; have K3 : Kq w.heap.size a b c d u2 := (by repeat (first | assumption | with_reducible refine Kq.alloc ?_ _ | with_reducible refine Kq.drew ?_ | with_reducible refine Kq.call ?_ (by assumption))); have V3 : Kg wr.heap.size 1 0 u2 := (by repeat (first | assumption | with_reducible refine Kg.alloc ?_ _ | with_reducible refine Kg.drew ?_ | with_reducible refine Kg.call ?_ (by assumption))); have B3 : Below w.heap.size w u2 := (by repeat (first | assumption | exact Below.refl _ _ | refine Below.setCell ?_ (by first | omega | (simp <;> omega)) _ | refine Below.alloc ?_ (by first | omega | (simp <;> omega)) _ | refine bstep ?_ (by assumption) | refine Below.drew ?_))))
        all_goals
          have hx := HX1.out
          go_wp2
          go_ret
          refine ⟨ret_bool (Eq.symm (show keepB f a b c d = false by simp [keepB, hx])), ?_⟩
          repeat (first | assumption | exact Below.refl _ _ | refine Below.setCell ?_ (by first | omega | (simp <;> omega)) _ | refine Below.alloc ?_ (by first | omega | (simp <;> omega)) _ | refine bstep ?_ (by assumption) | refine Below.drew ?_)
      · have hq := HX _ hx
        have HX1 := Lib.hid hx
        clear hx HX
        simp only [Bool.not_false, Bool.not_true] at hq
        go_wp2_with fail
        go_region_held3 (fun W => (W.cell? ⟨w.heap.size, 0, none⟩ = some (.int .i64 a) ∧ W.cell? ⟨w.heap.size, 1, none⟩ = some (.int .i64 b) ∧ W.cell? ⟨w.heap.size, 2, none⟩ = some (.int .i64 c) ∧ W.cell? ⟨w.heap.size, 3, none⟩ = some (.int .i64 d)) ∧ (W.cell? ⟨wr.heap.size, 0, none⟩ = some (.int .i64 1) ∧ W.cell? ⟨wr.heap.size, 1, none⟩ = some (.int .i64 0))) ((refine ⟨Kq.cells ?_, Kg.cells ?_⟩; (repeat (first | assumption | with_reducible refine Kq.alloc ?_ _ | with_reducible refine Kq.drew ?_ | with_reducible refine Kq.call ?_ (by assumption))); (repeat (first | assumption | with_reducible refine Kg.alloc ?_ _ | with_reducible refine Kg.drew ?_ | with_reducible refine Kg.call ?_ (by assumption)))))
          (first
            | (go_at_call 74; refine (app10 a b c d _ h).mono ?_; rintro e u1 ⟨rfl, hb1⟩; have K2 : Kq w.heap.size a b c d u1 := (by repeat (first | assumption | with_reducible refine Kq.alloc ?_ _ | with_reducible refine Kq.drew ?_ | with_reducible refine Kq.call ?_ (by assumption))); have V2 : Kg wr.heap.size 1 0 u1 := (by repeat (first | assumption | with_reducible refine Kg.alloc ?_ _ | with_reducible refine Kg.drew ?_ | with_reducible refine Kg.call ?_ (by assumption))); have B2 : Below w.heap.size w u1 := (by repeat (first | assumption | exact Below.refl _ _ | refine Below.setCell ?_ (by first | omega | (simp <;> omega)) _ | refine Below.alloc ?_ (by first | omega | (simp <;> omega)) _ | refine bstep ?_ (by assumption) | refine Below.drew ?_)))
            | (with_reducible refine (norm10 f _ hf).mono ?_; rintro e u3 ⟨rfl, hb3⟩; have K4 : Kq w.heap.size a b c d u3 := (by repeat (first | assumption | with_reducible refine Kq.alloc ?_ _ | with_reducible refine Kq.drew ?_ | with_reducible refine Kq.call ?_ (by assumption))); have V4 : Kg wr.heap.size 1 0 u3 := (by repeat (first | assumption | with_reducible refine Kg.alloc ?_ _ | with_reducible refine Kg.drew ?_ | with_reducible refine Kg.call ?_ (by assumption))); have B4 : Below w.heap.size w u3 := (by repeat (first | assumption | exact Below.refl _ _ | refine Below.setCell ?_ (by first | omega | (simp <;> omega)) _ | refine Below.alloc ?_ (by first | omega | (simp <;> omega)) _ | refine bstep ?_ (by assumption) | refine Below.drew ?_)))
            | (with_reducible refine (norm_any f _ _ _ hf (HL.out.1.1) (HL.out.1.2.2.1)).mono ?_; rintro e u2 ⟨rfl, hb2⟩; have K3 : Kq w.heap.size a b c d u2 := (by repeat (first | assumption | with_reducible refine Kq.alloc ?_ _ | with_reducible refine Kq.drew ?_ | with_reducible refine Kq.call ?_ (by assumption))); have V3 : Kg wr.heap.size 1 0 u2 := (by repeat (first | assumption | with_reducible refine Kg.alloc ?_ _ | with_reducible refine Kg.drew ?_ | with_reducible refine Kg.call ?_ (by assumption))); have B3 : Below w.heap.size w u2 := (by repeat (first | assumption | exact Below.refl _ _ | refine Below.setCell ?_ (by first | omega | (simp <;> omega)) _ | refine Below.alloc ?_ (by first | omega | (simp <;> omega)) _ | refine bstep ?_ (by assumption) | refine Below.drew ?_))))
        all_goals
          have hx := HX1.out
          go_wp2
          go_roundw
          case rel => exact ⟨1, rfl, .inr (.inl ⟨rfl, hx⟩), by assumption, by assumption⟩
          case measure => simp [intOf]
    · clear hk
      have ix : ∀ w : World, (Instr.index 114 (.agg #[.int .i64 1, .int .i64 0, .int .i64 0, .int .i64 1, .int .i64 1, .int .i64 1]) (.int .i64 1)).run Try.prog w = .ok (.agg #[.int .i64 0, .int .i64 1]) w := fun _ => by kernel_rfl
      have K1 : Kq w.heap.size a b c d (wr.alloc (.cells #[.int .i64 0, .int .i64 1] 34)) := hK.alloc _
      have V1 : Kg wr.heap.size 0 1 (wr.alloc (.cells #[.int .i64 0, .int .i64 1] 34)) := Kg.at2 _ rfl
      have B1 : Below w.heap.size w (wr.alloc (.cells #[.int .i64 0, .int .i64 1] 34)) := hB.alloc hz _
      clear hK hB
      have HX : ∀ hx : Bool, (nrmI f b d == 1) = hx → (nrmI f b d != 1) = !hx := by rintro hx rfl; rfl
      rcases hx : (nrmI f b d == 1) with _ | _
      · have hq := HX _ hx
        have HX1 := Lib.hid hx
        clear hx HX
        simp only [Bool.not_false, Bool.not_true] at hq
        go_wp2_with fail
        go_region_held3 (fun W => (W.cell? ⟨w.heap.size, 0, none⟩ = some (.int .i64 a) ∧ W.cell? ⟨w.heap.size, 1, none⟩ = some (.int .i64 b) ∧ W.cell? ⟨w.heap.size, 2, none⟩ = some (.int .i64 c) ∧ W.cell? ⟨w.heap.size, 3, none⟩ = some (.int .i64 d)) ∧ (W.cell? ⟨wr.heap.size, 0, none⟩ = some (.int .i64 0) ∧ W.cell? ⟨wr.heap.size, 1, none⟩ = some (.int .i64 1))) ((refine ⟨Kq.cells ?_, Kg.cells ?_⟩; (repeat (first | assumption | with_reducible refine Kq.alloc ?_ _ | with_reducible refine Kq.drew ?_ | with_reducible refine Kq.call ?_ (by assumption))); (repeat (first | assumption | with_reducible refine Kg.alloc ?_ _ | with_reducible refine Kg.drew ?_ | with_reducible refine Kg.call ?_ (by assumption)))))
          (first
            | (go_at_call 74; refine (app01 a b c d _ h).mono ?_; rintro e u1 ⟨rfl, hb1⟩; have K2 : Kq w.heap.size a b c d u1 := (by repeat (first | assumption | with_reducible refine Kq.alloc ?_ _ | with_reducible refine Kq.drew ?_ | with_reducible refine Kq.call ?_ (by assumption))); have V2 : Kg wr.heap.size 0 1 u1 := (by repeat (first | assumption | with_reducible refine Kg.alloc ?_ _ | with_reducible refine Kg.drew ?_ | with_reducible refine Kg.call ?_ (by assumption))); have B2 : Below w.heap.size w u1 := (by repeat (first | assumption | exact Below.refl _ _ | refine Below.setCell ?_ (by first | omega | (simp <;> omega)) _ | refine Below.alloc ?_ (by first | omega | (simp <;> omega)) _ | refine bstep ?_ (by assumption) | refine Below.drew ?_)))
            | (with_reducible refine (norm01 f _ hf).mono ?_; rintro e u3 ⟨rfl, hb3⟩; have K4 : Kq w.heap.size a b c d u3 := (by repeat (first | assumption | with_reducible refine Kq.alloc ?_ _ | with_reducible refine Kq.drew ?_ | with_reducible refine Kq.call ?_ (by assumption))); have V4 : Kg wr.heap.size 0 1 u3 := (by repeat (first | assumption | with_reducible refine Kg.alloc ?_ _ | with_reducible refine Kg.drew ?_ | with_reducible refine Kg.call ?_ (by assumption))); have B4 : Below w.heap.size w u3 := (by repeat (first | assumption | exact Below.refl _ _ | refine Below.setCell ?_ (by first | omega | (simp <;> omega)) _ | refine Below.alloc ?_ (by first | omega | (simp <;> omega)) _ | refine bstep ?_ (by assumption) | refine Below.drew ?_)))
            | (with_reducible refine (norm_any f _ _ _ hf (HL.out.1.2.1) (HL.out.1.2.2.2)).mono ?_; rintro e u2 ⟨rfl, hb2⟩; have K3 : Kq w.heap.size a b c d u2 := (by repeat (first | assumption | with_reducible refine Kq.alloc ?_ _ | with_reducible refine Kq.drew ?_ | with_reducible refine Kq.call ?_ (by assumption))); have V3 : Kg wr.heap.size 0 1 u2 := (by repeat (first | assumption | with_reducible refine Kg.alloc ?_ _ | with_reducible refine Kg.drew ?_ | with_reducible refine Kg.call ?_ (by assumption))); have B3 : Below w.heap.size w u2 := (by repeat (first | assumption | exact Below.refl _ _ | refine Below.setCell ?_ (by first | omega | (simp <;> omega)) _ | refine Below.alloc ?_ (by first | omega | (simp <;> omega)) _ | refine bstep ?_ (by assumption) | refine Below.drew ?_))))
        all_goals
          have hx := HX1.out
          go_wp2
          go_ret
          refine ⟨ret_bool (Eq.symm (show keepB f a b c d = false by simp [keepB, hx])), ?_⟩
          repeat (first | assumption | exact Below.refl _ _ | refine Below.setCell ?_ (by first | omega | (simp <;> omega)) _ | refine Below.alloc ?_ (by first | omega | (simp <;> omega)) _ | refine bstep ?_ (by assumption) | refine Below.drew ?_)
      · have hq := HX _ hx
        have HX1 := Lib.hid hx
        clear hx HX
        simp only [Bool.not_false, Bool.not_true] at hq
        go_wp2_with fail
        go_region_held3 (fun W => (W.cell? ⟨w.heap.size, 0, none⟩ = some (.int .i64 a) ∧ W.cell? ⟨w.heap.size, 1, none⟩ = some (.int .i64 b) ∧ W.cell? ⟨w.heap.size, 2, none⟩ = some (.int .i64 c) ∧ W.cell? ⟨w.heap.size, 3, none⟩ = some (.int .i64 d)) ∧ (W.cell? ⟨wr.heap.size, 0, none⟩ = some (.int .i64 0) ∧ W.cell? ⟨wr.heap.size, 1, none⟩ = some (.int .i64 1))) ((refine ⟨Kq.cells ?_, Kg.cells ?_⟩; (repeat (first | assumption | with_reducible refine Kq.alloc ?_ _ | with_reducible refine Kq.drew ?_ | with_reducible refine Kq.call ?_ (by assumption))); (repeat (first | assumption | with_reducible refine Kg.alloc ?_ _ | with_reducible refine Kg.drew ?_ | with_reducible refine Kg.call ?_ (by assumption)))))
          (first
            | (go_at_call 74; refine (app01 a b c d _ h).mono ?_; rintro e u1 ⟨rfl, hb1⟩; have K2 : Kq w.heap.size a b c d u1 := (by repeat (first | assumption | with_reducible refine Kq.alloc ?_ _ | with_reducible refine Kq.drew ?_ | with_reducible refine Kq.call ?_ (by assumption))); have V2 : Kg wr.heap.size 0 1 u1 := (by repeat (first | assumption | with_reducible refine Kg.alloc ?_ _ | with_reducible refine Kg.drew ?_ | with_reducible refine Kg.call ?_ (by assumption))); have B2 : Below w.heap.size w u1 := (by repeat (first | assumption | exact Below.refl _ _ | refine Below.setCell ?_ (by first | omega | (simp <;> omega)) _ | refine Below.alloc ?_ (by first | omega | (simp <;> omega)) _ | refine bstep ?_ (by assumption) | refine Below.drew ?_)))
            | (with_reducible refine (norm01 f _ hf).mono ?_; rintro e u3 ⟨rfl, hb3⟩; have K4 : Kq w.heap.size a b c d u3 := (by repeat (first | assumption | with_reducible refine Kq.alloc ?_ _ | with_reducible refine Kq.drew ?_ | with_reducible refine Kq.call ?_ (by assumption))); have V4 : Kg wr.heap.size 0 1 u3 := (by repeat (first | assumption | with_reducible refine Kg.alloc ?_ _ | with_reducible refine Kg.drew ?_ | with_reducible refine Kg.call ?_ (by assumption))); have B4 : Below w.heap.size w u3 := (by repeat (first | assumption | exact Below.refl _ _ | refine Below.setCell ?_ (by first | omega | (simp <;> omega)) _ | refine Below.alloc ?_ (by first | omega | (simp <;> omega)) _ | refine bstep ?_ (by assumption) | refine Below.drew ?_)))
            | (with_reducible refine (norm_any f _ _ _ hf (HL.out.1.2.1) (HL.out.1.2.2.2)).mono ?_; rintro e u2 ⟨rfl, hb2⟩; have K3 : Kq w.heap.size a b c d u2 := (by repeat (first | assumption | with_reducible refine Kq.alloc ?_ _ | with_reducible refine Kq.drew ?_ | with_reducible refine Kq.call ?_ (by assumption))); have V3 : Kg wr.heap.size 0 1 u2 := (by repeat (first | assumption | with_reducible refine Kg.alloc ?_ _ | with_reducible refine Kg.drew ?_ | with_reducible refine Kg.call ?_ (by assumption))); have B3 : Below w.heap.size w u2 := (by repeat (first | assumption | exact Below.refl _ _ | refine Below.setCell ?_ (by first | omega | (simp <;> omega)) _ | refine Below.alloc ?_ (by first | omega | (simp <;> omega)) _ | refine bstep ?_ (by assumption) | refine Below.drew ?_))))
        all_goals
          have hx := HX1.out
          go_wp2
          go_roundw
          case rel => exact ⟨2, rfl, .inr (.inr (.inl ⟨rfl, h0, hx⟩)), by assumption, by assumption⟩
          case measure => simp [intOf]
    · clear hk
      have ix : ∀ w : World, (Instr.index 114 (.agg #[.int .i64 1, .int .i64 0, .int .i64 0, .int .i64 1, .int .i64 1, .int .i64 1]) (.int .i64 2)).run Try.prog w = .ok (.agg #[.int .i64 1, .int .i64 1]) w := fun _ => by kernel_rfl
      have K1 : Kq w.heap.size a b c d (wr.alloc (.cells #[.int .i64 1, .int .i64 1] 34)) := hK.alloc _
      have V1 : Kg wr.heap.size 1 1 (wr.alloc (.cells #[.int .i64 1, .int .i64 1] 34)) := Kg.at2 _ rfl
      have B1 : Below w.heap.size w (wr.alloc (.cells #[.int .i64 1, .int .i64 1] 34)) := hB.alloc hz _
      clear hK hB
      have HX : ∀ hx : Bool, (nrmI f (a + b) (c + d) == 2 + f) = hx → (nrmI f (a + b) (c + d) != 2 + f) = !hx := by rintro hx rfl; rfl
      rcases hx : (nrmI f (a + b) (c + d) == 2 + f) with _ | _
      · have hq := HX _ hx
        have HX1 := Lib.hid hx
        clear hx HX
        simp only [Bool.not_false, Bool.not_true] at hq
        go_wp2_with fail
        go_region_held3 (fun W => (W.cell? ⟨w.heap.size, 0, none⟩ = some (.int .i64 a) ∧ W.cell? ⟨w.heap.size, 1, none⟩ = some (.int .i64 b) ∧ W.cell? ⟨w.heap.size, 2, none⟩ = some (.int .i64 c) ∧ W.cell? ⟨w.heap.size, 3, none⟩ = some (.int .i64 d)) ∧ (W.cell? ⟨wr.heap.size, 0, none⟩ = some (.int .i64 1) ∧ W.cell? ⟨wr.heap.size, 1, none⟩ = some (.int .i64 1))) ((refine ⟨Kq.cells ?_, Kg.cells ?_⟩; (repeat (first | assumption | with_reducible refine Kq.alloc ?_ _ | with_reducible refine Kq.drew ?_ | with_reducible refine Kq.call ?_ (by assumption))); (repeat (first | assumption | with_reducible refine Kg.alloc ?_ _ | with_reducible refine Kg.drew ?_ | with_reducible refine Kg.call ?_ (by assumption)))))
          (first
            | (go_at_call 74; refine (app11 a b c d _ h).mono ?_; rintro e u1 ⟨rfl, hb1⟩; have K2 : Kq w.heap.size a b c d u1 := (by repeat (first | assumption | with_reducible refine Kq.alloc ?_ _ | with_reducible refine Kq.drew ?_ | with_reducible refine Kq.call ?_ (by assumption))); have V2 : Kg wr.heap.size 1 1 u1 := (by repeat (first | assumption | with_reducible refine Kg.alloc ?_ _ | with_reducible refine Kg.drew ?_ | with_reducible refine Kg.call ?_ (by assumption))); have B2 : Below w.heap.size w u1 := (by repeat (first | assumption | exact Below.refl _ _ | refine Below.setCell ?_ (by first | omega | (simp <;> omega)) _ | refine Below.alloc ?_ (by first | omega | (simp <;> omega)) _ | refine bstep ?_ (by assumption) | refine Below.drew ?_)))
            | (with_reducible refine (norm11 f _ hf).mono ?_; rintro e u3 ⟨rfl, hb3⟩; have K4 : Kq w.heap.size a b c d u3 := (by repeat (first | assumption | with_reducible refine Kq.alloc ?_ _ | with_reducible refine Kq.drew ?_ | with_reducible refine Kq.call ?_ (by assumption))); have V4 : Kg wr.heap.size 1 1 u3 := (by repeat (first | assumption | with_reducible refine Kg.alloc ?_ _ | with_reducible refine Kg.drew ?_ | with_reducible refine Kg.call ?_ (by assumption))); have B4 : Below w.heap.size w u3 := (by repeat (first | assumption | exact Below.refl _ _ | refine Below.setCell ?_ (by first | omega | (simp <;> omega)) _ | refine Below.alloc ?_ (by first | omega | (simp <;> omega)) _ | refine bstep ?_ (by assumption) | refine Below.drew ?_)))
            | (with_reducible refine (norm_any f _ _ _ hf (HL.out.2.1) (HL.out.2.2)).mono ?_; rintro e u2 ⟨rfl, hb2⟩; have K3 : Kq w.heap.size a b c d u2 := (by repeat (first | assumption | with_reducible refine Kq.alloc ?_ _ | with_reducible refine Kq.drew ?_ | with_reducible refine Kq.call ?_ (by assumption))); have V3 : Kg wr.heap.size 1 1 u2 := (by repeat (first | assumption | with_reducible refine Kg.alloc ?_ _ | with_reducible refine Kg.drew ?_ | with_reducible refine Kg.call ?_ (by assumption))); have B3 : Below w.heap.size w u2 := (by repeat (first | assumption | exact Below.refl _ _ | refine Below.setCell ?_ (by first | omega | (simp <;> omega)) _ | refine Below.alloc ?_ (by first | omega | (simp <;> omega)) _ | refine bstep ?_ (by assumption) | refine Below.drew ?_))))
        all_goals
          have hx := HX1.out
          go_wp2
          go_ret
          refine ⟨ret_bool (Eq.symm (show keepB f a b c d = false by simp only [keepB, hx, Bool.and_false])), ?_⟩
          repeat (first | assumption | exact Below.refl _ _ | refine Below.setCell ?_ (by first | omega | (simp <;> omega)) _ | refine Below.alloc ?_ (by first | omega | (simp <;> omega)) _ | refine bstep ?_ (by assumption) | refine Below.drew ?_)
      · have hq := HX _ hx
        have HX1 := Lib.hid hx
        clear hx HX
        simp only [Bool.not_false, Bool.not_true] at hq
        go_wp2_with fail
        go_region_held3 (fun W => (W.cell? ⟨w.heap.size, 0, none⟩ = some (.int .i64 a) ∧ W.cell? ⟨w.heap.size, 1, none⟩ = some (.int .i64 b) ∧ W.cell? ⟨w.heap.size, 2, none⟩ = some (.int .i64 c) ∧ W.cell? ⟨w.heap.size, 3, none⟩ = some (.int .i64 d)) ∧ (W.cell? ⟨wr.heap.size, 0, none⟩ = some (.int .i64 1) ∧ W.cell? ⟨wr.heap.size, 1, none⟩ = some (.int .i64 1))) ((refine ⟨Kq.cells ?_, Kg.cells ?_⟩; (repeat (first | assumption | with_reducible refine Kq.alloc ?_ _ | with_reducible refine Kq.drew ?_ | with_reducible refine Kq.call ?_ (by assumption))); (repeat (first | assumption | with_reducible refine Kg.alloc ?_ _ | with_reducible refine Kg.drew ?_ | with_reducible refine Kg.call ?_ (by assumption)))))
          (first
            | (go_at_call 74; refine (app11 a b c d _ h).mono ?_; rintro e u1 ⟨rfl, hb1⟩; have K2 : Kq w.heap.size a b c d u1 := (by repeat (first | assumption | with_reducible refine Kq.alloc ?_ _ | with_reducible refine Kq.drew ?_ | with_reducible refine Kq.call ?_ (by assumption))); have V2 : Kg wr.heap.size 1 1 u1 := (by repeat (first | assumption | with_reducible refine Kg.alloc ?_ _ | with_reducible refine Kg.drew ?_ | with_reducible refine Kg.call ?_ (by assumption))); have B2 : Below w.heap.size w u1 := (by repeat (first | assumption | exact Below.refl _ _ | refine Below.setCell ?_ (by first | omega | (simp <;> omega)) _ | refine Below.alloc ?_ (by first | omega | (simp <;> omega)) _ | refine bstep ?_ (by assumption) | refine Below.drew ?_)))
            | (with_reducible refine (norm11 f _ hf).mono ?_; rintro e u3 ⟨rfl, hb3⟩; have K4 : Kq w.heap.size a b c d u3 := (by repeat (first | assumption | with_reducible refine Kq.alloc ?_ _ | with_reducible refine Kq.drew ?_ | with_reducible refine Kq.call ?_ (by assumption))); have V4 : Kg wr.heap.size 1 1 u3 := (by repeat (first | assumption | with_reducible refine Kg.alloc ?_ _ | with_reducible refine Kg.drew ?_ | with_reducible refine Kg.call ?_ (by assumption))); have B4 : Below w.heap.size w u3 := (by repeat (first | assumption | exact Below.refl _ _ | refine Below.setCell ?_ (by first | omega | (simp <;> omega)) _ | refine Below.alloc ?_ (by first | omega | (simp <;> omega)) _ | refine bstep ?_ (by assumption) | refine Below.drew ?_)))
            | (with_reducible refine (norm_any f _ _ _ hf (HL.out.2.1) (HL.out.2.2)).mono ?_; rintro e u2 ⟨rfl, hb2⟩; have K3 : Kq w.heap.size a b c d u2 := (by repeat (first | assumption | with_reducible refine Kq.alloc ?_ _ | with_reducible refine Kq.drew ?_ | with_reducible refine Kq.call ?_ (by assumption))); have V3 : Kg wr.heap.size 1 1 u2 := (by repeat (first | assumption | with_reducible refine Kg.alloc ?_ _ | with_reducible refine Kg.drew ?_ | with_reducible refine Kg.call ?_ (by assumption))); have B3 : Below w.heap.size w u2 := (by repeat (first | assumption | exact Below.refl _ _ | refine Below.setCell ?_ (by first | omega | (simp <;> omega)) _ | refine Below.alloc ?_ (by first | omega | (simp <;> omega)) _ | refine bstep ?_ (by assumption) | refine Below.drew ?_))))
        all_goals
          have hx := HX1.out
          go_wp2
          go_roundw
          case rel => exact ⟨3, rfl, .inr (.inr (.inr ⟨rfl, by simp only [keepB, h0, h1, hx]; rfl⟩)), by assumption, by assumption⟩
          case measure => simp [intOf]
    · have HX1 := Lib.hid h0
      clear h0 hk
      go_wp2
      go_ret
      exact ⟨ret_bool HX1.out.symm, hB⟩
end Go.Proofs.Ytodkomaeljbhaaa
