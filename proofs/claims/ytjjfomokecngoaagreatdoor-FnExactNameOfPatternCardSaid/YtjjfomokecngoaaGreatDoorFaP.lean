/-
 Contracts of chapter 11's small functions in the program: the slide of a shift, the least slide of a lattice, the invariant vector, centred lattices. Conditions: a suitable reflection; a valid lattice.
-/
import Derived.Test.YtjjfomokecngoaaGreatDoorFaF
import Derived.Test.YtjjfomokecngoaaGreatDoorGc
import Derived.Test.YtjjfomokecngoaaGreatDoorHg
import Derived.Test.YtjjfomokecngoaaGreatDoorGb
import Derived.Test.YtjjfomokecngoaaGreatDoorGf
import Derived.Test.YtjjfomokecngoaaGreatDoorGi
import Derived.Deep.RegionHeld3
import Derived.IntWalk
import Derived.LoopTactic
namespace Go.Proofs.YtjjfomokecngoaaGreatDoor
open Go.RowKit
set_option linter.unusedSimpArgs false
set_option linter.unusedVariables false

def eqV2F (a b a' b' : Int) : Bool := a == a' && b == b'
theorem eqVeF (a b a' b' : Int) (w : World) : (Op.equalIn 10000 63 (.agg #[.int .i64 a, .int .i64 b]) (.agg #[.int .i64 a', .int .i64 b'])).run Tryz.prog w = .ok (eqV2F a b a' b') w := by
 have hu := Tryz.underlying63
 rw [show (10000 : Nat) = 9999 + 1 from rfl, run_equalIn_struct _ _ _ _ _ (by simp only [Program.fieldsOf, hu]) (by kernel_rfl)]
 simp only [Program.fieldsOf, hu]
 have u3 := Tryz.underlying2
 have a3 := Tryz.isAgg2
 have z3 := Tryz.sizeOf2
 unfold eqV2F
 rcases h1 : (a == a') with _ | _ <;> rcases h2 : (b == b') with _ | _ <;> go_simp <;> simp_all
attribute [local go_sem ↓] eqVeF
theorem plusF_any (x y x' y' : Int) (w : World) (h1 : midI (x + x')) (h2 : midI (y + y')) :
  Calls Tryz.prog 154 #[.agg #[.int .i64 x, .int .i64 y], .agg #[.int .i64 x', .int .i64 y']] w fun e w' => e = .returned (.agg #[.int .i64 (x + x'), .int .i64 (y + y')]) ∧ Below w.heap.size w w' := plusBig_any x y x' y' w (by unfold midI at h1; unfold bigI; omega) (by unfold midI at h2; unfold bigI; omega)
theorem axisF_any (a b c d p q : Int) (w : World) (h : matB a b c d = true) (hr : reflB a b c d = true) (ha : axP a b c d = (p, q)) :
  Calls Tryz.prog 153 #[.agg #[.int .i64 a, .int .i64 b, .int .i64 c, .int .i64 d]] w fun e w' => e = .returned (.agg #[.int .i64 p, .int .i64 q]) ∧ Below w.heap.size w w' := by
 have := axis_any a b c d w h hr
 unfold axVal at this
 rw [ha] at this
 exact this
def SldCut (w : World) (a b c d p q x y : Int) (s5 s6 : Value) (wx : World) : Prop :=
 ∃ g0 g1 : Nat, s5 = .pointer (some ⟨g0, 0, none⟩) ∧ s6 = .pointer (some ⟨g1, 0, none⟩) ∧ KV g0 p q wx ∧ KV g1 (a * x + b * y + x) (c * x + d * y + y) wx ∧ Kq (w.heap.size) a b c d wx ∧ Kg (w.heap.size + 1) x y wx ∧ w.heap.size + 1 + 1 ≤ g0 ∧ w.heap.size + 1 + 1 ≤ g1 ∧ Below w.heap.size w wx
set_option maxRecDepth 100000 in
set_option maxHeartbeats 8000000 in
theorem slide_any (a b c d p q x y : Int) (w : World) (h : matB a b c d = true) (hr : reflB a b c d = true) (hax : axP a b c d = (p, q)) (hs : ((-1 ≤ a ∧ a ≤ 1) ∧ (-1 ≤ b ∧ b ≤ 1)) ∧ ((-1 ≤ c ∧ c ≤ 1) ∧ (-1 ≤ d ∧ d ≤ 1))) (hv : vecB x y = true) :
  Calls Tryz.prog 162 #[.agg #[.int .i64 a, .int .i64 b, .int .i64 c, .int .i64 d], .agg #[.int .i64 x, .int .i64 y]] w fun e w' => e = .returned (.int .i64 (sld a b c d p q x y)) ∧ Below w.heap.size w w' := by
  have hb := vecB_bd hv
  have q1 := small_sum (x := x) (y := y) (z := x) (M := 1000) hs.1.1 hs.1.2 (by omega) (by omega) (by omega)
  have q2 := small_sum (x := x) (y := y) (z := y) (M := 1000) hs.2.1 hs.2.2 (by omega) (by omega) (by omega)
  have HQ := Lib.hid (show midI (a * x + b * y + x) ∧ midI (c * x + d * y + y) from ⟨by unfold midI; omega, by unfold midI; omega⟩)
  have HTD := Lib.hid (show ∀ g : Int, (-3000 ≤ (a * x + b * y + x).tdiv g ∧ (a * x + b * y + x).tdiv g ≤ 3000) ∧ (-3000 ≤ (c * x + d * y + y).tdiv g ∧ (c * x + d * y + y).tdiv g ≤ 3000) from fun g => by
   have e1 : ((a * x + b * y + x).tdiv g).natAbs ≤ (a * x + b * y + x).natAbs := by rw [Int.natAbs_tdiv]; exact Nat.div_le_self _ _
   have e2 : ((c * x + d * y + y).tdiv g).natAbs ≤ (c * x + d * y + y).natAbs := by rw [Int.natAbs_tdiv]; exact Nat.div_le_self _ _
   omega)
  have HPQ := Lib.hid (show ¬ (p = 0 ∧ q = 0) from by have := prim_ne (axP_rax hr (refl_neg hr)).one; rw [hax] at this; exact this)
  have HAX := Lib.hid hax
  have HM := Lib.hid h
  have HR := Lib.hid hr
  have HV := Lib.hid hv
  clear hb q1 q2 hax h hr hv hs
  have M0 : Kq (w.heap.size) a b c d ((w.alloc (.cells #[.int .i64 a, .int .i64 b, .int .i64 c, .int .i64 d] 133)).alloc (.cells #[.int .i64 x, .int .i64 y] 63)) := ((Kq.at (w.heap.size) rfl).alloc _)
  have V0 : Kg (w.heap.size + 1) x y ((w.alloc (.cells #[.int .i64 a, .int .i64 b, .int .i64 c, .int .i64 d] 133)).alloc (.cells #[.int .i64 x, .int .i64 y] 63)) := (Kg.at2 (w.heap.size + 1) (by simp))
  have B0 : Below w.heap.size w ((w.alloc (.cells #[.int .i64 a, .int .i64 b, .int .i64 c, .int .i64 d] 133)).alloc (.cells #[.int .i64 x, .int .i64 y] 63)) := (Below.alloc (Below.alloc (Below.refl _ _) (by first | with_reducible exact Nat.le_refl _ | (simp <;> omega)) _) (by first | with_reducible exact Nat.le_refl _ | (simp <;> omega)) _)
  go_enter Tryz.func162, Tryz.ntmps162
  have M0lt := M0.1
  have V0lt := V0.1
  go_upto_region 1 with fail
  go_cut [5, 6] (fun s5 s6 wx => SldCut w a b c d p q x y s5 s6 wx)
  case first =>
   go_region_held3 (fun W => (W.cell? ⟨w.heap.size, 0, none⟩ = some (.int .i64 a) ∧ W.cell? ⟨w.heap.size, 1, none⟩ = some (.int .i64 b) ∧ W.cell? ⟨w.heap.size, 2, none⟩ = some (.int .i64 c) ∧ W.cell? ⟨w.heap.size, 3, none⟩ = some (.int .i64 d)) ∧ (W.cell? ⟨w.heap.size + 1, 0, none⟩ = some (.int .i64 x) ∧ W.cell? ⟨w.heap.size + 1, 1, none⟩ = some (.int .i64 y))) ((refine ⟨Kq.cells ?_, Kg.cells ?_⟩ <;> repeat (first | with_reducible assumption | with_reducible refine KV.drew ?_ | with_reducible refine KV.alloc ?_ _ | with_reducible refine KV.call ?_ (by with_reducible assumption) | with_reducible refine Kg.drew ?_ | with_reducible refine Kg.alloc ?_ _ | with_reducible refine Kg.call ?_ (by with_reducible assumption) | with_reducible refine Kq.drew ?_ | with_reducible refine Kq.alloc ?_ _ | with_reducible refine Kq.call ?_ (by with_reducible assumption) | ((with_reducible refine KV.put ?_ ?_); (first | omega | (dsimp only; omega))) | ((with_reducible refine Kg.put ?_ ?_); (first | omega | (dsimp only; omega))) | ((with_reducible refine Kq.put ?_ ?_); (first | omega | (dsimp only; omega))) | ((with_reducible refine KV.far5 ?_ ?_); (first | omega | (dsimp only; omega))) | ((with_reducible refine Kg.far ?_ ?_); (first | omega | (dsimp only; omega))) | ((with_reducible refine Kq.far ?_ ?_); (first | omega | (dsimp only; omega))))))
    (first
     | (go_at_call 153; ((with_reducible refine (axisF_any a b c d p q _ HM.out HR.out HAX.out).mono ?_); rintro e w1 ⟨rfl, hb1⟩; have M1 : Kq (w.heap.size) a b c d w1 := (by with_reducible repeat (first | assumption | refine KV.drew ?_ | refine KV.alloc ?_ _ | refine KV.call ?_ (by assumption) | refine Kg.drew ?_ | refine Kg.alloc ?_ _ | refine Kg.call ?_ (by assumption) | refine Kq.drew ?_ | refine Kq.alloc ?_ _ | refine Kq.call ?_ (by assumption))); have M1l := M1.1; have V1 : Kg (w.heap.size + 1) x y w1 := (by with_reducible repeat (first | assumption | refine KV.drew ?_ | refine KV.alloc ?_ _ | refine KV.call ?_ (by assumption) | refine Kg.drew ?_ | refine Kg.alloc ?_ _ | refine Kg.call ?_ (by assumption) | refine Kq.drew ?_ | refine Kq.alloc ?_ _ | refine Kq.call ?_ (by assumption))); have V1l := V1.1; (try ((refine useIt (P := KV (w.heap.size + 1 + 1) 0 0 w1) ?_ ?_); (repeat (first | with_reducible assumption | (with_reducible exact KV.at _ (by first | with_reducible rfl | (simp; done) | fail)) | (with_reducible exact KV.at _ (by first | with_reducible rfl | (simp; done) | fail)) | with_reducible refine KV.drew ?_ | with_reducible refine KV.alloc ?_ _ | with_reducible refine KV.call ?_ (by with_reducible assumption) | with_reducible refine Kg.drew ?_ | with_reducible refine Kg.alloc ?_ _ | with_reducible refine Kg.call ?_ (by with_reducible assumption) | with_reducible refine Kq.drew ?_ | with_reducible refine Kq.alloc ?_ _ | with_reducible refine Kq.call ?_ (by with_reducible assumption))); intro P1_e; have P1_ec0 := P1_e.c0; have P1_ef0 := P1_e.f0; have P1_ec1 := P1_e.c1; have P1_ef1 := P1_e.f1; have P1_el := P1_e.lt)); (try ((refine useIt (P := KV (w.heap.size + 1 + 1 + 1) 0 0 w1) ?_ ?_); (repeat (first | with_reducible assumption | (with_reducible exact KV.at _ (by first | with_reducible rfl | (simp; done) | fail)) | (with_reducible exact KV.at _ (by first | with_reducible rfl | (simp; done) | fail)) | with_reducible refine KV.drew ?_ | with_reducible refine KV.alloc ?_ _ | with_reducible refine KV.call ?_ (by with_reducible assumption) | with_reducible refine Kg.drew ?_ | with_reducible refine Kg.alloc ?_ _ | with_reducible refine Kg.call ?_ (by with_reducible assumption) | with_reducible refine Kq.drew ?_ | with_reducible refine Kq.alloc ?_ _ | with_reducible refine Kq.call ?_ (by with_reducible assumption))); intro P1_ep; have P1_epc0 := P1_ep.c0; have P1_epf0 := P1_ep.f0; have P1_epc1 := P1_ep.c1; have P1_epf1 := P1_ep.f1; have P1_epl := P1_ep.lt)); (try ((refine useIt (P := KV (w2.heap.size) 0 0 w1) ?_ ?_); (repeat (first | with_reducible assumption | (with_reducible exact KV.at _ (by first | with_reducible rfl | (simp; done) | fail)) | (with_reducible exact KV.at _ (by first | with_reducible rfl | (simp; done) | fail)) | with_reducible refine KV.drew ?_ | with_reducible refine KV.alloc ?_ _ | with_reducible refine KV.call ?_ (by with_reducible assumption) | with_reducible refine Kg.drew ?_ | with_reducible refine Kg.alloc ?_ _ | with_reducible refine Kg.call ?_ (by with_reducible assumption) | with_reducible refine Kq.drew ?_ | with_reducible refine Kq.alloc ?_ _ | with_reducible refine Kq.call ?_ (by with_reducible assumption))); intro P1_w2; have P1_w2c0 := P1_w2.c0; have P1_w2f0 := P1_w2.f0; have P1_w2c1 := P1_w2.c1; have P1_w2f1 := P1_w2.f1; have P1_w2l := P1_w2.lt)); (try ((refine useIt (P := KV (w2.heap.size + 1) 0 0 w1) ?_ ?_); (repeat (first | with_reducible assumption | (with_reducible exact KV.at _ (by first | with_reducible rfl | (simp; done) | fail)) | (with_reducible exact KV.at _ (by first | with_reducible rfl | (simp; done) | fail)) | with_reducible refine KV.drew ?_ | with_reducible refine KV.alloc ?_ _ | with_reducible refine KV.call ?_ (by with_reducible assumption) | with_reducible refine Kg.drew ?_ | with_reducible refine Kg.alloc ?_ _ | with_reducible refine Kg.call ?_ (by with_reducible assumption) | with_reducible refine Kq.drew ?_ | with_reducible refine Kq.alloc ?_ _ | with_reducible refine Kq.call ?_ (by with_reducible assumption))); intro P1_w2p; have P1_w2pc0 := P1_w2p.c0; have P1_w2pf0 := P1_w2p.f0; have P1_w2pc1 := P1_w2p.c1; have P1_w2pf1 := P1_w2p.f1; have P1_w2pl := P1_w2p.lt)); (try ((refine useIt (P := KV (w3.heap.size) 0 0 w1) ?_ ?_); (repeat (first | with_reducible assumption | (with_reducible exact KV.at _ (by first | with_reducible rfl | (simp; done) | fail)) | (with_reducible exact KV.at _ (by first | with_reducible rfl | (simp; done) | fail)) | with_reducible refine KV.drew ?_ | with_reducible refine KV.alloc ?_ _ | with_reducible refine KV.call ?_ (by with_reducible assumption) | with_reducible refine Kg.drew ?_ | with_reducible refine Kg.alloc ?_ _ | with_reducible refine Kg.call ?_ (by with_reducible assumption) | with_reducible refine Kq.drew ?_ | with_reducible refine Kq.alloc ?_ _ | with_reducible refine Kq.call ?_ (by with_reducible assumption))); intro P1_w3; have P1_w3c0 := P1_w3.c0; have P1_w3f0 := P1_w3.f0; have P1_w3c1 := P1_w3.c1; have P1_w3f1 := P1_w3.f1; have P1_w3l := P1_w3.lt)); (try ((refine useIt (P := KV (w3.heap.size + 1) 0 0 w1) ?_ ?_); (repeat (first | with_reducible assumption | (with_reducible exact KV.at _ (by first | with_reducible rfl | (simp; done) | fail)) | (with_reducible exact KV.at _ (by first | with_reducible rfl | (simp; done) | fail)) | with_reducible refine KV.drew ?_ | with_reducible refine KV.alloc ?_ _ | with_reducible refine KV.call ?_ (by with_reducible assumption) | with_reducible refine Kg.drew ?_ | with_reducible refine Kg.alloc ?_ _ | with_reducible refine Kg.call ?_ (by with_reducible assumption) | with_reducible refine Kq.drew ?_ | with_reducible refine Kq.alloc ?_ _ | with_reducible refine Kq.call ?_ (by with_reducible assumption))); intro P1_w3p; have P1_w3pc0 := P1_w3p.c0; have P1_w3pf0 := P1_w3p.f0; have P1_w3pc1 := P1_w3p.c1; have P1_w3pf1 := P1_w3p.f1; have P1_w3pl := P1_w3p.lt)); have B1 : Below w.heap.size w w1 := (by repeat (first | with_reducible assumption | with_reducible refine Below.drew ?_ | with_reducible refine Below.alloc ?_ (by first | omega | (simp <;> omega)) _ | with_reducible refine bstep ?_ (by with_reducible assumption)))))
     | (go_at_call 107; ((with_reducible refine (apply_any a b c d x y _ (matB_lim HM.out) HV.out).mono ?_); rintro e w2 ⟨rfl, hb2⟩; have M2 : Kq (w.heap.size) a b c d w2 := (by with_reducible repeat (first | assumption | refine KV.drew ?_ | refine KV.alloc ?_ _ | refine KV.call ?_ (by assumption) | refine Kg.drew ?_ | refine Kg.alloc ?_ _ | refine Kg.call ?_ (by assumption) | refine Kq.drew ?_ | refine Kq.alloc ?_ _ | refine Kq.call ?_ (by assumption))); have M2l := M2.1; have V2 : Kg (w.heap.size + 1) x y w2 := (by with_reducible repeat (first | assumption | refine KV.drew ?_ | refine KV.alloc ?_ _ | refine KV.call ?_ (by assumption) | refine Kg.drew ?_ | refine Kg.alloc ?_ _ | refine Kg.call ?_ (by assumption) | refine Kq.drew ?_ | refine Kq.alloc ?_ _ | refine Kq.call ?_ (by assumption))); have V2l := V2.1; (try ((refine useIt (P := KV (w.heap.size + 1 + 1) 0 0 w2) ?_ ?_); (repeat (first | with_reducible assumption | (with_reducible exact KV.at _ (by first | with_reducible rfl | (simp; done) | fail)) | (with_reducible exact KV.at _ (by first | with_reducible rfl | (simp; done) | fail)) | with_reducible refine KV.drew ?_ | with_reducible refine KV.alloc ?_ _ | with_reducible refine KV.call ?_ (by with_reducible assumption) | with_reducible refine Kg.drew ?_ | with_reducible refine Kg.alloc ?_ _ | with_reducible refine Kg.call ?_ (by with_reducible assumption) | with_reducible refine Kq.drew ?_ | with_reducible refine Kq.alloc ?_ _ | with_reducible refine Kq.call ?_ (by with_reducible assumption))); intro P2_e; have P2_ec0 := P2_e.c0; have P2_ef0 := P2_e.f0; have P2_ec1 := P2_e.c1; have P2_ef1 := P2_e.f1; have P2_el := P2_e.lt)); (try ((refine useIt (P := KV (w.heap.size + 1 + 1 + 1) 0 0 w2) ?_ ?_); (repeat (first | with_reducible assumption | (with_reducible exact KV.at _ (by first | with_reducible rfl | (simp; done) | fail)) | (with_reducible exact KV.at _ (by first | with_reducible rfl | (simp; done) | fail)) | with_reducible refine KV.drew ?_ | with_reducible refine KV.alloc ?_ _ | with_reducible refine KV.call ?_ (by with_reducible assumption) | with_reducible refine Kg.drew ?_ | with_reducible refine Kg.alloc ?_ _ | with_reducible refine Kg.call ?_ (by with_reducible assumption) | with_reducible refine Kq.drew ?_ | with_reducible refine Kq.alloc ?_ _ | with_reducible refine Kq.call ?_ (by with_reducible assumption))); intro P2_ep; have P2_epc0 := P2_ep.c0; have P2_epf0 := P2_ep.f0; have P2_epc1 := P2_ep.c1; have P2_epf1 := P2_ep.f1; have P2_epl := P2_ep.lt)); (try ((refine useIt (P := KV (w1.heap.size) 0 0 w2) ?_ ?_); (repeat (first | with_reducible assumption | (with_reducible exact KV.at _ (by first | with_reducible rfl | (simp; done) | fail)) | (with_reducible exact KV.at _ (by first | with_reducible rfl | (simp; done) | fail)) | with_reducible refine KV.drew ?_ | with_reducible refine KV.alloc ?_ _ | with_reducible refine KV.call ?_ (by with_reducible assumption) | with_reducible refine Kg.drew ?_ | with_reducible refine Kg.alloc ?_ _ | with_reducible refine Kg.call ?_ (by with_reducible assumption) | with_reducible refine Kq.drew ?_ | with_reducible refine Kq.alloc ?_ _ | with_reducible refine Kq.call ?_ (by with_reducible assumption))); intro P2_w1; have P2_w1c0 := P2_w1.c0; have P2_w1f0 := P2_w1.f0; have P2_w1c1 := P2_w1.c1; have P2_w1f1 := P2_w1.f1; have P2_w1l := P2_w1.lt)); (try ((refine useIt (P := KV (w1.heap.size + 1) 0 0 w2) ?_ ?_); (repeat (first | with_reducible assumption | (with_reducible exact KV.at _ (by first | with_reducible rfl | (simp; done) | fail)) | (with_reducible exact KV.at _ (by first | with_reducible rfl | (simp; done) | fail)) | with_reducible refine KV.drew ?_ | with_reducible refine KV.alloc ?_ _ | with_reducible refine KV.call ?_ (by with_reducible assumption) | with_reducible refine Kg.drew ?_ | with_reducible refine Kg.alloc ?_ _ | with_reducible refine Kg.call ?_ (by with_reducible assumption) | with_reducible refine Kq.drew ?_ | with_reducible refine Kq.alloc ?_ _ | with_reducible refine Kq.call ?_ (by with_reducible assumption))); intro P2_w1p; have P2_w1pc0 := P2_w1p.c0; have P2_w1pf0 := P2_w1p.f0; have P2_w1pc1 := P2_w1p.c1; have P2_w1pf1 := P2_w1p.f1; have P2_w1pl := P2_w1p.lt)); (try ((refine useIt (P := KV (w3.heap.size) 0 0 w2) ?_ ?_); (repeat (first | with_reducible assumption | (with_reducible exact KV.at _ (by first | with_reducible rfl | (simp; done) | fail)) | (with_reducible exact KV.at _ (by first | with_reducible rfl | (simp; done) | fail)) | with_reducible refine KV.drew ?_ | with_reducible refine KV.alloc ?_ _ | with_reducible refine KV.call ?_ (by with_reducible assumption) | with_reducible refine Kg.drew ?_ | with_reducible refine Kg.alloc ?_ _ | with_reducible refine Kg.call ?_ (by with_reducible assumption) | with_reducible refine Kq.drew ?_ | with_reducible refine Kq.alloc ?_ _ | with_reducible refine Kq.call ?_ (by with_reducible assumption))); intro P2_w3; have P2_w3c0 := P2_w3.c0; have P2_w3f0 := P2_w3.f0; have P2_w3c1 := P2_w3.c1; have P2_w3f1 := P2_w3.f1; have P2_w3l := P2_w3.lt)); (try ((refine useIt (P := KV (w3.heap.size + 1) 0 0 w2) ?_ ?_); (repeat (first | with_reducible assumption | (with_reducible exact KV.at _ (by first | with_reducible rfl | (simp; done) | fail)) | (with_reducible exact KV.at _ (by first | with_reducible rfl | (simp; done) | fail)) | with_reducible refine KV.drew ?_ | with_reducible refine KV.alloc ?_ _ | with_reducible refine KV.call ?_ (by with_reducible assumption) | with_reducible refine Kg.drew ?_ | with_reducible refine Kg.alloc ?_ _ | with_reducible refine Kg.call ?_ (by with_reducible assumption) | with_reducible refine Kq.drew ?_ | with_reducible refine Kq.alloc ?_ _ | with_reducible refine Kq.call ?_ (by with_reducible assumption))); intro P2_w3p; have P2_w3pc0 := P2_w3p.c0; have P2_w3pf0 := P2_w3p.f0; have P2_w3pc1 := P2_w3p.c1; have P2_w3pf1 := P2_w3p.f1; have P2_w3pl := P2_w3p.lt)); have B2 : Below w.heap.size w w2 := (by repeat (first | with_reducible assumption | with_reducible refine Below.drew ?_ | with_reducible refine Below.alloc ?_ (by first | omega | (simp <;> omega)) _ | with_reducible refine bstep ?_ (by with_reducible assumption)))))
     | (go_at_call 154; ((with_reducible refine (plusF_any (a * x + b * y) (c * x + d * y) x y _ HQ.out.1 HQ.out.2).mono ?_); rintro e w3 ⟨rfl, hb3⟩; have M3 : Kq (w.heap.size) a b c d w3 := (by with_reducible repeat (first | assumption | refine KV.drew ?_ | refine KV.alloc ?_ _ | refine KV.call ?_ (by assumption) | refine Kg.drew ?_ | refine Kg.alloc ?_ _ | refine Kg.call ?_ (by assumption) | refine Kq.drew ?_ | refine Kq.alloc ?_ _ | refine Kq.call ?_ (by assumption))); have M3l := M3.1; have V3 : Kg (w.heap.size + 1) x y w3 := (by with_reducible repeat (first | assumption | refine KV.drew ?_ | refine KV.alloc ?_ _ | refine KV.call ?_ (by assumption) | refine Kg.drew ?_ | refine Kg.alloc ?_ _ | refine Kg.call ?_ (by assumption) | refine Kq.drew ?_ | refine Kq.alloc ?_ _ | refine Kq.call ?_ (by assumption))); have V3l := V3.1; (try ((refine useIt (P := KV (w.heap.size + 1 + 1) 0 0 w3) ?_ ?_); (repeat (first | with_reducible assumption | (with_reducible exact KV.at _ (by first | with_reducible rfl | (simp; done) | fail)) | (with_reducible exact KV.at _ (by first | with_reducible rfl | (simp; done) | fail)) | with_reducible refine KV.drew ?_ | with_reducible refine KV.alloc ?_ _ | with_reducible refine KV.call ?_ (by with_reducible assumption) | with_reducible refine Kg.drew ?_ | with_reducible refine Kg.alloc ?_ _ | with_reducible refine Kg.call ?_ (by with_reducible assumption) | with_reducible refine Kq.drew ?_ | with_reducible refine Kq.alloc ?_ _ | with_reducible refine Kq.call ?_ (by with_reducible assumption))); intro P3_e; have P3_ec0 := P3_e.c0; have P3_ef0 := P3_e.f0; have P3_ec1 := P3_e.c1; have P3_ef1 := P3_e.f1; have P3_el := P3_e.lt)); (try ((refine useIt (P := KV (w.heap.size + 1 + 1 + 1) 0 0 w3) ?_ ?_); (repeat (first | with_reducible assumption | (with_reducible exact KV.at _ (by first | with_reducible rfl | (simp; done) | fail)) | (with_reducible exact KV.at _ (by first | with_reducible rfl | (simp; done) | fail)) | with_reducible refine KV.drew ?_ | with_reducible refine KV.alloc ?_ _ | with_reducible refine KV.call ?_ (by with_reducible assumption) | with_reducible refine Kg.drew ?_ | with_reducible refine Kg.alloc ?_ _ | with_reducible refine Kg.call ?_ (by with_reducible assumption) | with_reducible refine Kq.drew ?_ | with_reducible refine Kq.alloc ?_ _ | with_reducible refine Kq.call ?_ (by with_reducible assumption))); intro P3_ep; have P3_epc0 := P3_ep.c0; have P3_epf0 := P3_ep.f0; have P3_epc1 := P3_ep.c1; have P3_epf1 := P3_ep.f1; have P3_epl := P3_ep.lt)); (try ((refine useIt (P := KV (w1.heap.size) 0 0 w3) ?_ ?_); (repeat (first | with_reducible assumption | (with_reducible exact KV.at _ (by first | with_reducible rfl | (simp; done) | fail)) | (with_reducible exact KV.at _ (by first | with_reducible rfl | (simp; done) | fail)) | with_reducible refine KV.drew ?_ | with_reducible refine KV.alloc ?_ _ | with_reducible refine KV.call ?_ (by with_reducible assumption) | with_reducible refine Kg.drew ?_ | with_reducible refine Kg.alloc ?_ _ | with_reducible refine Kg.call ?_ (by with_reducible assumption) | with_reducible refine Kq.drew ?_ | with_reducible refine Kq.alloc ?_ _ | with_reducible refine Kq.call ?_ (by with_reducible assumption))); intro P3_w1; have P3_w1c0 := P3_w1.c0; have P3_w1f0 := P3_w1.f0; have P3_w1c1 := P3_w1.c1; have P3_w1f1 := P3_w1.f1; have P3_w1l := P3_w1.lt)); (try ((refine useIt (P := KV (w1.heap.size + 1) 0 0 w3) ?_ ?_); (repeat (first | with_reducible assumption | (with_reducible exact KV.at _ (by first | with_reducible rfl | (simp; done) | fail)) | (with_reducible exact KV.at _ (by first | with_reducible rfl | (simp; done) | fail)) | with_reducible refine KV.drew ?_ | with_reducible refine KV.alloc ?_ _ | with_reducible refine KV.call ?_ (by with_reducible assumption) | with_reducible refine Kg.drew ?_ | with_reducible refine Kg.alloc ?_ _ | with_reducible refine Kg.call ?_ (by with_reducible assumption) | with_reducible refine Kq.drew ?_ | with_reducible refine Kq.alloc ?_ _ | with_reducible refine Kq.call ?_ (by with_reducible assumption))); intro P3_w1p; have P3_w1pc0 := P3_w1p.c0; have P3_w1pf0 := P3_w1p.f0; have P3_w1pc1 := P3_w1p.c1; have P3_w1pf1 := P3_w1p.f1; have P3_w1pl := P3_w1p.lt)); (try ((refine useIt (P := KV (w2.heap.size) 0 0 w3) ?_ ?_); (repeat (first | with_reducible assumption | (with_reducible exact KV.at _ (by first | with_reducible rfl | (simp; done) | fail)) | (with_reducible exact KV.at _ (by first | with_reducible rfl | (simp; done) | fail)) | with_reducible refine KV.drew ?_ | with_reducible refine KV.alloc ?_ _ | with_reducible refine KV.call ?_ (by with_reducible assumption) | with_reducible refine Kg.drew ?_ | with_reducible refine Kg.alloc ?_ _ | with_reducible refine Kg.call ?_ (by with_reducible assumption) | with_reducible refine Kq.drew ?_ | with_reducible refine Kq.alloc ?_ _ | with_reducible refine Kq.call ?_ (by with_reducible assumption))); intro P3_w2; have P3_w2c0 := P3_w2.c0; have P3_w2f0 := P3_w2.f0; have P3_w2c1 := P3_w2.c1; have P3_w2f1 := P3_w2.f1; have P3_w2l := P3_w2.lt)); (try ((refine useIt (P := KV (w2.heap.size + 1) 0 0 w3) ?_ ?_); (repeat (first | with_reducible assumption | (with_reducible exact KV.at _ (by first | with_reducible rfl | (simp; done) | fail)) | (with_reducible exact KV.at _ (by first | with_reducible rfl | (simp; done) | fail)) | with_reducible refine KV.drew ?_ | with_reducible refine KV.alloc ?_ _ | with_reducible refine KV.call ?_ (by with_reducible assumption) | with_reducible refine Kg.drew ?_ | with_reducible refine Kg.alloc ?_ _ | with_reducible refine Kg.call ?_ (by with_reducible assumption) | with_reducible refine Kq.drew ?_ | with_reducible refine Kq.alloc ?_ _ | with_reducible refine Kq.call ?_ (by with_reducible assumption))); intro P3_w2p; have P3_w2pc0 := P3_w2p.c0; have P3_w2pf0 := P3_w2p.f0; have P3_w2pc1 := P3_w2p.c1; have P3_w2pf1 := P3_w2p.f1; have P3_w2pl := P3_w2p.lt)); have B3 : Below w.heap.size w w3 := (by repeat (first | with_reducible assumption | with_reducible refine Below.drew ?_ | with_reducible refine Below.alloc ?_ (by first | omega | (simp <;> omega)) _ | with_reducible refine bstep ?_ (by with_reducible assumption))))))
   all_goals
    go_wp2_with fail
    go_meet
    exact ⟨_, _, rfl, rfl, (by repeat (first | with_reducible assumption | (with_reducible exact KV.at _ (by first | with_reducible rfl | (simp; done) | fail)) | with_reducible refine KV.store5 (a := 0) (b := 0) ?_ _ _ | with_reducible refine KV.alloc ?_ _ | with_reducible refine KV.drew ?_ | ((with_reducible refine KV.far5 ?_ ?_); (first | omega | (dsimp only; omega) | (simp; omega))) | with_reducible refine KV.call ?_ (by with_reducible assumption))), (by repeat (first | with_reducible assumption | (with_reducible exact KV.at _ (by first | with_reducible rfl | (simp; done) | fail)) | with_reducible refine KV.store5 (a := 0) (b := 0) ?_ _ _ | with_reducible refine KV.alloc ?_ _ | with_reducible refine KV.drew ?_ | ((with_reducible refine KV.far5 ?_ ?_); (first | omega | (dsimp only; omega) | (simp; omega))) | with_reducible refine KV.call ?_ (by with_reducible assumption))), by repeat (first | with_reducible assumption | with_reducible refine KV.drew ?_ | with_reducible refine KV.alloc ?_ _ | with_reducible refine KV.call ?_ (by with_reducible assumption) | with_reducible refine Kg.drew ?_ | with_reducible refine Kg.alloc ?_ _ | with_reducible refine Kg.call ?_ (by with_reducible assumption) | with_reducible refine Kq.drew ?_ | with_reducible refine Kq.alloc ?_ _ | with_reducible refine Kq.call ?_ (by with_reducible assumption) | ((with_reducible refine KV.put ?_ ?_); (first | omega | (dsimp only; omega))) | ((with_reducible refine Kg.put ?_ ?_); (first | omega | (dsimp only; omega))) | ((with_reducible refine Kq.put ?_ ?_); (first | omega | (dsimp only; omega))) | ((with_reducible refine KV.far5 ?_ ?_); (first | omega | (dsimp only; omega))) | ((with_reducible refine Kg.far ?_ ?_); (first | omega | (dsimp only; omega))) | ((with_reducible refine Kq.far ?_ ?_); (first | omega | (dsimp only; omega)))), by repeat (first | with_reducible assumption | with_reducible refine KV.drew ?_ | with_reducible refine KV.alloc ?_ _ | with_reducible refine KV.call ?_ (by with_reducible assumption) | with_reducible refine Kg.drew ?_ | with_reducible refine Kg.alloc ?_ _ | with_reducible refine Kg.call ?_ (by with_reducible assumption) | with_reducible refine Kq.drew ?_ | with_reducible refine Kq.alloc ?_ _ | with_reducible refine Kq.call ?_ (by with_reducible assumption) | ((with_reducible refine KV.put ?_ ?_); (first | omega | (dsimp only; omega))) | ((with_reducible refine Kg.put ?_ ?_); (first | omega | (dsimp only; omega))) | ((with_reducible refine Kq.put ?_ ?_); (first | omega | (dsimp only; omega))) | ((with_reducible refine KV.far5 ?_ ?_); (first | omega | (dsimp only; omega))) | ((with_reducible refine Kg.far ?_ ?_); (first | omega | (dsimp only; omega))) | ((with_reducible refine Kq.far ?_ ?_); (first | omega | (dsimp only; omega)))), by first | omega | (simp <;> omega), by first | omega | (simp <;> omega), by repeat (first | with_reducible assumption | with_reducible exact Below.refl _ _ | with_reducible refine Below.setCell ?_ (by first | omega | (simp <;> omega)) _ | with_reducible refine Below.alloc ?_ (by first | omega | (simp <;> omega)) _ | with_reducible refine bstep ?_ (by with_reducible assumption) | with_reducible refine Below.drew ?_)⟩
  case rest =>
   obtain ⟨g0, g1, rfl, rfl, P4, S4, M4, V4, leg0, leg1, B4⟩ := hcut
   obtain ⟨w4, hw4⟩ : ∃ z, z = wc := ⟨_, rfl⟩
   subst hw4
   clear HQ HAX HM HR HV
   have P4c0 := P4.c0
   have P4c1 := P4.c1
   have P4f0 := P4.f0
   have P4f1 := P4.f1
   have P4l := P4.lt
   have P4n : ¬ g0 = w4.heap.size := by omega
   have S4c0 := S4.c0
   have S4c1 := S4.c1
   have S4f0 := S4.f0
   have S4f1 := S4.f1
   have S4l := S4.lt
   have S4n : ¬ g1 = w4.heap.size := by omega
   rcases hp : p == 0 with _ | _
   ·have EA := Lib.hid (show sld a b c d p q x y = (a * x + b * y + x).tdiv p by simp [sld, slI, hp])
    have hp0 : ¬ p = 0 := by simpa using hp
    have hw9 : IntKind.i64.wrap ((a * x + b * y + x).tdiv p) = (a * x + b * y + x).tdiv p := IntWalk.i64_in _ (by have := HTD.out p; have := HTD.out q; omega)
    clear HPQ HTD
    go_wp2
    go_ret
    refine ⟨ret_int EA.out.symm, ?_⟩
    repeat (first | with_reducible assumption | with_reducible exact Below.refl _ _ | with_reducible refine Below.setCell ?_ (by first | omega | (simp <;> omega)) _ | with_reducible refine Below.alloc ?_ (by first | omega | (simp <;> omega)) _ | with_reducible refine bstep ?_ (by with_reducible assumption) | with_reducible refine Below.drew ?_)
   ·have EA := Lib.hid (show sld a b c d p q x y = (c * x + d * y + y).tdiv q by simp [sld, slI, hp])
    have hp0 : ¬ q = 0 := by intro h9; exact HPQ.out ⟨by simpa using hp, h9⟩
    have hw9 : IntKind.i64.wrap ((c * x + d * y + y).tdiv q) = (c * x + d * y + y).tdiv q := IntWalk.i64_in _ (by have := HTD.out p; have := HTD.out q; omega)
    clear HPQ HTD
    go_wp2
    go_ret
    refine ⟨ret_int EA.out.symm, ?_⟩
    repeat (first | with_reducible assumption | with_reducible exact Below.refl _ _ | with_reducible refine Below.setCell ?_ (by first | omega | (simp <;> omega)) _ | with_reducible refine Below.alloc ?_ (by first | omega | (simp <;> omega)) _ | with_reducible refine bstep ?_ (by with_reducible assumption) | with_reducible refine Below.drew ?_)
set_option maxRecDepth 100000 in
set_option maxHeartbeats 8000000 in
theorem step_any (A B C a b c d p q : Int) (w : World) (hl : latI A B C) (h : matB a b c d = true) (hr : reflB a b c d = true) (hax : axP a b c d = (p, q)) (hs : ((-1 ≤ a ∧ a ≤ 1) ∧ (-1 ≤ b ∧ b ≤ 1)) ∧ ((-1 ≤ c ∧ c ≤ 1) ∧ (-1 ≤ d ∧ d ≤ 1))) :
  Calls Tryz.prog 159 #[.agg #[.int .i64 A, .int .i64 B, .int .i64 C], .agg #[.int .i64 a, .int .i64 b, .int .i64 c, .int .i64 d]] w fun e w' => e = .returned (.int .i64 (stepG A B C a b c d p q)) ∧ Below w.heap.size w w' := by
  have hb := latI_bd hl
  obtain ⟨hA, hC, hB0, hB1, _⟩ := id hl
  have h0 := sld_bd (p := p) (q := q) (x := A) (y := 0) (M := 64) hs (by omega) (by omega)
  have h1 := sld_bd (p := p) (q := q) (x := B) (y := C) (M := 64) hs (by omega) (by omega)
  have HB := Lib.hid (show (-192 ≤ (sld a b c d p q A 0) ∧ (sld a b c d p q A 0) ≤ 192) ∧ (-192 ≤ (sld a b c d p q B C) ∧ (sld a b c d p q B C) ≤ 192) from by omega)
  have HS0 := Lib.hid (fun W => slide_any a b c d p q A 0 W h hr hax hs (by simp [vecB]; omega))
  have HS1 := Lib.hid (fun W => slide_any a b c d p q B C W h hr hax hs (by simp [vecB]; omega))
  clear hb hA hC hB0 hB1 h0 h1 h hr hax hs hl
  unfold stepG
  have L0 : Kt (w.heap.size) A B C ((w.alloc (.cells #[.int .i64 A, .int .i64 B, .int .i64 C] 28)).alloc (.cells #[.int .i64 a, .int .i64 b, .int .i64 c, .int .i64 d] 133)) := ((Kt.at (w.heap.size) rfl).alloc _)
  have M0 : Kq (w.heap.size + 1) a b c d ((w.alloc (.cells #[.int .i64 A, .int .i64 B, .int .i64 C] 28)).alloc (.cells #[.int .i64 a, .int .i64 b, .int .i64 c, .int .i64 d] 133)) := (Kq.at (w.heap.size + 1) (by simp))
  have B0 : Below w.heap.size w ((w.alloc (.cells #[.int .i64 A, .int .i64 B, .int .i64 C] 28)).alloc (.cells #[.int .i64 a, .int .i64 b, .int .i64 c, .int .i64 d] 133)) := (Below.alloc (Below.alloc (Below.refl _ _) (by first | with_reducible exact Nat.le_refl _ | (simp <;> omega)) _) (by first | with_reducible exact Nat.le_refl _ | (simp <;> omega)) _)
  go_enter Tryz.func159, Tryz.ntmps159
  have L0c0 := L0.c0
  have L0c1 := L0.c1
  have L0c2 := L0.c2
  have L0l := L0.1
  go_wp2_with fail
  refine (basis4_any A B C _).mono ?_
  rintro e w1 ⟨rfl, hb1⟩
  have L1 : Kt (w.heap.size) A B C w1 := Kt.call L0 hb1
  have M1 : Kq (w.heap.size + 1) a b c d w1 := Kq.call M0 hb1
  have B1 : Below w.heap.size w w1 := bstep B0 hb1
  clear hb1 B0 L0 M0
  go_upto_region 1 with fail
  have K2 : Kq w1.heap.size A 0 B C (w1.alloc (.cells #[.int .i64 A, .int .i64 0, .int .i64 B, .int .i64 C] 237)) := Kq.at _ rfl
  have L2 : Kt w.heap.size A B C (w1.alloc (.cells #[.int .i64 A, .int .i64 0, .int .i64 B, .int .i64 C] 237)) := L1.alloc _
  have M2 : Kq (w.heap.size + 1) a b c d (w1.alloc (.cells #[.int .i64 A, .int .i64 0, .int .i64 B, .int .i64 C] 237)) := M1.alloc _
  have B2 : Below w.heap.size w (w1.alloc (.cells #[.int .i64 A, .int .i64 0, .int .i64 B, .int .i64 C] 237)) := Below.alloc B1 B1.size _
  obtain ⟨w2, hw2⟩ : ∃ z, z = w1.alloc (.cells #[.int .i64 A, .int .i64 0, .int .i64 B, .int .i64 C] 237) := ⟨_, rfl⟩
  rw [← hw2] at K2 L2 M2 B2 ⊢
  obtain ⟨g, hg⟩ : ∃ z, z = w1.heap.size := ⟨_, rfl⟩
  rw [← hg] at K2 ⊢
  clear hw2 hg L1 M1 B1
  clear L2
  have M2c0 := M2.c0
  have M2c1 := M2.c1
  have M2c2 := M2.c2
  have M2c3 := M2.c3
  have M2l := M2.1
  have M2n : ¬ w.heap.size + 1 = w2.heap.size := by omega
  have K2c0 := K2.c0
  have K2c1 := K2.c1
  have K2c2 := K2.c2
  have K2c3 := K2.c3
  have K2l := K2.1
  have K2n : ¬ g = w2.heap.size := by omega
  have M2lt := M2.1
  have K2lt := K2.1
  skip
  go_region_held3 (fun W => (W.cell? ⟨w.heap.size + 1, 0, none⟩ = some (.int .i64 a) ∧ W.cell? ⟨w.heap.size + 1, 1, none⟩ = some (.int .i64 b) ∧ W.cell? ⟨w.heap.size + 1, 2, none⟩ = some (.int .i64 c) ∧ W.cell? ⟨w.heap.size + 1, 3, none⟩ = some (.int .i64 d)) ∧ (W.cell? ⟨g, 0, none⟩ = some (.int .i64 A) ∧ W.cell? ⟨g, 1, none⟩ = some (.int .i64 0) ∧ W.cell? ⟨g, 2, none⟩ = some (.int .i64 B) ∧ W.cell? ⟨g, 3, none⟩ = some (.int .i64 C))) ((refine ⟨Kq.cells ?_, Kq.cells ?_⟩ <;> repeat (first | with_reducible assumption | with_reducible refine Kq.drew ?_ | with_reducible refine Kq.alloc ?_ _ | with_reducible refine Kq.call ?_ (by with_reducible assumption) | ((with_reducible refine Kq.put ?_ ?_); (first | omega | (dsimp only; omega))) | ((with_reducible refine Kq.far ?_ ?_); (first | omega | (dsimp only; omega))))))
   (first
    | (go_at_call 225; ((with_reducible refine (greatest_any (sld a b c d p q A 0) (sld a b c d p q B C) _ (by have := HB.out; omega) (by have := HB.out; omega) (by have := HB.out; omega) (by have := HB.out; omega)).mono ?_); rintro e w3 ⟨rfl, hb3⟩; have M3 : Kq (w.heap.size + 1) a b c d w3 := (by with_reducible repeat (first | assumption | refine Kq.drew ?_ | refine Kq.alloc ?_ _ | refine Kq.call ?_ (by assumption))); have K3 : Kq (g) A 0 B C w3 := (by with_reducible repeat (first | assumption | refine Kq.drew ?_ | refine Kq.alloc ?_ _ | refine Kq.call ?_ (by assumption))); have M3l := M3.1; have K3l := K3.1; have B3 : Below w.heap.size w w3 := (by repeat (first | with_reducible assumption | with_reducible refine Below.drew ?_ | with_reducible refine Below.alloc ?_ (by first | omega | (have := B2.size; simp <;> omega)) _ | with_reducible refine bstep ?_ (by with_reducible assumption)))))
    | (go_at_call 162; ((with_reducible refine (HS0.out _).mono ?_); rintro e w4 ⟨rfl, hb4⟩; have M4 : Kq (w.heap.size + 1) a b c d w4 := (by with_reducible repeat (first | assumption | refine Kq.drew ?_ | refine Kq.alloc ?_ _ | refine Kq.call ?_ (by assumption))); have K4 : Kq (g) A 0 B C w4 := (by with_reducible repeat (first | assumption | refine Kq.drew ?_ | refine Kq.alloc ?_ _ | refine Kq.call ?_ (by assumption))); have M4l := M4.1; have K4l := K4.1; have B4 : Below w.heap.size w w4 := (by repeat (first | with_reducible assumption | with_reducible refine Below.drew ?_ | with_reducible refine Below.alloc ?_ (by first | omega | (have := B2.size; simp <;> omega)) _ | with_reducible refine bstep ?_ (by with_reducible assumption)))))
    | (go_at_call 162; ((with_reducible refine (HS1.out _).mono ?_); rintro e w5 ⟨rfl, hb5⟩; have M5 : Kq (w.heap.size + 1) a b c d w5 := (by with_reducible repeat (first | assumption | refine Kq.drew ?_ | refine Kq.alloc ?_ _ | refine Kq.call ?_ (by assumption))); have K5 : Kq (g) A 0 B C w5 := (by with_reducible repeat (first | assumption | refine Kq.drew ?_ | refine Kq.alloc ?_ _ | refine Kq.call ?_ (by assumption))); have M5l := M5.1; have K5l := K5.1; have B5 : Below w.heap.size w w5 := (by repeat (first | with_reducible assumption | with_reducible refine Below.drew ?_ | with_reducible refine Below.alloc ?_ (by first | omega | (have := B2.size; simp <;> omega)) _ | with_reducible refine bstep ?_ (by with_reducible assumption))))))
  all_goals
   go_wp2
   go_ret
   refine ⟨rfl, ?_⟩
   repeat (first | with_reducible assumption | with_reducible exact Below.refl _ _ | with_reducible refine Below.setCell ?_ (by first | omega | (simp <;> omega)) _ | with_reducible refine Below.alloc ?_ (by first | omega | (simp <;> omega)) _ | with_reducible refine bstep ?_ (by with_reducible assumption) | with_reducible refine Below.drew ?_)
def mesF (h : Nat) (p q : Int) (K : Nat) (W : World) : Nat := K * (p.natAbs + q.natAbs) - ((match W.cell? ⟨h, 0, none⟩ with | some v => (intOf v).natAbs | none => 0) + (match W.cell? ⟨h, 1, none⟩ with | some v => (intOf v).natAbs | none => 0))
theorem mesF_of {h k K : Nat} {p q : Int} {W : World} (hV : KV h ((k : Int) * p) ((k : Int) * q) W) : mesF h p q K W = K * (p.natAbs + q.natAbs) - k * (p.natAbs + q.natAbs) := by
 have e1 : ((k : Int) * p).natAbs = k * p.natAbs := by rw [Int.natAbs_mul]; rfl
 have e2 : ((k : Int) * q).natAbs = k * q.natAbs := by rw [Int.natAbs_mul]; rfl
 have h0 := hV.c0
 have h1 := hV.c1
 unfold mesF
 rw [h0, h1]
 simp only [intOf]
 rw [e1, e2, Nat.mul_add k]
theorem mes_lt {k K : Nat} {p q : Int} (h : ¬ (p = 0 ∧ q = 0)) (hk : k < K) : K * (p.natAbs + q.natAbs) - (k + 1) * (p.natAbs + q.natAbs) < K * (p.natAbs + q.natAbs) - k * (p.natAbs + q.natAbs) := by
 have hn : 0 < p.natAbs + q.natAbs := by omega
 generalize p.natAbs + q.natAbs = n at *
 have h1 : (k + 1) * n ≤ K * n := Nat.mul_le_mul_right n hk
 have h2 : (k + 1) * n = k * n + n := Nat.succ_mul k n
 omega
theorem bd_mul {k : Nat} {p : Int} (hk : k ≤ 64) (hp : -2 ≤ p ∧ p ≤ 2) : -128 ≤ (k : Int) * p ∧ (k : Int) * p ≤ 128 := by
 have : p = -2 ∨ p = -1 ∨ p = 0 ∨ p = 1 ∨ p = 2 := by omega
 rcases this with rfl | rfl | rfl | rfl | rfl <;> omega
set_option maxRecDepth 100000 in
set_option maxHeartbeats 8000000 in
theorem invar_any (A B C a b c d p q : Int) (w : World) (hl : latI A B C) (hm : matB a b c d = true) (hr : reflB a b c d = true) (hax : axP a b c d = (p, q)) (hs : ((-1 ≤ a ∧ a ≤ 1) ∧ (-1 ≤ b ∧ b ≤ 1)) ∧ ((-1 ≤ c ∧ c ≤ 1) ∧ (-1 ≤ d ∧ d ≤ 1))) :
  Calls Tryz.prog 85 #[.agg #[.int .i64 A, .int .i64 B, .int .i64 C], .agg #[.int .i64 a, .int .i64 b, .int .i64 c, .int .i64 d]] w fun e w' => e = .returned (.agg #[.int .i64 ((invK A B C p q : Int) * p), .int .i64 ((invK A B C p q : Int) * q)]) ∧ Below w.heap.size w w' := by
  have HL := Lib.hid hl
  have HK0 := invK_facts p q hl
  obtain ⟨K, hK⟩ : ∃ K, K = invK A B C p q := ⟨_, rfl⟩
  rw [← hK] at HK0 ⊢
  have HK := Lib.hid HK0
  have HPB := Lib.hid (show (-2 ≤ p ∧ p ≤ 2) ∧ (-2 ≤ q ∧ q ≤ 2) from by have := axP_bd hr hs; rw [hax] at this; exact this)
  have HPQ := Lib.hid (show ¬ (p = 0 ∧ q = 0) from by have := prim_ne (axP_rax hr (refl_neg hr)).one; rw [hax] at this; exact this)
  have HAX := Lib.hid hax
  have HM := Lib.hid hm
  have HR := Lib.hid hr
  clear hax hm hr hs hl HK0 hK
  have L0 : Kt (w.heap.size) A B C (((w.alloc (.cells #[.int .i64 A, .int .i64 B, .int .i64 C] 28)).alloc (.cells #[.int .i64 a, .int .i64 b, .int .i64 c, .int .i64 d] 133)).alloc (.cells #[.int .i64 0, .int .i64 0] 63)) := (((Kt.at (w.heap.size) rfl).alloc _).alloc _)
  have M0 : Kq (w.heap.size + 1) a b c d (((w.alloc (.cells #[.int .i64 A, .int .i64 B, .int .i64 C] 28)).alloc (.cells #[.int .i64 a, .int .i64 b, .int .i64 c, .int .i64 d] 133)).alloc (.cells #[.int .i64 0, .int .i64 0] 63)) := ((Kq.at (w.heap.size + 1) (by simp)).alloc _)
  have R0 : KV (w.heap.size + 1 + 1) 0 0 (((w.alloc (.cells #[.int .i64 A, .int .i64 B, .int .i64 C] 28)).alloc (.cells #[.int .i64 a, .int .i64 b, .int .i64 c, .int .i64 d] 133)).alloc (.cells #[.int .i64 0, .int .i64 0] 63)) := (KV.at (w.heap.size + 1 + 1) (by simp))
  have B0 : Below w.heap.size w (((w.alloc (.cells #[.int .i64 A, .int .i64 B, .int .i64 C] 28)).alloc (.cells #[.int .i64 a, .int .i64 b, .int .i64 c, .int .i64 d] 133)).alloc (.cells #[.int .i64 0, .int .i64 0] 63)) := (Below.alloc (Below.alloc (Below.alloc (Below.refl _ _) (by first | with_reducible exact Nat.le_refl _ | (simp <;> omega)) _) (by first | with_reducible exact Nat.le_refl _ | (simp <;> omega)) _) (by first | with_reducible exact Nat.le_refl _ | (simp <;> omega)) _)
  go_enter Tryz.func85, Tryz.ntmps85
  have M0c0 := M0.c0
  have M0c1 := M0.c1
  have M0c2 := M0.c2
  have M0c3 := M0.c3
  have M0l := M0.1
  go_wp2_with fail
  refine (axisF_any a b c d p q _ HM.out HR.out HAX.out).mono ?_
  rintro e w1 ⟨rfl, hb1⟩
  have L1 : Kt (w.heap.size) A B C w1 := Kt.call L0 hb1
  have M1 : Kq (w.heap.size + 1) a b c d w1 := Kq.call M0 hb1
  have R1 : KV (w.heap.size + 1 + 1) 0 0 w1 := KV.call R0 hb1
  have B1 : Below w.heap.size w w1 := bstep B0 hb1
  clear hb1 B0 L0 M0 R0
  go_upto_region 1 with fail
  have X2 : Kg w1.heap.size p q (w1.alloc (.cells #[.int .i64 p, .int .i64 q] 63)) := Kg.at2 _ rfl
  have L2 : Kt w.heap.size A B C (w1.alloc (.cells #[.int .i64 p, .int .i64 q] 63)) := L1.alloc _
  have R2 : KV (w.heap.size + 1 + 1) 0 0 (w1.alloc (.cells #[.int .i64 p, .int .i64 q] 63)) := R1.alloc _
  have B2 : Below w.heap.size w (w1.alloc (.cells #[.int .i64 p, .int .i64 q] 63)) := Below.alloc B1 B1.size _
  have V3 : KV (w1.heap.size + 1) p q ((w1.alloc (.cells #[.int .i64 p, .int .i64 q] 63)).alloc (.cells #[.int .i64 p, .int .i64 q] 63)) := KV.at _ (by simp)
  obtain ⟨w2, hw2⟩ : ∃ z, z = w1.alloc (.cells #[.int .i64 p, .int .i64 q] 63) := ⟨_, rfl⟩
  have zr := R1.lt
  rw [← hw2] at X2 L2 R2 B2 V3 ⊢
  have X3 : Kg w1.heap.size p q (w2.alloc (.cells #[.int .i64 p, .int .i64 q] 63)) := X2.alloc _
  have L3 : Kt w.heap.size A B C (w2.alloc (.cells #[.int .i64 p, .int .i64 q] 63)) := L2.alloc _
  have R3 : KV (w.heap.size + 1 + 1) 0 0 (w2.alloc (.cells #[.int .i64 p, .int .i64 q] 63)) := R2.alloc _
  have B3 : Below w.heap.size w (w2.alloc (.cells #[.int .i64 p, .int .i64 q] 63)) := Below.alloc B2 B2.size _
  obtain ⟨w3, hw3⟩ : ∃ z, z = w2.alloc (.cells #[.int .i64 p, .int .i64 q] 63) := ⟨_, rfl⟩
  rw [← hw3] at V3 X3 L3 R3 B3 ⊢
  obtain ⟨g, hg⟩ : ∃ z, z = w1.heap.size := ⟨_, rfl⟩
  rw [← hg] at V3 X3 zr ⊢
  obtain ⟨h, hh⟩ : ∃ z, z = g + 1 := ⟨_, rfl⟩
  rw [← hh] at V3 ⊢
  have zg : g < h := by omega
  have zh : w.heap.size + 1 + 1 < h := by omega
  clear hw3 hh hg X2 L2 R2 B2 hw2 L1 M1 R1 B1
  have V3 : KV h ((1 : Nat) * p) ((1 : Nat) * q) w3 := by simpa using V3
  go_loopw [] (fun W => ∃ k : Nat, 1 ≤ k ∧ k ≤ K ∧ KV h ((k : Int) * p) ((k : Int) * q) W ∧ Kg g p q W ∧ Kt w.heap.size A B C W ∧ KV (w.heap.size + 1 + 1) 0 0 W ∧ Below w.heap.size w W) (fun W => mesF h p q K W)
  case atStart => exact ⟨1, by omega, HK.out.1.1, V3, X3, L3, R3, B3⟩
  case round =>
   clear V3 X3 L3 R3 B3
   obtain ⟨k, k1, k2, V, X, L, R, BB⟩ := hrel
   have HC := Lib.hid (fun W => contains_any A B C ((k : Int) * p) ((k : Int) * q) W HL.out (by have := HPB.out; have := bd_mul (k := k) (by have := HK.out; omega) this.1; unfold midI; omega) (by have := HPB.out; have := bd_mul (k := k) (by have := HK.out; omega) this.2; unfold midI; omega))
   have HPL := Lib.hid (fun W => plusF_any ((k : Int) * p) ((k : Int) * q) p q W (by have := HPB.out; have := bd_mul (k := k) (by have := HK.out; omega) this.1; unfold midI; omega) (by have := HPB.out; have := bd_mul (k := k) (by have := HK.out; omega) this.2; unfold midI; omega))
   have e1 : (k : Int) * p + p = ((k + 1 : Nat) : Int) * p := by rw [Int.natCast_add, Int.add_mul]; simp
   have e2 : (k : Int) * q + q = ((k + 1 : Nat) : Int) * q := by rw [Int.natCast_add, Int.add_mul]; simp
   rw [e1, e2] at HPL
   have hm0 := mesF_of V (K := K)
   have HM0 := Lib.hid hm0
   clear hm0 e1 e2
   by_cases hk : k = K
   ·have HH := Lib.hid (show hasB A B C ((k : Int) * p) ((k : Int) * q) = true by rw [hk]; exact HK.out.2.1)
    have EA := Lib.hid hk
    clear hk
    obtain ⟨p', hp'⟩ : ∃ z, z = (k : Int) * p := ⟨_, rfl⟩
    obtain ⟨q', hq'⟩ : ∃ z, z = (k : Int) * q := ⟨_, rfl⟩
    rw [← hp', ← hq'] at HC HH V
    have EP := Lib.hid hp'
    have EQ := Lib.hid hq'
    clear hp' hq' HPL
    have vc0 := V.c0
    have vc1 := V.c1
    have lc0 := L.c0
    have lc1 := L.c1
    have lc2 := L.c2
    go_wp2_with fail
    refine (HC.out _).mono ?_
    rintro e w4 ⟨rfl, hb4⟩
    rw [HH.out]
    have V4 := V.call hb4
    have R4 := R.call hb4
    have B4 := bstep BB hb4
    clear V L X R BB hb4 vc0 vc1 lc0 lc1 lc2
    have vc0 := V4.c0
    have vc1 := V4.c1
    have rc0 := R4.c0
    have rc1 := R4.c1
    have rf0 := R4.f0
    have rf1 := R4.f1
    have rl := R4.lt
    go_wp2
    refine bodyPost_ret (v := .agg #[.int .i64 p', .int .i64 q']) (by simp [results, Tryz.results85, go_sem, *]) rfl ⟨by rw [EP.out, EQ.out, EA.out], ?_⟩
    repeat (first | with_reducible assumption | with_reducible exact Below.refl _ _ | with_reducible refine Below.setCell ?_ (by first | omega | (simp <;> omega)) _ | with_reducible refine Below.alloc ?_ (by first | omega | (simp <;> omega)) _ | with_reducible refine bstep ?_ (by with_reducible assumption) | with_reducible refine Below.drew ?_)
   ·have HH := Lib.hid (show hasB A B C ((k : Int) * p) ((k : Int) * q) = false from HK.out.2.2 k k1 (by omega))
    have k3 : k < K := by omega
    clear hk
    obtain ⟨p', hp'⟩ : ∃ z, z = (k : Int) * p := ⟨_, rfl⟩
    obtain ⟨q', hq'⟩ : ∃ z, z = (k : Int) * q := ⟨_, rfl⟩
    obtain ⟨p2, hp2⟩ : ∃ z, z = ((k + 1 : Nat) : Int) * p := ⟨_, rfl⟩
    obtain ⟨q2, hq2⟩ : ∃ z, z = ((k + 1 : Nat) : Int) * q := ⟨_, rfl⟩
    rw [← hp', ← hq'] at HC HH V HPL
    rw [← hp2, ← hq2] at HPL
    have EP := Lib.hid hp2
    have EQ := Lib.hid hq2
    clear hp' hq' hp2 hq2
    have vc0 := V.c0
    have vc1 := V.c1
    have lc0 := L.c0
    have lc1 := L.c1
    have lc2 := L.c2
    go_wp2_with fail
    refine (HC.out _).mono ?_
    rintro e w4 ⟨rfl, hb4⟩
    rw [HH.out]
    have V4 := V.call hb4
    have X4 := X.call hb4
    have L4 := L.call hb4
    have R4 := R.call hb4
    have B4 := bstep BB hb4
    clear V L X R BB hb4 vc0 vc1 lc0 lc1 lc2
    have vc0 := V4.c0
    have vc1 := V4.c1
    have xc0 := X4.c0
    have xc1 := X4.c1
    go_wp2_with fail
    refine (HPL.out _).mono ?_
    rintro e w5 ⟨rfl, hb5⟩
    have V5 := V4.call hb5
    have X5 := X4.call hb5
    have L5 := L4.call hb5
    have R5 := R4.call hb5
    have B5 := bstep B4 hb5
    clear V4 L4 X4 R4 B4 hb5 vc0 vc1 xc0 xc1
    have vc0 := V5.c0
    have vc1 := V5.c1
    have vf0 := V5.f0
    have vf1 := V5.f1
    have vl := V5.lt
    have xl := X5.1
    have ll := L5.1
    have rl := R5.lt
    go_wp2
    go_roundw
    case rel => exact ⟨k + 1, by omega, by omega, by rw [← EP.out, ← EQ.out]; exact KV.store5 V5 _ _, by exact Kg.far (by dsimp only; omega) (Kg.far (by dsimp only; omega) X5), by exact Kt.put (by dsimp only; omega) (Kt.put (by dsimp only; omega) L5), by exact KV.far5 (by dsimp only; omega) (KV.far5 (by dsimp only; omega) R5), by
     repeat (first | with_reducible assumption | with_reducible exact Below.refl _ _ | with_reducible refine Below.setCell ?_ (by first | omega | (simp <;> omega)) _ | with_reducible refine Below.alloc ?_ (by first | omega | (simp <;> omega)) _ | with_reducible refine bstep ?_ (by with_reducible assumption) | with_reducible refine Below.drew ?_)⟩
    case measure =>
     rw [HM0.out, mesF_of (K := K) (p := p) (q := q) (k := k + 1) (by rw [← EP.out, ← EQ.out]; exact KV.store5 V5 _ _)]
     exact mes_lt HPQ.out k3
end Go.Proofs.YtjjfomokecngoaaGreatDoor
