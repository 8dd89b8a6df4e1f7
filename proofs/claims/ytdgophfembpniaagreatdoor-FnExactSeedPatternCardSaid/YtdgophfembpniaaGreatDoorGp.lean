/-
 Several of my texts in one: OrF, Tk7.
-/
import Derived.Test.YtdgophfembpniaaGreatDoorGh
import Derived.Test.YtdgophfembpniaaGreatDoorGg
import Derived.Test.YtdgophfembpniaaGreatDoorSu
import Derived.Test.YtdgophfembpniaaGreatDoorMo1
import Derived.Test.YtdgophfembpniaaGreatDoorMo3
import Derived.Test.YtdgophfembpniaaGreatDoorGe
import Derived.Deep.RegionHeld3
import Derived.IntWalk
namespace Go.Proofs.YtdgophfembpniaaGreatDoor
section
set_option linter.unusedVariables false
set_option linter.unusedSimpArgs false

abbrev V2 := Int × Int
def mv (A B C : Int) (m : M6) (v : V2) : V2 := (redX A B C (m.1 * v.1 + m.2.1 * v.2 + m.2.2.2.2.1) (m.2.2.1 * v.1 + m.2.2.2.1 * v.2 + m.2.2.2.2.2), redY C (m.2.2.1 * v.1 + m.2.2.2.1 * v.2 + m.2.2.2.2.2))
def celB (A C : Int) (v : V2) : Bool := decide (0 ≤ v.1) && (decide (v.1 < A) && (decide (0 ≤ v.2) && decide (v.2 < C)))
theorem celB_iff {A C : Int} {v : V2} : celB A C v = true ↔ (0 ≤ v.1 ∧ v.1 < A) ∧ (0 ≤ v.2 ∧ v.2 < C) := by
 simp only [celB, Bool.and_eq_true, decide_eq_true_eq]; omega
theorem mv_cel {A B C : Int} (hl : latI A B C) (m : M6) (v : V2) : celB A C (mv A B C m v) = true := celB_iff.2 ⟨redX_bd hl, redY_bd hl⟩
theorem mv_one {A B C : Int} (hl : latI A B C) {v : V2} (h : celB A C v = true) : mv A B C oneM v = v := by
 obtain ⟨x, y⟩ := v
 obtain ⟨h1, h2⟩ := celB_iff.1 h
 obtain ⟨e1, e2⟩ := red_cell (A := A) (B := B) (C := C) h1.1 h1.2 h2.1 h2.2
 simp only [mv, oneM, Int.one_mul, Int.zero_mul, Int.add_zero, Int.zero_add]
 rw [e1, e2]
theorem mv_mul {f A B C : Int} (hl : latI A B C) {m : M6} (hm : suiQ f A B C m) (n : M6) (v : V2) : mv A B C (mulM A B C m n) v = mv A B C m (mv A B C n v) := by
 have h := mul_assoc6 (n := n) (k := (1, 0, 0, 1, v.1, v.2)) hl hm
 have h2 := congrArg (fun k : M6 => ((k.2.2.2.2.1, k.2.2.2.2.2) : V2)) h
 exact h2
/- a function of a finite list into itself that is one to one meets all -/
theorem inj_surj {α : Type} [DecidableEq α] {L : List α} (hn : L.Nodup) (φ : α → α) (hin : ∀ x ∈ L, φ x ∈ L) (hinj : ∀ x ∈ L, ∀ y ∈ L, φ x = φ y → x = y) {y : α} (hy : y ∈ L) : ∃ x ∈ L, φ x = y := by
 by_cases h : y ∈ L.map φ
 ·obtain ⟨x, hx, e⟩ := List.mem_map.1 h
  exact ⟨x, hx, e⟩
 ·exfalso
  have hm : (L.map φ).Nodup := by
   have : ∀ l : List α, l.Nodup → (∀ x ∈ l, x ∈ L) → (l.map φ).Nodup := by
    intro l
    induction l with
    | nil => intro _ _; simp
    | cons a l ih =>
     intro hl hs
     rw [List.map_cons]
     have h1 := List.nodup_cons.1 hl
     refine List.nodup_cons.2 ⟨fun hx => ?_, ih h1.2 fun x hx => hs x (by simp [hx])⟩
     obtain ⟨b, hb, e⟩ := List.mem_map.1 hx
     have := hinj b (hs b (by simp [hb])) a (hs a (by simp)) e
     exact h1.1 (this ▸ hb)
   exact this L hn fun x hx => hx
  have := nodup_len (y :: L.map φ) L (List.nodup_cons.2 ⟨h, hm⟩) fun x hx => by
   rcases List.mem_cons.1 hx with rfl | hx
   ·exact hy
   ·obtain ⟨b, hb, rfl⟩ := List.mem_map.1 hx
    exact hin b hb
  rw [List.length_cons, List.length_map] at this; omega
theorem grp_good {f A B C : Int} {G : List M6} (h : grpB f A B C G = true) : latI A B C ∧ frB f = true ∧ GoodR f A B C G := by
 obtain ⟨h1, h2, _⟩ := grp_ok h
 have h5 := h1
 simp only [flB, Bool.and_eq_true] at h5
 exact ⟨latB_iff.1 h5.2, h5.1, fun m hm => ⟨(okM_iff.1 (h2 m hm).1).2.1, (h2 m hm).2⟩⟩
theorem grp_mem2 {f A B C : Int} {L : List M6} (h : grpB f A B C L = true) : oneM ∈ L ∧ ∀ m ∈ L, ∀ n ∈ L, mulM A B C m n ∈ L := by
 unfold grpB at h
 simp only [Bool.and_eq_true, decide_eq_true_eq, List.all_eq_true, List.contains_iff_mem, beq_iff_eq] at h
 exact ⟨h.2.2.2.1, h.2.2.2.2⟩
theorem mul_cancel {f A B C : Int} (hf : frB f = true) (hl : latI A B C) {m n g : M6} (hm : redM A B C m = m) (hn : redM A B C n = n) (hg : suiQ f A B C g) (h : mulM A B C m g = mulM A B C n g) : m = n := by
 obtain ⟨a, b, c, d, x, y⟩ := m
 obtain ⟨a', b', c', d', x', y'⟩ := n
 obtain ⟨p, q, r, s, u, v⟩ := g
 have hd := keep_det hf hg.1
 simp only [mulM, cmpM, cmpI, redM, Prod.mk.injEq] at h
 obtain ⟨h1, h2, h3, h4, h5, h6⟩ := h
 simp only at hd
 have k1 : (a - a') * (p * s - q * r) = 0 := by
  have e : (a - a') * (p * s - q * r) = (a * p + b * r - (a' * p + b' * r)) * s - (a * q + b * s - (a' * q + b' * s)) * r := by grind
  rw [e, h1, h2]; simp
 have k2 : (b - b') * (p * s - q * r) = 0 := by
  have e : (b - b') * (p * s - q * r) = (a * q + b * s - (a' * q + b' * s)) * p - (a * p + b * r - (a' * p + b' * r)) * q := by grind
  rw [e, h1, h2]; simp
 have k3 : (c - c') * (p * s - q * r) = 0 := by
  have e : (c - c') * (p * s - q * r) = (c * p + d * r - (c' * p + d' * r)) * s - (c * q + d * s - (c' * q + d' * s)) * r := by grind
  rw [e, h3, h4]; simp
 have k4 : (d - d') * (p * s - q * r) = 0 := by
  have e : (d - d') * (p * s - q * r) = (c * q + d * s - (c' * q + d' * s)) * p - (c * p + d * r - (c' * p + d' * r)) * q := by grind
  rw [e, h3, h4]; simp
 have hne : p * s - q * r ≠ 0 := by omega
 have z : ∀ t : Int, t * (p * s - q * r) = 0 → t = 0 := fun t ht => (Int.mul_eq_zero.1 ht).resolve_right hne
 have ea := z _ k1
 have eb := z _ k2
 have ec := z _ k3
 have ed := z _ k4
 obtain rfl : a = a' := by omega
 obtain rfl : b = b' := by omega
 obtain rfl : c = c' := by omega
 obtain rfl : d = d' := by omega
 have hi := (red_same hl).1 ⟨h5, h6⟩
 have e1 : a * u + b * v + x - (a * u + b * v + x') = x - x' := by omega
 have e2 : c * u + d * v + y - (c * u + d * v + y') = y - y' := by omega
 rw [e1, e2] at hi
 rw [← hm, ← hn]
 exact redM_eq hl hi
theorem grp_inv {f A B C : Int} {G : List M6} (h : grpB f A B C G = true) {g : M6} (hg : g ∈ G) : ∃ n ∈ G, mulM A B C n g = oneM := by
 obtain ⟨hl, hf, hG⟩ := grp_good h
 obtain ⟨h1, h2⟩ := grp_mem2 h
 exact inj_surj (grp_ok h).2.2.nodup (fun n => mulM A B C n g) (fun n hn => h2 n hn g hg) (fun m hm n hn e => mul_cancel hf hl (hG m hm).2 (hG n hn).2 (hG g hg).1 e) h1
/- which cells the group takes to which -/
def Orb (A B C : Int) (G : List M6) (u v : V2) : Prop := ∃ g ∈ G, mv A B C g u = v
instance (A B C : Int) (G : List M6) (u v : V2) : Decidable (Orb A B C G u v) := inferInstanceAs (Decidable (∃ g ∈ G, mv A B C g u = v))
theorem orb_refl {f A B C : Int} {G : List M6} (h : grpB f A B C G = true) {v : V2} (hv : celB A C v = true) : Orb A B C G v v := ⟨oneM, (grp_mem2 h).1, mv_one (grp_good h).1 hv⟩
theorem orb_trans {f A B C : Int} {G : List M6} (h : grpB f A B C G = true) {u v w : V2} (h1 : Orb A B C G u v) (h2 : Orb A B C G v w) : Orb A B C G u w := by
 obtain ⟨g, hg, rfl⟩ := h1
 obtain ⟨k, hk, rfl⟩ := h2
 exact ⟨mulM A B C k g, (grp_mem2 h).2 k hk g hg, mv_mul (grp_good h).1 ((grp_good h).2.2 k hk).1 g u⟩
theorem orb_symm {f A B C : Int} {G : List M6} (h : grpB f A B C G = true) {u v : V2} (hu : celB A C u = true) (h1 : Orb A B C G u v) : Orb A B C G v u := by
 obtain ⟨g, hg, rfl⟩ := h1
 obtain ⟨n, hn, e⟩ := grp_inv h hg
 refine ⟨n, hn, ?_⟩
 rw [← mv_mul (grp_good h).1 ((grp_good h).2.2 n hn).1 g u, e, mv_one (grp_good h).1 hu]
theorem orb_cel {A B C : Int} (hl : latI A B C) {G : List M6} {u v : V2} (h : Orb A B C G u v) : celB A C v = true := by
 obtain ⟨g, _, rfl⟩ := h
 exact mv_cel hl g u
end
end Go.Proofs.YtdgophfembpniaaGreatDoor

namespace Go.Proofs.YtdgophfembpniaaGreatDoor
section
open Go.RowKit
set_option linter.unusedSimpArgs false
set_option linter.unusedVariables false

theorem cel_vec {A B C : Int} {v : V2} (hl : latI A B C) (h : celB A C v = true) : vecB v.1 v.2 = true := by
 have h1 := celB_iff.1 h
 obtain ⟨b1, b2⟩ := latI_bd hl
 exact decide_eq_true (by omega)
set_option maxRecDepth 100000 in
set_option maxRecDepth 100000 in
set_option maxHeartbeats 8000000 in
theorem taken_any (A B C a b c d x y p q : Int) (w : World) (hl : latI A B C) (hli : limB a b c d = true) (hv : vecB x y = true) (hp : vecB p q = true) (hx : midI (a * p + b * q + x)) (hy : midI (c * p + d * q + y)) :
  Calls Tryz.prog 92 #[.agg #[.int .i64 A, .int .i64 B, .int .i64 C], .agg #[.int .i64 a, .int .i64 b, .int .i64 c, .int .i64 d, .int .i64 x, .int .i64 y], .agg #[.int .i64 p, .int .i64 q]] w fun e w' => e = .returned (.agg #[.int .i64 (redX A B C (a * p + b * q + x) (c * p + d * q + y)), .int .i64 (redY C (c * p + d * q + y))]) ∧ Below w.heap.size w w' := by
 have CA : Hid (∀ W, Calls Tryz.prog 124 #[.agg #[.int .i64 a, .int .i64 b, .int .i64 c, .int .i64 d, .int .i64 x, .int .i64 y], .agg #[.int .i64 p, .int .i64 q]] W fun e w' => e = .returned (.agg #[.int .i64 (a * p + b * q + x), .int .i64 (c * p + d * q + y)]) ∧ Below W.heap.size W w') := Lib.hid (fun W => applyMo_any a b c d x y p q W hli hv hp)
 have CR : Hid (∀ W, Calls Tryz.prog 123 #[.agg #[.int .i64 A, .int .i64 B, .int .i64 C], .agg #[.int .i64 (a * p + b * q + x), .int .i64 (c * p + d * q + y)]] W fun e w' => e = .returned (.agg #[.int .i64 (redX A B C (a * p + b * q + x) (c * p + d * q + y)), .int .i64 (redY C (c * p + d * q + y))]) ∧ Below W.heap.size W w') := Lib.hid (fun W => reduce_any A B C _ _ W hl hx hy)
 clear hli hv hp hx hy hl
 generalize a * p + b * q + x = px at CA CR ⊢
 generalize c * p + d * q + y = py at CA CR ⊢
 generalize redX A B C px py = rx at CR ⊢
 generalize redY C py = ry at CR ⊢
 have L0 : Kt (w.heap.size) A B C ((((w.alloc (.cells #[.int .i64 A, .int .i64 B, .int .i64 C] 32)).alloc (.cells #[.int .i64 a, .int .i64 b, .int .i64 c, .int .i64 d, .int .i64 x, .int .i64 y] 136)).alloc (.cells #[.int .i64 p, .int .i64 q] 55)).alloc (.cells #[.int .i64 0, .int .i64 0] 55)) := ((((Kt.at (w.heap.size) rfl).alloc _).alloc _).alloc _)
 have M0 : Km (w.heap.size + 1) a b c d x y ((((w.alloc (.cells #[.int .i64 A, .int .i64 B, .int .i64 C] 32)).alloc (.cells #[.int .i64 a, .int .i64 b, .int .i64 c, .int .i64 d, .int .i64 x, .int .i64 y] 136)).alloc (.cells #[.int .i64 p, .int .i64 q] 55)).alloc (.cells #[.int .i64 0, .int .i64 0] 55)) := (((Km.at (w.heap.size + 1) (by simp)).alloc _).alloc _)
 have V0 : Kg (w.heap.size + 1 + 1) p q ((((w.alloc (.cells #[.int .i64 A, .int .i64 B, .int .i64 C] 32)).alloc (.cells #[.int .i64 a, .int .i64 b, .int .i64 c, .int .i64 d, .int .i64 x, .int .i64 y] 136)).alloc (.cells #[.int .i64 p, .int .i64 q] 55)).alloc (.cells #[.int .i64 0, .int .i64 0] 55)) := ((Kg.at2 (w.heap.size + 1 + 1) (by simp)).alloc _)
 have R0 : KV (w.heap.size + 1 + 1 + 1) 0 0 ((((w.alloc (.cells #[.int .i64 A, .int .i64 B, .int .i64 C] 32)).alloc (.cells #[.int .i64 a, .int .i64 b, .int .i64 c, .int .i64 d, .int .i64 x, .int .i64 y] 136)).alloc (.cells #[.int .i64 p, .int .i64 q] 55)).alloc (.cells #[.int .i64 0, .int .i64 0] 55)) := (KV.at (w.heap.size + 1 + 1 + 1) (by simp))
 have B0 : Below w.heap.size w ((((w.alloc (.cells #[.int .i64 A, .int .i64 B, .int .i64 C] 32)).alloc (.cells #[.int .i64 a, .int .i64 b, .int .i64 c, .int .i64 d, .int .i64 x, .int .i64 y] 136)).alloc (.cells #[.int .i64 p, .int .i64 q] 55)).alloc (.cells #[.int .i64 0, .int .i64 0] 55)) := (Below.alloc (Below.alloc (Below.alloc (Below.alloc (Below.refl _ _) (by first | with_reducible exact Nat.le_refl _ | (simp <;> omega)) _) (by first | with_reducible exact Nat.le_refl _ | (simp <;> omega)) _) (by first | with_reducible exact Nat.le_refl _ | (simp <;> omega)) _) (by first | with_reducible exact Nat.le_refl _ | (simp <;> omega)) _)
 go_enter Tryz.func92, Tryz.ntmps92
 have L0lt := L0.1
 have M0lt := M0.1
 have V0lt := V0.1
 have R0lt := R0.lt
 go_wp2_with fail
 go_region_held3 (fun W => (W.cell? ⟨w.heap.size, 0, none⟩ = some (.int .i64 A) ∧ W.cell? ⟨w.heap.size, 1, none⟩ = some (.int .i64 B) ∧ W.cell? ⟨w.heap.size, 2, none⟩ = some (.int .i64 C)) ∧ (W.cell? ⟨w.heap.size + 1, 0, none⟩ = some (.int .i64 a) ∧ W.cell? ⟨w.heap.size + 1, 1, none⟩ = some (.int .i64 b) ∧ W.cell? ⟨w.heap.size + 1, 2, none⟩ = some (.int .i64 c) ∧ W.cell? ⟨w.heap.size + 1, 3, none⟩ = some (.int .i64 d) ∧ W.cell? ⟨w.heap.size + 1, 4, none⟩ = some (.int .i64 x) ∧ W.cell? ⟨w.heap.size + 1, 5, none⟩ = some (.int .i64 y)) ∧ (W.cell? ⟨w.heap.size + 1 + 1, 0, none⟩ = some (.int .i64 p) ∧ W.cell? ⟨w.heap.size + 1 + 1, 1, none⟩ = some (.int .i64 q))) ((refine ⟨Kt.cells ?_, Km.cells ?_, Kg.cells ?_⟩ <;> repeat (first | with_reducible assumption | with_reducible refine KV.drew ?_ | with_reducible refine KV.alloc ?_ _ | with_reducible refine KV.call ?_ (by with_reducible assumption) | with_reducible refine Kg.drew ?_ | with_reducible refine Kg.alloc ?_ _ | with_reducible refine Kg.call ?_ (by with_reducible assumption) | with_reducible refine Km.drew ?_ | with_reducible refine Km.alloc ?_ _ | with_reducible refine Km.call ?_ (by with_reducible assumption) | with_reducible refine Kt.drew ?_ | with_reducible refine Kt.alloc ?_ _ | with_reducible refine Kt.call ?_ (by with_reducible assumption) | ((with_reducible refine KV.put ?_ ?_); (first | omega | (dsimp only; omega))) | ((with_reducible refine Kg.put ?_ ?_); (first | omega | (dsimp only; omega))) | ((with_reducible refine Km.put ?_ ?_); (first | omega | (dsimp only; omega))) | ((with_reducible refine Kt.put ?_ ?_); (first | omega | (dsimp only; omega))) | ((with_reducible refine KV.far5 ?_ ?_); (first | omega | (dsimp only; omega))) | ((with_reducible refine Kg.far ?_ ?_); (first | omega | (dsimp only; omega))) | ((with_reducible refine Km.far ?_ ?_); (first | omega | (dsimp only; omega))))))
  (first
   | (go_at_call 124; ((with_reducible refine (CA.out _).mono ?_); rintro e w1 ⟨rfl, hb1⟩; have L1 : Kt (w.heap.size) A B C w1 := (by with_reducible repeat (first | assumption | refine KV.drew ?_ | refine KV.alloc ?_ _ | refine KV.call ?_ (by assumption) | refine Kg.drew ?_ | refine Kg.alloc ?_ _ | refine Kg.call ?_ (by assumption) | refine Km.drew ?_ | refine Km.alloc ?_ _ | refine Km.call ?_ (by assumption) | refine Kt.drew ?_ | refine Kt.alloc ?_ _ | refine Kt.call ?_ (by assumption))); have M1 : Km (w.heap.size + 1) a b c d x y w1 := (by with_reducible repeat (first | assumption | refine KV.drew ?_ | refine KV.alloc ?_ _ | refine KV.call ?_ (by assumption) | refine Kg.drew ?_ | refine Kg.alloc ?_ _ | refine Kg.call ?_ (by assumption) | refine Km.drew ?_ | refine Km.alloc ?_ _ | refine Km.call ?_ (by assumption) | refine Kt.drew ?_ | refine Kt.alloc ?_ _ | refine Kt.call ?_ (by assumption))); have V1 : Kg (w.heap.size + 1 + 1) p q w1 := (by with_reducible repeat (first | assumption | refine KV.drew ?_ | refine KV.alloc ?_ _ | refine KV.call ?_ (by assumption) | refine Kg.drew ?_ | refine Kg.alloc ?_ _ | refine Kg.call ?_ (by assumption) | refine Km.drew ?_ | refine Km.alloc ?_ _ | refine Km.call ?_ (by assumption) | refine Kt.drew ?_ | refine Kt.alloc ?_ _ | refine Kt.call ?_ (by assumption))); have R1 : KV (w.heap.size + 1 + 1 + 1) 0 0 w1 := (by with_reducible repeat (first | assumption | refine KV.drew ?_ | refine KV.alloc ?_ _ | refine KV.call ?_ (by assumption) | refine Kg.drew ?_ | refine Kg.alloc ?_ _ | refine Kg.call ?_ (by assumption) | refine Km.drew ?_ | refine Km.alloc ?_ _ | refine Km.call ?_ (by assumption) | refine Kt.drew ?_ | refine Kt.alloc ?_ _ | refine Kt.call ?_ (by assumption))); have L1l := L1.1; have M1l := M1.1; have V1l := V1.1; have R1c0 := R1.c0; have R1f0 := R1.f0; have R1c1 := R1.c1; have R1f1 := R1.f1; have R1l := R1.lt; have B1 : Below w.heap.size w w1 := (by repeat (first | with_reducible assumption | with_reducible refine Below.drew ?_ | with_reducible refine Below.alloc ?_ (by first | omega | (have := B0.size; simp <;> omega)) _ | with_reducible refine bstep ?_ (by with_reducible assumption)))))
   | (go_at_call 123; ((with_reducible refine (CR.out _).mono ?_); rintro e w2 ⟨rfl, hb2⟩; have L2 : Kt (w.heap.size) A B C w2 := (by with_reducible repeat (first | assumption | refine KV.drew ?_ | refine KV.alloc ?_ _ | refine KV.call ?_ (by assumption) | refine Kg.drew ?_ | refine Kg.alloc ?_ _ | refine Kg.call ?_ (by assumption) | refine Km.drew ?_ | refine Km.alloc ?_ _ | refine Km.call ?_ (by assumption) | refine Kt.drew ?_ | refine Kt.alloc ?_ _ | refine Kt.call ?_ (by assumption))); have M2 : Km (w.heap.size + 1) a b c d x y w2 := (by with_reducible repeat (first | assumption | refine KV.drew ?_ | refine KV.alloc ?_ _ | refine KV.call ?_ (by assumption) | refine Kg.drew ?_ | refine Kg.alloc ?_ _ | refine Kg.call ?_ (by assumption) | refine Km.drew ?_ | refine Km.alloc ?_ _ | refine Km.call ?_ (by assumption) | refine Kt.drew ?_ | refine Kt.alloc ?_ _ | refine Kt.call ?_ (by assumption))); have V2 : Kg (w.heap.size + 1 + 1) p q w2 := (by with_reducible repeat (first | assumption | refine KV.drew ?_ | refine KV.alloc ?_ _ | refine KV.call ?_ (by assumption) | refine Kg.drew ?_ | refine Kg.alloc ?_ _ | refine Kg.call ?_ (by assumption) | refine Km.drew ?_ | refine Km.alloc ?_ _ | refine Km.call ?_ (by assumption) | refine Kt.drew ?_ | refine Kt.alloc ?_ _ | refine Kt.call ?_ (by assumption))); have R2 : KV (w.heap.size + 1 + 1 + 1) 0 0 w2 := (by with_reducible repeat (first | assumption | refine KV.drew ?_ | refine KV.alloc ?_ _ | refine KV.call ?_ (by assumption) | refine Kg.drew ?_ | refine Kg.alloc ?_ _ | refine Kg.call ?_ (by assumption) | refine Km.drew ?_ | refine Km.alloc ?_ _ | refine Km.call ?_ (by assumption) | refine Kt.drew ?_ | refine Kt.alloc ?_ _ | refine Kt.call ?_ (by assumption))); have L2l := L2.1; have M2l := M2.1; have V2l := V2.1; have R2c0 := R2.c0; have R2f0 := R2.f0; have R2c1 := R2.c1; have R2f1 := R2.f1; have R2l := R2.lt; have B2 : Below w.heap.size w w2 := (by repeat (first | with_reducible assumption | with_reducible refine Below.drew ?_ | with_reducible refine Below.alloc ?_ (by first | omega | (have := B0.size; simp <;> omega)) _ | with_reducible refine bstep ?_ (by with_reducible assumption))))))
 all_goals
  go_wp2
  refine bodyPost_ret (v := .agg #[.int .i64 rx, .int .i64 ry]) (by simp [results, Tryz.results92, go_sem, *]) rfl ⟨rfl, ?_⟩
  repeat (first | with_reducible assumption | with_reducible exact Below.refl _ _ | with_reducible refine Below.setCell ?_ (by first | omega | (simp <;> omega)) _ | with_reducible refine Below.alloc ?_ (by first | omega | (simp <;> omega)) _ | with_reducible refine bstep ?_ (by with_reducible assumption) | with_reducible refine Below.drew ?_)
set_option maxRecDepth 100000 in
set_option maxRecDepth 100000 in
set_option maxHeartbeats 8000000 in
theorem l07Move_any (A B C a b c d x y p q : Int) (w : World) (hl : latI A B C) (hli : limB a b c d = true) (hv : vecB x y = true) (hp : vecB p q = true) (hx : midI (a * p + b * q + x)) (hy : midI (c * p + d * q + y)) :
  Calls Tryz.prog 97 #[.agg #[.int .i64 A, .int .i64 B, .int .i64 C], .agg #[.int .i64 a, .int .i64 b, .int .i64 c, .int .i64 d, .int .i64 x, .int .i64 y], .agg #[.int .i64 p, .int .i64 q]] w fun e w' => e = .returned (.agg #[.int .i64 (redX A B C (a * p + b * q + x) (c * p + d * q + y)), .int .i64 (redY C (c * p + d * q + y))]) ∧ Below w.heap.size w w' := by
 have CA : Hid (∀ W, Calls Tryz.prog 112 #[.agg #[.int .i64 a, .int .i64 b, .int .i64 c, .int .i64 d, .int .i64 x, .int .i64 y], .agg #[.int .i64 p, .int .i64 q]] W fun e w' => e = .returned (.agg #[.int .i64 (a * p + b * q + x), .int .i64 (c * p + d * q + y)]) ∧ Below W.heap.size W w') := Lib.hid (fun W => l05Apply_any a b c d x y p q W hli hv hp)
 have CR : Hid (∀ W, Calls Tryz.prog 98 #[.agg #[.int .i64 A, .int .i64 B, .int .i64 C], .agg #[.int .i64 (a * p + b * q + x), .int .i64 (c * p + d * q + y)]] W fun e w' => e = .returned (.agg #[.int .i64 (redX A B C (a * p + b * q + x) (c * p + d * q + y)), .int .i64 (redY C (c * p + d * q + y))]) ∧ Below W.heap.size W w') := Lib.hid (fun W => l03Reduce_any A B C _ _ W hl hx hy)
 clear hli hv hp hx hy hl
 generalize a * p + b * q + x = px at CA CR ⊢
 generalize c * p + d * q + y = py at CA CR ⊢
 generalize redX A B C px py = rx at CR ⊢
 generalize redY C py = ry at CR ⊢
 have L0 : Kt (w.heap.size) A B C ((((w.alloc (.cells #[.int .i64 A, .int .i64 B, .int .i64 C] 32)).alloc (.cells #[.int .i64 a, .int .i64 b, .int .i64 c, .int .i64 d, .int .i64 x, .int .i64 y] 81)).alloc (.cells #[.int .i64 p, .int .i64 q] 55)).alloc (.cells #[.int .i64 0, .int .i64 0] 55)) := ((((Kt.at (w.heap.size) rfl).alloc _).alloc _).alloc _)
 have M0 : Km (w.heap.size + 1) a b c d x y ((((w.alloc (.cells #[.int .i64 A, .int .i64 B, .int .i64 C] 32)).alloc (.cells #[.int .i64 a, .int .i64 b, .int .i64 c, .int .i64 d, .int .i64 x, .int .i64 y] 81)).alloc (.cells #[.int .i64 p, .int .i64 q] 55)).alloc (.cells #[.int .i64 0, .int .i64 0] 55)) := (((Km.at (w.heap.size + 1) (by simp)).alloc _).alloc _)
 have V0 : Kg (w.heap.size + 1 + 1) p q ((((w.alloc (.cells #[.int .i64 A, .int .i64 B, .int .i64 C] 32)).alloc (.cells #[.int .i64 a, .int .i64 b, .int .i64 c, .int .i64 d, .int .i64 x, .int .i64 y] 81)).alloc (.cells #[.int .i64 p, .int .i64 q] 55)).alloc (.cells #[.int .i64 0, .int .i64 0] 55)) := ((Kg.at2 (w.heap.size + 1 + 1) (by simp)).alloc _)
 have R0 : KV (w.heap.size + 1 + 1 + 1) 0 0 ((((w.alloc (.cells #[.int .i64 A, .int .i64 B, .int .i64 C] 32)).alloc (.cells #[.int .i64 a, .int .i64 b, .int .i64 c, .int .i64 d, .int .i64 x, .int .i64 y] 81)).alloc (.cells #[.int .i64 p, .int .i64 q] 55)).alloc (.cells #[.int .i64 0, .int .i64 0] 55)) := (KV.at (w.heap.size + 1 + 1 + 1) (by simp))
 have B0 : Below w.heap.size w ((((w.alloc (.cells #[.int .i64 A, .int .i64 B, .int .i64 C] 32)).alloc (.cells #[.int .i64 a, .int .i64 b, .int .i64 c, .int .i64 d, .int .i64 x, .int .i64 y] 81)).alloc (.cells #[.int .i64 p, .int .i64 q] 55)).alloc (.cells #[.int .i64 0, .int .i64 0] 55)) := (Below.alloc (Below.alloc (Below.alloc (Below.alloc (Below.refl _ _) (by first | with_reducible exact Nat.le_refl _ | (simp <;> omega)) _) (by first | with_reducible exact Nat.le_refl _ | (simp <;> omega)) _) (by first | with_reducible exact Nat.le_refl _ | (simp <;> omega)) _) (by first | with_reducible exact Nat.le_refl _ | (simp <;> omega)) _)
 go_enter Tryz.func97, Tryz.ntmps97
 have L0lt := L0.1
 have M0lt := M0.1
 have V0lt := V0.1
 have R0lt := R0.lt
 go_wp2_with fail
 go_region_held3 (fun W => (W.cell? ⟨w.heap.size, 0, none⟩ = some (.int .i64 A) ∧ W.cell? ⟨w.heap.size, 1, none⟩ = some (.int .i64 B) ∧ W.cell? ⟨w.heap.size, 2, none⟩ = some (.int .i64 C)) ∧ (W.cell? ⟨w.heap.size + 1, 0, none⟩ = some (.int .i64 a) ∧ W.cell? ⟨w.heap.size + 1, 1, none⟩ = some (.int .i64 b) ∧ W.cell? ⟨w.heap.size + 1, 2, none⟩ = some (.int .i64 c) ∧ W.cell? ⟨w.heap.size + 1, 3, none⟩ = some (.int .i64 d) ∧ W.cell? ⟨w.heap.size + 1, 4, none⟩ = some (.int .i64 x) ∧ W.cell? ⟨w.heap.size + 1, 5, none⟩ = some (.int .i64 y)) ∧ (W.cell? ⟨w.heap.size + 1 + 1, 0, none⟩ = some (.int .i64 p) ∧ W.cell? ⟨w.heap.size + 1 + 1, 1, none⟩ = some (.int .i64 q))) ((refine ⟨Kt.cells ?_, Km.cells ?_, Kg.cells ?_⟩ <;> repeat (first | with_reducible assumption | with_reducible refine KV.drew ?_ | with_reducible refine KV.alloc ?_ _ | with_reducible refine KV.call ?_ (by with_reducible assumption) | with_reducible refine Kg.drew ?_ | with_reducible refine Kg.alloc ?_ _ | with_reducible refine Kg.call ?_ (by with_reducible assumption) | with_reducible refine Km.drew ?_ | with_reducible refine Km.alloc ?_ _ | with_reducible refine Km.call ?_ (by with_reducible assumption) | with_reducible refine Kt.drew ?_ | with_reducible refine Kt.alloc ?_ _ | with_reducible refine Kt.call ?_ (by with_reducible assumption) | ((with_reducible refine KV.put ?_ ?_); (first | omega | (dsimp only; omega))) | ((with_reducible refine Kg.put ?_ ?_); (first | omega | (dsimp only; omega))) | ((with_reducible refine Km.put ?_ ?_); (first | omega | (dsimp only; omega))) | ((with_reducible refine Kt.put ?_ ?_); (first | omega | (dsimp only; omega))) | ((with_reducible refine KV.far5 ?_ ?_); (first | omega | (dsimp only; omega))) | ((with_reducible refine Kg.far ?_ ?_); (first | omega | (dsimp only; omega))) | ((with_reducible refine Km.far ?_ ?_); (first | omega | (dsimp only; omega))))))
  (first
   | (go_at_call 112; ((with_reducible refine (CA.out _).mono ?_); rintro e w1 ⟨rfl, hb1⟩; have L1 : Kt (w.heap.size) A B C w1 := (by with_reducible repeat (first | assumption | refine KV.drew ?_ | refine KV.alloc ?_ _ | refine KV.call ?_ (by assumption) | refine Kg.drew ?_ | refine Kg.alloc ?_ _ | refine Kg.call ?_ (by assumption) | refine Km.drew ?_ | refine Km.alloc ?_ _ | refine Km.call ?_ (by assumption) | refine Kt.drew ?_ | refine Kt.alloc ?_ _ | refine Kt.call ?_ (by assumption))); have M1 : Km (w.heap.size + 1) a b c d x y w1 := (by with_reducible repeat (first | assumption | refine KV.drew ?_ | refine KV.alloc ?_ _ | refine KV.call ?_ (by assumption) | refine Kg.drew ?_ | refine Kg.alloc ?_ _ | refine Kg.call ?_ (by assumption) | refine Km.drew ?_ | refine Km.alloc ?_ _ | refine Km.call ?_ (by assumption) | refine Kt.drew ?_ | refine Kt.alloc ?_ _ | refine Kt.call ?_ (by assumption))); have V1 : Kg (w.heap.size + 1 + 1) p q w1 := (by with_reducible repeat (first | assumption | refine KV.drew ?_ | refine KV.alloc ?_ _ | refine KV.call ?_ (by assumption) | refine Kg.drew ?_ | refine Kg.alloc ?_ _ | refine Kg.call ?_ (by assumption) | refine Km.drew ?_ | refine Km.alloc ?_ _ | refine Km.call ?_ (by assumption) | refine Kt.drew ?_ | refine Kt.alloc ?_ _ | refine Kt.call ?_ (by assumption))); have R1 : KV (w.heap.size + 1 + 1 + 1) 0 0 w1 := (by with_reducible repeat (first | assumption | refine KV.drew ?_ | refine KV.alloc ?_ _ | refine KV.call ?_ (by assumption) | refine Kg.drew ?_ | refine Kg.alloc ?_ _ | refine Kg.call ?_ (by assumption) | refine Km.drew ?_ | refine Km.alloc ?_ _ | refine Km.call ?_ (by assumption) | refine Kt.drew ?_ | refine Kt.alloc ?_ _ | refine Kt.call ?_ (by assumption))); have L1l := L1.1; have M1l := M1.1; have V1l := V1.1; have R1c0 := R1.c0; have R1f0 := R1.f0; have R1c1 := R1.c1; have R1f1 := R1.f1; have R1l := R1.lt; have B1 : Below w.heap.size w w1 := (by repeat (first | with_reducible assumption | with_reducible refine Below.drew ?_ | with_reducible refine Below.alloc ?_ (by first | omega | (have := B0.size; simp <;> omega)) _ | with_reducible refine bstep ?_ (by with_reducible assumption)))))
   | (go_at_call 98; ((with_reducible refine (CR.out _).mono ?_); rintro e w2 ⟨rfl, hb2⟩; have L2 : Kt (w.heap.size) A B C w2 := (by with_reducible repeat (first | assumption | refine KV.drew ?_ | refine KV.alloc ?_ _ | refine KV.call ?_ (by assumption) | refine Kg.drew ?_ | refine Kg.alloc ?_ _ | refine Kg.call ?_ (by assumption) | refine Km.drew ?_ | refine Km.alloc ?_ _ | refine Km.call ?_ (by assumption) | refine Kt.drew ?_ | refine Kt.alloc ?_ _ | refine Kt.call ?_ (by assumption))); have M2 : Km (w.heap.size + 1) a b c d x y w2 := (by with_reducible repeat (first | assumption | refine KV.drew ?_ | refine KV.alloc ?_ _ | refine KV.call ?_ (by assumption) | refine Kg.drew ?_ | refine Kg.alloc ?_ _ | refine Kg.call ?_ (by assumption) | refine Km.drew ?_ | refine Km.alloc ?_ _ | refine Km.call ?_ (by assumption) | refine Kt.drew ?_ | refine Kt.alloc ?_ _ | refine Kt.call ?_ (by assumption))); have V2 : Kg (w.heap.size + 1 + 1) p q w2 := (by with_reducible repeat (first | assumption | refine KV.drew ?_ | refine KV.alloc ?_ _ | refine KV.call ?_ (by assumption) | refine Kg.drew ?_ | refine Kg.alloc ?_ _ | refine Kg.call ?_ (by assumption) | refine Km.drew ?_ | refine Km.alloc ?_ _ | refine Km.call ?_ (by assumption) | refine Kt.drew ?_ | refine Kt.alloc ?_ _ | refine Kt.call ?_ (by assumption))); have R2 : KV (w.heap.size + 1 + 1 + 1) 0 0 w2 := (by with_reducible repeat (first | assumption | refine KV.drew ?_ | refine KV.alloc ?_ _ | refine KV.call ?_ (by assumption) | refine Kg.drew ?_ | refine Kg.alloc ?_ _ | refine Kg.call ?_ (by assumption) | refine Km.drew ?_ | refine Km.alloc ?_ _ | refine Km.call ?_ (by assumption) | refine Kt.drew ?_ | refine Kt.alloc ?_ _ | refine Kt.call ?_ (by assumption))); have L2l := L2.1; have M2l := M2.1; have V2l := V2.1; have R2c0 := R2.c0; have R2f0 := R2.f0; have R2c1 := R2.c1; have R2f1 := R2.f1; have R2l := R2.lt; have B2 : Below w.heap.size w w2 := (by repeat (first | with_reducible assumption | with_reducible refine Below.drew ?_ | with_reducible refine Below.alloc ?_ (by first | omega | (have := B0.size; simp <;> omega)) _ | with_reducible refine bstep ?_ (by with_reducible assumption))))))
 all_goals
  go_wp2
  refine bodyPost_ret (v := .agg #[.int .i64 rx, .int .i64 ry]) (by simp [results, Tryz.results97, go_sem, *]) rfl ⟨rfl, ?_⟩
  repeat (first | with_reducible assumption | with_reducible exact Below.refl _ _ | with_reducible refine Below.setCell ?_ (by first | omega | (simp <;> omega)) _ | with_reducible refine Below.alloc ?_ (by first | omega | (simp <;> omega)) _ | with_reducible refine bstep ?_ (by with_reducible assumption) | with_reducible refine Below.drew ?_)
def eqV2 (a b a' b' : Int) : Bool := a == a' && b == b'
theorem eqV2_dec (u v : V2) : eqV2 u.1 u.2 v.1 v.2 = decide (u = v) := by
 obtain ⟨a, b⟩ := u
 obtain ⟨a', b'⟩ := v
 rw [Bool.eq_iff_iff]
 simp [eqV2, Prod.mk.injEq]
set_option maxHeartbeats 4000000 in
theorem eqVe7 (a b a' b' : Int) (w : World) : (Op.equalIn 10000 55 (.agg #[.int .i64 a, .int .i64 b]) (.agg #[.int .i64 a', .int .i64 b'])).run Tryz.prog w = .ok (eqV2 a b a' b') w := by
 have hu := Tryz.underlying55
 rw [show (10000 : Nat) = 9999 + 1 from rfl, run_equalIn_struct _ _ _ _ _ (by simp only [Program.fieldsOf, hu]) (by kernel_rfl)]
 simp only [Program.fieldsOf, hu]
 have u3 := Tryz.underlying2
 have a3 := Tryz.isAgg2
 have z3 := Tryz.sizeOf2
 unfold eqV2
 rcases h1 : (a == a') with _ | _ <;> rcases h2 : (b == b') with _ | _ <;> go_simp <;> simp_all
attribute [local go_sem ↓] eqVe7
end
end Go.Proofs.YtdgophfembpniaaGreatDoor

