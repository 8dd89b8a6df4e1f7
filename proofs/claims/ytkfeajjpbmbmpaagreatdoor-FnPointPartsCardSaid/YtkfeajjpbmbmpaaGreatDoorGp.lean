/-
  Several of my texts in one: OrF, Tk7.
-/
import Derived.Test.YtkfeajjpbmbmpaaGreatDoorGh
import Derived.Test.YtkfeajjpbmbmpaaGreatDoorGg
import Derived.Test.YtkfeajjpbmbmpaaGreatDoorSu
import Derived.Test.YtkfeajjpbmbmpaaGreatDoorMo1
import Derived.Test.YtkfeajjpbmbmpaaGreatDoorMo3
import Derived.Test.YtkfeajjpbmbmpaaGreatDoorGe
import Derived.Deep.RegionHeld3
import Derived.IntWalk
namespace Go.Proofs.YtkfeajjpbmbmpaaGreatDoor
section
set_option linter.unusedVariables false
set_option linter.unusedSimpArgs false

abbrev V2 := Int × Int
def mv (A B C : Int) (m : M6) (v : V2) : V2 := (redX A B C (m.1 * v.1 + m.2.1 * v.2 + m.2.2.2.2.1) (m.2.2.1 * v.1 + m.2.2.2.1 * v.2 + m.2.2.2.2.2), redY C (m.2.2.1 * v.1 + m.2.2.2.1 * v.2 + m.2.2.2.2.2))
/- a function of a finite list into itself that is one to one meets all -/
theorem inj_surj {α : Type} [DecidableEq α] {L : List α} (hn : L.Nodup) (φ : α → α) (hin : ∀ x ∈ L, φ x ∈ L) (hinj : ∀ x ∈ L, ∀ y ∈ L, φ x = φ y → x = y) {y : α} (hy : y ∈ L) : ∃ x ∈ L, φ x = y := by
  by_cases h : y ∈ L.map φ
  · obtain ⟨x, hx, e⟩ := List.mem_map.1 h
    exact ⟨x, hx, e⟩
  · exfalso
    have hm : (L.map φ).Nodup := by
      have : ∀ l : List α, l.Nodup → (∀ x ∈ l, x ∈ L) → (l.map φ).Nodup := by
        intro l
        induction l with
        | nil => intro _ _; simp
        | cons a l ih =>
          intro hl hs
          rw [List.map_cons]
          have h1 := List.nodup_cons.1 hl
          refine List.nodup_cons.2 ⟨fun hx => ?_, ih h1.2 fun x hx => hs x (by simp [hx])⟩
          obtain ⟨b, hb, e⟩ := List.mem_map.1 hx
          have := hinj b (hs b (by simp [hb])) a (hs a (by simp)) e
          exact h1.1 (this ▸ hb)
      exact this L hn fun x hx => hx
    have := nodup_len (y :: L.map φ) L (List.nodup_cons.2 ⟨h, hm⟩) fun x hx => by
      rcases List.mem_cons.1 hx with rfl | hx
      · exact hy
      · obtain ⟨b, hb, rfl⟩ := List.mem_map.1 hx
        exact hin b hb
    rw [List.length_cons, List.length_map] at this; omega
theorem grp_good {f A B C : Int} {G : List M6} (h : grpB f A B C G = true) : latI A B C ∧ frB f = true ∧ GoodR f A B C G := by
  obtain ⟨h1, h2, _⟩ := grp_ok h
  have h5 := h1
  simp only [flB, Bool.and_eq_true] at h5
  exact ⟨latB_iff.1 h5.2, h5.1, fun m hm => ⟨(okM_iff.1 (h2 m hm).1).2.1, (h2 m hm).2⟩⟩
theorem grp_mem2 {f A B C : Int} {L : List M6} (h : grpB f A B C L = true) : oneM ∈ L ∧ ∀ m ∈ L, ∀ n ∈ L, mulM A B C m n ∈ L := by
  unfold grpB at h
  simp only [Bool.and_eq_true, decide_eq_true_eq, List.all_eq_true, List.contains_iff_mem, beq_iff_eq] at h
  exact ⟨h.2.2.2.1, h.2.2.2.2⟩
theorem mul_cancel {f A B C : Int} (hf : frB f = true) (hl : latI A B C) {m n g : M6} (hm : redM A B C m = m) (hn : redM A B C n = n) (hg : suiQ f A B C g) (h : mulM A B C m g = mulM A B C n g) : m = n := by
  obtain ⟨a, b, c, d, x, y⟩ := m
  obtain ⟨a', b', c', d', x', y'⟩ := n
  obtain ⟨p, q, r, s, u, v⟩ := g
  have hd := keep_det hf hg.1
  simp only [mulM, cmpM, cmpI, redM, Prod.mk.injEq] at h
  obtain ⟨h1, h2, h3, h4, h5, h6⟩ := h
  simp only at hd
  have k1 : (a - a') * (p * s - q * r) = 0 := by
    have e : (a - a') * (p * s - q * r) = (a * p + b * r - (a' * p + b' * r)) * s - (a * q + b * s - (a' * q + b' * s)) * r := by grind
    rw [e, h1, h2]; simp
  have k2 : (b - b') * (p * s - q * r) = 0 := by
    have e : (b - b') * (p * s - q * r) = (a * q + b * s - (a' * q + b' * s)) * p - (a * p + b * r - (a' * p + b' * r)) * q := by grind
    rw [e, h1, h2]; simp
  have k3 : (c - c') * (p * s - q * r) = 0 := by
    have e : (c - c') * (p * s - q * r) = (c * p + d * r - (c' * p + d' * r)) * s - (c * q + d * s - (c' * q + d' * s)) * r := by grind
    rw [e, h3, h4]; simp
  have k4 : (d - d') * (p * s - q * r) = 0 := by
    have e : (d - d') * (p * s - q * r) = (c * q + d * s - (c' * q + d' * s)) * p - (c * p + d * r - (c' * p + d' * r)) * q := by grind
    rw [e, h3, h4]; simp
  have hne : p * s - q * r ≠ 0 := by omega
  have z : ∀ t : Int, t * (p * s - q * r) = 0 → t = 0 := fun t ht => (Int.mul_eq_zero.1 ht).resolve_right hne
  have ea := z _ k1
  have eb := z _ k2
  have ec := z _ k3
  have ed := z _ k4
  obtain rfl : a = a' := by omega
  obtain rfl : b = b' := by omega
  obtain rfl : c = c' := by omega
  obtain rfl : d = d' := by omega
  have hi := (red_same hl).1 ⟨h5, h6⟩
  have e1 : a * u + b * v + x - (a * u + b * v + x') = x - x' := by omega
  have e2 : c * u + d * v + y - (c * u + d * v + y') = y - y' := by omega
  rw [e1, e2] at hi
  rw [← hm, ← hn]
  exact redM_eq hl hi
theorem grp_inv {f A B C : Int} {G : List M6} (h : grpB f A B C G = true) {g : M6} (hg : g ∈ G) : ∃ n ∈ G, mulM A B C n g = oneM := by
  obtain ⟨hl, hf, hG⟩ := grp_good h
  obtain ⟨h1, h2⟩ := grp_mem2 h
  exact inj_surj (grp_ok h).2.2.nodup (fun n => mulM A B C n g) (fun n hn => h2 n hn g hg) (fun m hm n hn e => mul_cancel hf hl (hG m hm).2 (hG n hn).2 (hG g hg).1 e) h1
/- which cells the group takes to which -/
def Orb (A B C : Int) (G : List M6) (u v : V2) : Prop := ∃ g ∈ G, mv A B C g u = v
instance (A B C : Int) (G : List M6) (u v : V2) : Decidable (Orb A B C G u v) := inferInstanceAs (Decidable (∃ g ∈ G, mv A B C g u = v))
end
end Go.Proofs.YtkfeajjpbmbmpaaGreatDoor

namespace Go.Proofs.YtkfeajjpbmbmpaaGreatDoor
section
open Go.RowKit
set_option linter.unusedSimpArgs false
set_option linter.unusedVariables false

def eqV2 (a b a' b' : Int) : Bool := a == a' && b == b'
set_option maxHeartbeats 4000000 in
theorem eqVe7 (a b a' b' : Int) (w : World) : (Op.equalIn 10000 31 (.agg #[.int .i64 a, .int .i64 b]) (.agg #[.int .i64 a', .int .i64 b'])).run Tryz.prog w = .ok (eqV2 a b a' b') w := by
  have hu := Tryz.underlying31
  rw [show (10000 : Nat) = 9999 + 1 from rfl, run_equalIn_struct _ _ _ _ _ (by simp only [Program.fieldsOf, hu]) (by kernel_rfl)]
  simp only [Program.fieldsOf, hu]
  have u3 := Tryz.underlying2
  have a3 := Tryz.isAgg2
  have z3 := Tryz.sizeOf2
  unfold eqV2
  rcases h1 : (a == a') with _ | _ <;> rcases h2 : (b == b') with _ | _ <;> go_simp <;> simp_all
attribute [local go_sem ↓] eqVe7
end
end Go.Proofs.YtkfeajjpbmbmpaaGreatDoor

