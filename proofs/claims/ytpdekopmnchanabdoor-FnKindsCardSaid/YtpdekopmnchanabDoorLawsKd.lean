/-
  The walk of the law FnKinds: it returns true at every code and writes nothing that was there. Conditions: the code's bytes can be read; the program's variable unitMatrix holds the unit.
-/
import Derived.Test.YtpdekopmnchanabDoorMoG
import Derived.Test.YtpdekopmnchanabDoorDrawM2
import Derived.Deep.RegionHeld3
import Derived.ProofKit
import Derived.OpenShut
namespace Go.Proofs.YtpdekopmnchanabDoor
open Go.RowKit Go.ChangeShapes Go.WideShapes Go.ChangeAt
set_option linter.unusedSimpArgs false
set_option linter.unusedVariables false

attribute [local go_sem ↓] eqMoR
def IsRow (k : IntKind) (w : World) (a : Option Addr) (len cap : Nat) (zs : List Int) : Prop :=
  (a = none ∧ len = 0 ∧ cap = 0 ∧ zs = []) ∨
  ∃ x, a = some x ∧ len ≤ cap ∧ cap ≤ maxLen ∧ zs.length = cap ∧ (∀ i, i < zs.length → w.cell? (x.add i) = some (.int k (zs.getD i 0))) ∧ ∀ n ∈ zs, (Lit.int k n).wf = true

theorem rowBts {w : World} {a0 : Option Addr} {len cap : Nat} {zs : List Int} (h : IsRow .u8 w a0 len cap zs) : Bts a0 len w.heap.size w := by
  rcases h with ⟨_, h, _, _⟩ | ⟨x, rfl, h1, h2, h3, h4, h5⟩
  · exact .inl h
  · by_cases h0 : len = 0
    · exact .inl h0
    · obtain ⟨b, off, rfl, hc⟩ := ints_at h4 (by omega)
      refine .inr ⟨b, off, rfl, World.block_lt_of_cell? _ _ (hc 0 (by omega)), fun i hi => ?_⟩
      have hb := bounds_u8 (h5 (zs.getD i 0) (by
        rw [List.getD_eq_getElem?_getD, List.getElem?_eq_getElem (by omega)]
        exact List.getElem_mem _))
      exact ⟨_, hb.1, hb.2, hc i (by omega)⟩

set_option maxRecDepth 100000 in
set_option maxHeartbeats 4000000 in
theorem walkKinds (a0 : Option Addr) (len cap : Nat) (zs : List Int) (w : World) (w0 : IsRow .u8 w a0 len cap zs) (hU : UnitOK w) :
    Calls Tryd.prog 4 #[.slice a0 len cap] w fun e w' => e = .returned (.bool true) ∧ Below w.heap.size w w' := by
  have U0 : Kq (0) 1 0 0 1 w := hU
  have B0 : Below w.heap.size w w := Below.refl _ _
  by_cases hbig : 4096 < len
  · have hb1 : (4096 : Int) < (len : Int) := by omega
    have hb2 : len ≤ 9223372036854775807 := by
      rcases w0 with ⟨_, h, _, _⟩ | ⟨x, rfl, h1, h2, h3, h4, h5⟩
      · omega
      · unfold maxLen at h2; omega
    go_enter Tryd.func4, Tryd.ntmps4
    go_wp2
    go_ret
    exact ⟨rfl, Below.refl _ _⟩
  have hB := rowBts w0
  have hl : len ≤ 4096 := by omega
  clear w0
  go_enter Tryd.func4, Tryd.ntmps4
  go_wp2_with (go_at_call 5; go_in)
  refine (drawKnd_any a0 len cap _ (by omega) (hB.grow B0 (by have := B0.size; first | omega | (simp <;> omega)))).mono ?_
  rintro e w1 ⟨a, b, c, d, x, y, rfl, hb1⟩
  have U1 : Kq (0) 1 0 0 1 w1 := Kq.call U0 hb1
  have B1 : Below w.heap.size w w1 := bstep B0 hb1
  clear hb1 B0 U0
  have U1c0 := U1.c0
  have U1c1 := U1.c1
  have U1c2 := U1.c2
  have U1c3 := U1.c3
  have U1l := U1.1
  have U1n : ¬ 0 = w1.heap.size := by omega
  go_wp2_with fail
  refine (implKnd_any _ _ _ _ _ _ _ (U1.alloc _)).mono ?_
  rintro e w2 ⟨he, hb2⟩
  unfold intT at he
  subst he
  have U2 : Kq (0) 1 0 0 1 w2 := Kq.call (U1.alloc _) hb2
  have M2 : Km (w1.heap.size) a b c d x y w2 := (Km.at (w1.heap.size) (by simp) : Km (w1.heap.size) a b c d x y _).call hb2
  have B2 : Below w.heap.size w w2 := bstep (Below.alloc B1 (by have := B1.size; first | omega | (simp <;> omega)) _) hb2
  clear hb2 B1 U1
  clear U1c0 U1c1 U1c2 U1c3 U1l U1n
  have U2c0 := U2.c0
  have U2c1 := U2.c1
  have U2c2 := U2.c2
  have U2c3 := U2.c3
  have U2l := U2.1
  have U2n : ¬ 0 = w2.heap.size := by omega
  have M2c0 := M2.c0
  have M2c1 := M2.c1
  have M2c2 := M2.c2
  have M2c3 := M2.c3
  have M2c4 := M2.c4
  have M2c5 := M2.c5
  have M2l := M2.1
  have M2n : ¬ w1.heap.size = w2.heap.size := by omega
  go_wp2_with fail
  refine (specKnd_any _ _ _ _ _ _ _).mono ?_
  rintro e w3 ⟨he, hb3⟩
  unfold intT at he
  subst he
  have U3 : Kq (0) 1 0 0 1 w3 := Kq.call U2 hb3
  have M3 : Km (w1.heap.size) a b c d x y w3 := Km.call M2 hb3
  have B3 : Below w.heap.size w w3 := bstep B2 hb3
  clear hb3 B2 U2 M2
  clear U2c0 U2c1 U2c2 U2c3 U2l U2n M2c0 M2c1 M2c2 M2c3 M2c4 M2c5 M2l M2n
  have U3c0 := U3.c0
  have U3c1 := U3.c1
  have U3c2 := U3.c2
  have U3c3 := U3.c3
  have U3l := U3.1
  have U3n : ¬ 0 = w3.heap.size := by omega
  have M3c0 := M3.c0
  have M3c1 := M3.c1
  have M3c2 := M3.c2
  have M3c3 := M3.c3
  have M3c4 := M3.c4
  have M3c5 := M3.c5
  have M3l := M3.1
  have M3n : ¬ w1.heap.size = w3.heap.size := by omega
  go_wp2_with fail
  refine (implOmo_any _ _ _ _ _ _ _ U3).mono ?_
  rintro e w4 ⟨he, hb4⟩
  unfold intT at he
  subst he
  have U4 : Kq (0) 1 0 0 1 w4 := Kq.call U3 hb4
  have M4 : Km (w1.heap.size) a b c d x y w4 := Km.call M3 hb4
  have B4 : Below w.heap.size w w4 := bstep B3 hb4
  clear hb4 B3 U3 M3
  clear U3c0 U3c1 U3c2 U3c3 U3l U3n M3c0 M3c1 M3c2 M3c3 M3c4 M3c5 M3l M3n
  have U4c0 := U4.c0
  have U4c1 := U4.c1
  have U4c2 := U4.c2
  have U4c3 := U4.c3
  have U4l := U4.1
  have U4n : ¬ 0 = w4.heap.size := by omega
  have M4c0 := M4.c0
  have M4c1 := M4.c1
  have M4c2 := M4.c2
  have M4c3 := M4.c3
  have M4c4 := M4.c4
  have M4c5 := M4.c5
  have M4l := M4.1
  have M4n : ¬ w1.heap.size = w4.heap.size := by omega
  go_wp2_with fail
  refine (specOmo_any _ _ _ _ _ _ _).mono ?_
  rintro e w5 ⟨he, hb5⟩
  unfold intT at he
  subst he
  have U5 : Kq (0) 1 0 0 1 w5 := Kq.call U4 hb5
  have M5 : Km (w1.heap.size) a b c d x y w5 := Km.call M4 hb5
  have B5 : Below w.heap.size w w5 := bstep B4 hb5
  clear hb5 B4 U4 M4
  clear U4c0 U4c1 U4c2 U4c3 U4l U4n M4c0 M4c1 M4c2 M4c3 M4c4 M4c5 M4l M4n
  have U5c0 := U5.c0
  have U5c1 := U5.c1
  have U5c2 := U5.c2
  have U5c3 := U5.c3
  have U5l := U5.1
  have U5n : ¬ 0 = w5.heap.size := by omega
  have M5c0 := M5.c0
  have M5c1 := M5.c1
  have M5c2 := M5.c2
  have M5c3 := M5.c3
  have M5c4 := M5.c4
  have M5c5 := M5.c5
  have M5l := M5.1
  have M5n : ¬ w1.heap.size = w5.heap.size := by omega
  go_wp2_with fail
  refine (drawTwg_any a0 len cap _ (by omega) (hB.grow B5 (by have := B5.size; first | omega | (simp <;> omega)))).mono ?_
  rintro e w6 ⟨f1, f2, f3, f4, f5, f6, rfl, hb6⟩
  have U6 : Kq (0) 1 0 0 1 w6 := Kq.call U5 hb6
  have M6 : Km (w1.heap.size) a b c d x y w6 := Km.call M5 hb6
  have B6 : Below w.heap.size w w6 := bstep B5 hb6
  clear hb6 B5 U5 M5
  clear U5c0 U5c1 U5c2 U5c3 U5l U5n M5c0 M5c1 M5c2 M5c3 M5c4 M5c5 M5l M5n
  have U6c0 := U6.c0
  have U6c1 := U6.c1
  have U6c2 := U6.c2
  have U6c3 := U6.c3
  have U6l := U6.1
  have U6n : ¬ 0 = w6.heap.size := by omega
  have M6c0 := M6.c0
  have M6c1 := M6.c1
  have M6c2 := M6.c2
  have M6c3 := M6.c3
  have M6c4 := M6.c4
  have M6c5 := M6.c5
  have M6l := M6.1
  have M6n : ¬ w1.heap.size = w6.heap.size := by omega
  go_wp2_with fail
  refine (implTwg_any _ _ _ _ _ _ _ (U6.alloc _)).mono ?_
  rintro e w7 ⟨he, hb7⟩
  unfold vecT at he
  subst he
  have U7 : Kq (0) 1 0 0 1 w7 := Kq.call (U6.alloc _) hb7
  have M7 : Km (w1.heap.size) a b c d x y w7 := Km.call (M6.alloc _) hb7
  have G7 : Km (w6.heap.size) f1 f2 f3 f4 f5 f6 w7 := (Km.at (w6.heap.size) (by simp) : Km (w6.heap.size) f1 f2 f3 f4 f5 f6 _).call hb7
  have B7 : Below w.heap.size w w7 := bstep (Below.alloc B6 (by have := B6.size; first | omega | (simp <;> omega)) _) hb7
  clear hb7 B6 U6 M6
  clear U6c0 U6c1 U6c2 U6c3 U6l U6n M6c0 M6c1 M6c2 M6c3 M6c4 M6c5 M6l M6n
  have U7c0 := U7.c0
  have U7c1 := U7.c1
  have U7c2 := U7.c2
  have U7c3 := U7.c3
  have U7l := U7.1
  have U7n : ¬ 0 = w7.heap.size := by omega
  have M7c0 := M7.c0
  have M7c1 := M7.c1
  have M7c2 := M7.c2
  have M7c3 := M7.c3
  have M7c4 := M7.c4
  have M7c5 := M7.c5
  have M7l := M7.1
  have M7n : ¬ w1.heap.size = w7.heap.size := by omega
  have G7c0 := G7.c0
  have G7c1 := G7.c1
  have G7c2 := G7.c2
  have G7c3 := G7.c3
  have G7c4 := G7.c4
  have G7c5 := G7.c5
  have G7l := G7.1
  have G7n : ¬ w6.heap.size = w7.heap.size := by omega
  go_wp2_with fail
  refine (specTwg_any _ _ _ _ _ _ _).mono ?_
  rintro e w8 ⟨he, hb8⟩
  unfold vecT at he
  subst he
  have U8 : Kq (0) 1 0 0 1 w8 := Kq.call (U7.alloc _) hb8
  have M8 : Km (w1.heap.size) a b c d x y w8 := Km.call (M7.alloc _) hb8
  have G8 : Km (w6.heap.size) f1 f2 f3 f4 f5 f6 w8 := Km.call (G7.alloc _) hb8
  have V8 : Kg (w7.heap.size) ((twgR f1 f2 f3 f4 f5 f6).1) ((twgR f1 f2 f3 f4 f5 f6).2.1) w8 := (Kg.at2 (w7.heap.size) (by simp) : Kg (w7.heap.size) ((twgR f1 f2 f3 f4 f5 f6).1) ((twgR f1 f2 f3 f4 f5 f6).2.1) _).call hb8
  have B8 : Below w.heap.size w w8 := bstep (Below.alloc B7 (by have := B7.size; first | omega | (simp <;> omega)) _) hb8
  clear hb8 B7 U7 M7 G7
  clear U7c0 U7c1 U7c2 U7c3 U7l U7n M7c0 M7c1 M7c2 M7c3 M7c4 M7c5 M7l M7n G7c0 G7c1 G7c2 G7c3 G7c4 G7c5 G7l G7n
  clear M8
  have U8c0 := U8.c0
  have U8c1 := U8.c1
  have U8c2 := U8.c2
  have U8c3 := U8.c3
  have U8l := U8.1
  have U8n : ¬ 0 = w8.heap.size := by omega
  have G8c0 := G8.c0
  have G8c1 := G8.c1
  have G8c2 := G8.c2
  have G8c3 := G8.c3
  have G8c4 := G8.c4
  have G8c5 := G8.c5
  have G8l := G8.1
  have G8n : ¬ w6.heap.size = w8.heap.size := by omega
  have V8c0 := V8.c0
  have V8c1 := V8.c1
  have V8l := V8.1
  have V8n : ¬ w7.heap.size = w8.heap.size := by omega
  have hco : (omoR a b c d x y).2 = (kndR a b c d x y).2 := by unfold omoR kndR; cases motB a b c d x y <;> rfl
  have W8 : Kg (w8.heap.size) (twgR f1 f2 f3 f4 f5 f6).1 (twgR f1 f2 f3 f4 f5 f6).2.1 (w8.alloc (.cells #[.int .i64 ((twgR f1 f2 f3 f4 f5 f6).1), .int .i64 ((twgR f1 f2 f3 f4 f5 f6).2.1)] 27)) := Kg.at2 _ rfl
  rw [hco]
  by_cases h3 : (twgR f1 f2 f3 f4 f5 f6).2.2 = 0
  · obtain ⟨hg, hs⟩ := twg_ok h3
    have h3b : ((twgR f1 f2 f3 f4 f5 f6).2.2 == 0) = true := by simp [h3]
    have ek : kndR f1 f2 f3 f4 f5 f6 = (knd f1 f2 f3 f4 f5 f6, 0) := by simp [kndR, hg]
    clear h3 hg
    go_wp2_with fail
    refine (implKnd_any _ _ _ _ _ _ _ (UnitOK.alloc U8 _)).mono ?_
    rintro e w9 ⟨he, hb9⟩
    unfold intT at he
    rw [ek] at he
    subst he
    have V9 := (V8.alloc (.cells #[.int .i64 ((twgR f1 f2 f3 f4 f5 f6).1), .int .i64 ((twgR f1 f2 f3 f4 f5 f6).2.1)] 27)).call hb9
    have B9 : Below w.heap.size w w9 := bstep (Below.alloc B8 (by have := B8.size; first | omega | (simp <;> omega)) _) hb9
    have U9 := (Kq.alloc U8 (.cells #[.int .i64 ((twgR f1 f2 f3 f4 f5 f6).1), .int .i64 ((twgR f1 f2 f3 f4 f5 f6).2.1)] 27)).call hb9
    clear hb9 ek
    have V9c0 := V9.c0
    have V9c1 := V9.c1
    have V9l := V9.1
    have V9n : ¬ w7.heap.size = w9.heap.size := by omega
    generalize knd f1 f2 f3 f4 f5 f6 = gk at *
    generalize hT1 : (twgR f1 f2 f3 f4 f5 f6).1 = t1 at *
    generalize hT2 : (twgR f1 f2 f3 f4 f5 f6).2.1 = t2 at *
    rcases hs with ⟨rfl, rfl, rfl⟩ | ⟨rfl, hs⟩
    · clear hT1 hT2 V9
      rcases hm : motB a b c d x y with _ | _
      · have e1 : (kndR a b c d x y).2 = 1 := by simp [kndR, hm]
        rw [e1]
        go_wp2
        go_ret
        exact ⟨rfl, B9⟩
      · have e1 : kndR a b c d x y = (knd a b c d x y, 0) := by simp [kndR, hm]
        have e2 : omoR a b c d x y = (omoI a b c d x y, 0) := by simp [omoR, hm]
        rw [e1, e2]
        have hv := knd_vals hm
        clear hco e1 e2
        generalize knd a b c d x y = kk at *
        generalize omoI a b c d x y = oo at *
        rcases hv with ⟨rfl, rfl⟩ | ⟨rfl, rfl⟩ | ⟨rfl, rfl | rfl | rfl | rfl⟩ | ⟨rfl | rfl, rfl⟩
        all_goals
          go_wp2
          go_ret
          exact ⟨rfl, B9⟩
    · by_cases q1 : t1 = 0
      · clear hT1 hT2 V9
        subst q1
        have q2 : ¬ t2 = 0 := by simpa using hs
        rcases hm : motB a b c d x y with _ | _
        · have e1 : (kndR a b c d x y).2 = 1 := by simp [kndR, hm]
          rw [e1]
          go_wp2
          go_ret
          exact ⟨rfl, B9⟩
        · have e1 : kndR a b c d x y = (knd a b c d x y, 0) := by simp [kndR, hm]
          have e2 : omoR a b c d x y = (omoI a b c d x y, 0) := by simp [omoR, hm]
          rw [e1, e2]
          have hv := knd_vals hm
          clear hco e1 e2
          generalize knd a b c d x y = kk at *
          generalize omoI a b c d x y = oo at *
          rcases hv with ⟨rfl, rfl⟩ | ⟨rfl, rfl⟩ | ⟨rfl, rfl | rfl | rfl | rfl⟩ | ⟨rfl | rfl, rfl⟩
          all_goals
            go_wp2
            go_ret
            exact ⟨rfl, B9⟩
      · clear hT1 hT2 hs V9
        rcases hm : motB a b c d x y with _ | _
        · have e1 : (kndR a b c d x y).2 = 1 := by simp [kndR, hm]
          rw [e1]
          go_wp2
          go_ret
          exact ⟨rfl, B9⟩
        · have e1 : kndR a b c d x y = (knd a b c d x y, 0) := by simp [kndR, hm]
          have e2 : omoR a b c d x y = (omoI a b c d x y, 0) := by simp [omoR, hm]
          rw [e1, e2]
          have hv := knd_vals hm
          clear hco e1 e2
          generalize knd a b c d x y = kk at *
          generalize omoI a b c d x y = oo at *
          rcases hv with ⟨rfl, rfl⟩ | ⟨rfl, rfl⟩ | ⟨rfl, rfl | rfl | rfl | rfl⟩ | ⟨rfl | rfl, rfl⟩
          all_goals
            go_wp2
            go_ret
            exact ⟨rfl, B9⟩
  · have h3b : ((twgR f1 f2 f3 f4 f5 f6).2.2 == 0) = false := by simp [h3]
    clear h3
    rcases hm : motB a b c d x y with _ | _
    · have e1 : (kndR a b c d x y).2 = 1 := by simp [kndR, hm]
      rw [e1]
      go_wp2
      go_ret
      exact ⟨rfl, (Below.alloc B8 (by have := B8.size; first | omega | (simp <;> omega)) _)⟩
    · have e1 : kndR a b c d x y = (knd a b c d x y, 0) := by simp [kndR, hm]
      have e2 : omoR a b c d x y = (omoI a b c d x y, 0) := by simp [omoR, hm]
      rw [e1, e2]
      have hv := knd_vals hm
      clear hco e1 e2
      generalize knd a b c d x y = kk at *
      generalize omoI a b c d x y = oo at *
      rcases hv with ⟨rfl, rfl⟩ | ⟨rfl, rfl⟩ | ⟨rfl, rfl | rfl | rfl | rfl⟩ | ⟨rfl | rfl, rfl⟩
      all_goals
        go_wp2
        go_ret
        exact ⟨rfl, (Below.alloc B8 (by have := B8.size; first | omega | (simp <;> omega)) _)⟩
end Go.Proofs.YtpdekopmnchanabDoor
