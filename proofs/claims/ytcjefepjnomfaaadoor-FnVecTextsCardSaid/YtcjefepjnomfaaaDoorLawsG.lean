/-
  The walk of the law FnVecTexts: it returns true at every code and writes nothing that was there. Conditions: the code's bytes can be read; the library's table, its two errors and its constant read as they are laid.
-/
import Derived.Test.YtcjefepjnomfaaaDoorLawsF
import Derived.Test.YtcjefepjnomfaaaDoorDraws3
namespace Go.Proofs.YtcjefepjnomfaaaDoor
open Go.RowKit Go.ChangeShapes Go.WideShapes Go.ChangeAt
set_option linter.unusedSimpArgs false
set_option linter.unusedVariables false

def IsRow (k : IntKind) (w : World) (a : Option Addr) (len cap : Nat) (zs : List Int) : Prop :=
  (a = none ∧ len = 0 ∧ cap = 0 ∧ zs = []) ∨
  ∃ x, a = some x ∧ len ≤ cap ∧ cap ≤ maxLen ∧ zs.length = cap ∧ (∀ i, i < zs.length → w.cell? (x.add i) = some (.int k (zs.getD i 0))) ∧ ∀ n ∈ zs, (Lit.int k n).wf = true

theorem rowBts {w : World} {a0 : Option Addr} {len cap : Nat} {zs : List Int} (h : IsRow .u8 w a0 len cap zs) : Bts a0 len w.heap.size w := by
  rcases h with ⟨_, h, _, _⟩ | ⟨x, rfl, h1, h2, h3, h4, h5⟩
  · exact .inl h
  · by_cases h0 : len = 0
    · exact .inl h0
    · obtain ⟨b, off, rfl, hc⟩ := ints_at h4 (by omega)
      refine .inr ⟨b, off, rfl, World.block_lt_of_cell? _ _ (hc 0 (by omega)), fun i hi => ?_⟩
      have hb := bounds_u8 (h5 (zs.getD i 0) (by
        rw [List.getD_eq_getElem?_getD, List.getElem?_eq_getElem (by omega)]
        exact List.getElem_mem _))
      exact ⟨_, hb.1, hb.2, hc i (by omega)⟩

theorem Kg.at {w : World} {a b : Int} {T : TypeId} (R : Nat) (hR : R = w.heap.size) : Kg R a b (w.alloc (.cells #[.int .i64 a, .int .i64 b] T)) := by
  subst hR
  refine ⟨by simp, ?_, ?_⟩ <;> simp [go_sem]

theorem vecS_list (x y : Int) : (vecS x y).data.toList = Lib.itoa x ++ 44 :: Lib.itoa y := by
  unfold vecS numS
  rw [show (⟨#[44]⟩ : ByteArray) = ⟨[44].toArray⟩ from rfl, ByteArray.mk_append_mk, ByteArray.mk_append_mk]
  simp
theorem read_yes {x y x1 y1 : Int} {b : Bool} (hv : vecB x y = true) (h1 : b = true → RdYes (textS x y).data.toList x1 y1) (h2 : b = false → RdNo (textS x y).data.toList ∧ x1 = 0 ∧ y1 = 0) : b = true ∧ x1 = x ∧ y1 = y := by
  have ht : textS x y = vecS x y := by simp [textS, hv]
  have hy : RdYes (textS x y).data.toList x y := ⟨hv, by rw [ht, vecS_list]⟩
  cases b
  · exact (rd_not hy (h2 rfl).1).elim
  · obtain ⟨rfl, rfl⟩ := rd_one (h1 rfl) hy
    exact ⟨rfl, rfl, rfl⟩
theorem read_no {x y x1 y1 : Int} {b : Bool} (hv : vecB x y = false) (h1 : b = true → RdYes (textS x y).data.toList x1 y1) (h2 : b = false → RdNo (textS x y).data.toList ∧ x1 = 0 ∧ y1 = 0) : b = false ∧ x1 = 0 ∧ y1 = 0 := by
  have ht : textS x y = ⟨#[]⟩ := by simp [textS, hv]
  cases b
  · exact ⟨rfl, (h2 rfl).2⟩
  · have := (h1 rfl).2
    rw [ht] at this
    simp at this
theorem text_ne {x y : Int} (hv : vecB x y = true) : (textS x y).toList ≠ [] := by
  have ht : textS x y = vecS x y := by simp [textS, hv]
  rw [ByteArray.toList_eq, ht, vecS_list]
  simp
theorem text_nil {x y : Int} (hv : vecB x y = false) : (textS x y).toList = [] := by
  have ht : textS x y = ⟨#[]⟩ := by simp [textS, hv]
  rw [ByteArray.toList_eq, ht]
theorem text_of {u : ByteArray} {x y : Int} (h : RdYes u.data.toList x y) : ((textS x y).toList == u.toList) = true := by
  have ht : textS x y = vecS x y := by simp [textS, h.1]
  rw [ByteArray.toList_eq, ByteArray.toList_eq, ht, vecS_list, h.2]
  simp

set_option maxRecDepth 100000 in
set_option maxHeartbeats 2000000 in
theorem walkVecTexts (a0 : Option Addr) (len cap : Nat) (zs : List Int) (w : World) (w0 : IsRow .u8 w a0 len cap zs) (hT : TabOK w) (hE : ErrsOK w) (hM : MaxOK w) :
    Calls Tryd.prog 3 #[.slice a0 len cap] w fun e w' => e = .returned (.bool true) ∧ Below w.heap.size w w' := by
  by_cases hbig : 4096 < len
  · have hb1 : (4096 : Int) < (len : Int) := by omega
    have hb2 : len ≤ 9223372036854775807 := by
      rcases w0 with ⟨_, h, _, _⟩ | ⟨x, rfl, h1, h2, h3, h4, h5⟩
      · omega
      · unfold maxLen at h2; omega
    go_enter Tryd.func3, Tryd.ntmps3
    go_wp2
    go_ret
    exact ⟨rfl, Below.refl _ _⟩
  have hB := rowBts w0
  have hl : len ≤ 4096 := by omega
  clear w0
  go_enter Tryd.func3, Tryd.ntmps3
  go_wp2_with (go_at_call 11; go_in)
  refine (drawText_any a0 len cap _ (by omega) (hB.grow (Below.refl _ _) (by first | omega | (simp <;> omega)))).mono ?_
  rintro e w1 ⟨x, y, rfl, hb1⟩
  have B1 : Below w.heap.size w w1 := bstep (Below.refl _ _) hb1
  clear hb1
  go_wp2_with fail
  refine (implText_any _ _ _ (hT.on (Below.alloc (B1) (by have := B1.size; first | omega | (simp <;> omega)) _))).mono ?_
  rintro e w2 ⟨rfl, hb2⟩
  have V_2 : Kg (w1.heap.size) x y w2 := Kg.call (Kg.at (w1.heap.size) (by simp) : Kg (w1.heap.size) x y _) hb2
  have B2 : Below w.heap.size w w2 := bstep (Below.alloc (B1) (by have := B1.size; first | omega | (simp <;> omega)) _) hb2
  clear hb2 B1
  have V_2c := V_2.c0
  have V_2d := V_2.c1
  have V_2l : w1.heap.size < w2.heap.size := V_2.1
  have V_2n : ¬ w1.heap.size = w2.heap.size := by omega
  have hz := textS_size x y
  go_wp2_with fail
  refine (implRead_any _ (by omega) _ (hT.on (B2)) (hE.on (B2)) (hM.on (B2))).mono ?_
  rintro e w3 ⟨x1, y1, b1, rfl, p1, p2, hb3⟩
  have V_3 : Kg (w1.heap.size) x y w3 := Kg.call V_2 hb3
  have B3 : Below w.heap.size w w3 := bstep (B2) hb3
  clear hb3 V_2 B2 V_2c V_2d V_2l V_2n
  have V_3c := V_3.c0
  have V_3d := V_3.c1
  have V_3l : w1.heap.size < w3.heap.size := V_3.1
  have V_3n : ¬ w1.heap.size = w3.heap.size := by omega
  have P1 := Lib.hid p1
  have P2 := Lib.hid p2
  clear p1 p2 hz
  go_wp2_with fail
  refine (drawRead_any a0 len cap _ (by omega) (hB.grow (Below.alloc (B3) (by have := B3.size; first | omega | (simp <;> omega)) _) (by have := B3.size; first | omega | (simp <;> omega)))).mono ?_
  rintro e w4 ⟨u, rfl, hu, hb4⟩
  have V_4 : Kg (w1.heap.size) x y w4 := Kg.call (Kg.alloc V_3 _) hb4
  have X_4 : Kg (w3.heap.size) x1 y1 w4 := Kg.call (Kg.at (w3.heap.size) (by simp) : Kg (w3.heap.size) x1 y1 _) hb4
  have B4 : Below w.heap.size w w4 := bstep (Below.alloc (B3) (by have := B3.size; first | omega | (simp <;> omega)) _) hb4
  clear hb4 V_3 B3 V_3c V_3d V_3l V_3n
  have V_4c := V_4.c0
  have V_4d := V_4.c1
  have V_4l : w1.heap.size < w4.heap.size := V_4.1
  have V_4n : ¬ w1.heap.size = w4.heap.size := by omega
  have X_4c := X_4.c0
  have X_4d := X_4.c1
  have X_4l : w3.heap.size < w4.heap.size := X_4.1
  have X_4n : ¬ w3.heap.size = w4.heap.size := by omega
  go_wp2_with fail
  refine (implRead_any _ (by omega) _ (hT.on (B4)) (hE.on (B4)) (hM.on (B4))).mono ?_
  rintro e w5 ⟨x2, y2, b2, rfl, q1, q2, hb5⟩
  have V_5 : Kg (w1.heap.size) x y w5 := Kg.call V_4 hb5
  have X_5 : Kg (w3.heap.size) x1 y1 w5 := Kg.call X_4 hb5
  have B5 : Below w.heap.size w w5 := bstep (B4) hb5
  clear hb5 V_4 X_4 B4 V_4c V_4d V_4l V_4n X_4c X_4d X_4l X_4n
  have V_5c := V_5.c0
  have V_5d := V_5.c1
  have V_5l : w1.heap.size < w5.heap.size := V_5.1
  have V_5n : ¬ w1.heap.size = w5.heap.size := by omega
  have X_5c := X_5.c0
  have X_5d := X_5.c1
  have X_5l : w3.heap.size < w5.heap.size := X_5.1
  have X_5n : ¬ w3.heap.size = w5.heap.size := by omega
  have Q1 := Lib.hid q1
  have Q2 := Lib.hid q2
  clear q1 q2
  go_wp2_with fail
  refine (specRead_any _ (by omega) _).mono ?_
  rintro e w6 ⟨x3, y3, b3, rfl, q3, q4, hb6⟩
  have V_6 : Kg (w1.heap.size) x y w6 := Kg.call (Kg.alloc V_5 _) hb6
  have X_6 : Kg (w3.heap.size) x1 y1 w6 := Kg.call (Kg.alloc X_5 _) hb6
  have Y_6 : Kg (w5.heap.size) x2 y2 w6 := Kg.call (Kg.at (w5.heap.size) (by simp) : Kg (w5.heap.size) x2 y2 _) hb6
  have B6 : Below w.heap.size w w6 := bstep (Below.alloc (B5) (by have := B5.size; first | omega | (simp <;> omega)) _) hb6
  clear hb6 V_5 X_5 B5 V_5c V_5d V_5l V_5n X_5c X_5d X_5l X_5n
  have V_6c := V_6.c0
  have V_6d := V_6.c1
  have V_6l : w1.heap.size < w6.heap.size := V_6.1
  have V_6n : ¬ w1.heap.size = w6.heap.size := by omega
  have X_6c := X_6.c0
  have X_6d := X_6.c1
  have X_6l : w3.heap.size < w6.heap.size := X_6.1
  have X_6n : ¬ w3.heap.size = w6.heap.size := by omega
  have Y_6c := Y_6.c0
  have Y_6d := Y_6.c1
  have Y_6l : w5.heap.size < w6.heap.size := Y_6.1
  have Y_6n : ¬ w5.heap.size = w6.heap.size := by omega
  obtain ⟨rfl, rfl, rfl⟩ := rd_same q3 q4 Q1.out Q2.out
  have Q3 := Lib.hid q3
  clear q3 q4 Q1 Q2
  rcases hv : vecB x y with _ | _
  · obtain ⟨rfl, rfl, rfl⟩ := read_no hv P1.out P2.out
    clear P1 P2
    have hn1 := text_nil hv
    have hn2 : (textS x y).toList.isEmpty = true := by rw [hn1]; rfl
    cases b2
    · go_wp2_with fail
      refine (specText_any _ _ _).mono ?_
      rintro e w7 ⟨rfl, hb7⟩
      have V_7 : Kg (w1.heap.size) x y w7 := Kg.call (Kg.alloc V_6 _) hb7
      have X_7 : Kg (w3.heap.size) 0 0 w7 := Kg.call (Kg.alloc X_6 _) hb7
      have Y_7 : Kg (w5.heap.size) x2 y2 w7 := Kg.call (Kg.alloc Y_6 _) hb7
      have Z_7 : Kg (w6.heap.size) x2 y2 w7 := Kg.call (Kg.at (w6.heap.size) (by simp) : Kg (w6.heap.size) x2 y2 _) hb7
      have B7 : Below w.heap.size w w7 := bstep (Below.alloc (B6) (by have := B6.size; first | omega | (simp <;> omega)) _) hb7
      clear hb7 V_6 X_6 Y_6 B6 V_6c V_6d V_6l V_6n X_6c X_6d X_6l X_6n Y_6c Y_6d Y_6l Y_6n
      have V_7c := V_7.c0
      have V_7d := V_7.c1
      have V_7l : w1.heap.size < w7.heap.size := V_7.1
      have V_7n : ¬ w1.heap.size = w7.heap.size := by omega
      have X_7c := X_7.c0
      have X_7d := X_7.c1
      have X_7l : w3.heap.size < w7.heap.size := X_7.1
      have X_7n : ¬ w3.heap.size = w7.heap.size := by omega
      have Y_7c := Y_7.c0
      have Y_7d := Y_7.c1
      have Y_7l : w5.heap.size < w7.heap.size := Y_7.1
      have Y_7n : ¬ w5.heap.size = w7.heap.size := by omega
      have Z_7c := Z_7.c0
      have Z_7d := Z_7.c1
      have Z_7l : w6.heap.size < w7.heap.size := Z_7.1
      have Z_7n : ¬ w6.heap.size = w7.heap.size := by omega
      go_wp2
      go_ret
      exact ⟨rfl, B7⟩
    · have hq : ((textS x2 y2).toList == u.toList) = true := text_of (Q3.out rfl)
      clear Q3
      go_wp2_with fail
      refine (specText_any _ _ _).mono ?_
      rintro e w7 ⟨rfl, hb7⟩
      have V_7 : Kg (w1.heap.size) x y w7 := Kg.call (Kg.alloc V_6 _) hb7
      have X_7 : Kg (w3.heap.size) 0 0 w7 := Kg.call (Kg.alloc X_6 _) hb7
      have Y_7 : Kg (w5.heap.size) x2 y2 w7 := Kg.call (Kg.alloc Y_6 _) hb7
      have Z_7 : Kg (w6.heap.size) x2 y2 w7 := Kg.call (Kg.at (w6.heap.size) (by simp) : Kg (w6.heap.size) x2 y2 _) hb7
      have B7 : Below w.heap.size w w7 := bstep (Below.alloc (B6) (by have := B6.size; first | omega | (simp <;> omega)) _) hb7
      clear hb7 V_6 X_6 Y_6 B6 V_6c V_6d V_6l V_6n X_6c X_6d X_6l X_6n Y_6c Y_6d Y_6l Y_6n
      have V_7c := V_7.c0
      have V_7d := V_7.c1
      have V_7l : w1.heap.size < w7.heap.size := V_7.1
      have V_7n : ¬ w1.heap.size = w7.heap.size := by omega
      have X_7c := X_7.c0
      have X_7d := X_7.c1
      have X_7l : w3.heap.size < w7.heap.size := X_7.1
      have X_7n : ¬ w3.heap.size = w7.heap.size := by omega
      have Y_7c := Y_7.c0
      have Y_7d := Y_7.c1
      have Y_7l : w5.heap.size < w7.heap.size := Y_7.1
      have Y_7n : ¬ w5.heap.size = w7.heap.size := by omega
      have Z_7c := Z_7.c0
      have Z_7d := Z_7.c1
      have Z_7l : w6.heap.size < w7.heap.size := Z_7.1
      have Z_7n : ¬ w6.heap.size = w7.heap.size := by omega
      go_wp2_with fail
      refine (implText_any _ _ _ (hT.on (B7))).mono ?_
      rintro e w8 ⟨rfl, hb8⟩
      have V_8 : Kg (w1.heap.size) x y w8 := Kg.call V_7 hb8
      have X_8 : Kg (w3.heap.size) 0 0 w8 := Kg.call X_7 hb8
      have Y_8 : Kg (w5.heap.size) x2 y2 w8 := Kg.call Y_7 hb8
      have Z_8 : Kg (w6.heap.size) x2 y2 w8 := Kg.call Z_7 hb8
      have B8 : Below w.heap.size w w8 := bstep (B7) hb8
      clear hb8 V_7 X_7 Y_7 Z_7 B7 V_7c V_7d V_7l V_7n X_7c X_7d X_7l X_7n Y_7c Y_7d Y_7l Y_7n Z_7c Z_7d Z_7l Z_7n
      have V_8c := V_8.c0
      have V_8d := V_8.c1
      have V_8l : w1.heap.size < w8.heap.size := V_8.1
      have V_8n : ¬ w1.heap.size = w8.heap.size := by omega
      have X_8c := X_8.c0
      have X_8d := X_8.c1
      have X_8l : w3.heap.size < w8.heap.size := X_8.1
      have X_8n : ¬ w3.heap.size = w8.heap.size := by omega
      have Y_8c := Y_8.c0
      have Y_8d := Y_8.c1
      have Y_8l : w5.heap.size < w8.heap.size := Y_8.1
      have Y_8n : ¬ w5.heap.size = w8.heap.size := by omega
      have Z_8c := Z_8.c0
      have Z_8d := Z_8.c1
      have Z_8l : w6.heap.size < w8.heap.size := Z_8.1
      have Z_8n : ¬ w6.heap.size = w8.heap.size := by omega
      go_wp2
      go_ret
      exact ⟨rfl, B8⟩
  · obtain ⟨rfl, rfl, rfl⟩ := read_yes hv P1.out P2.out
    clear P1 P2
    have hn0 := text_ne hv
    have hn1 : ((textS x1 y1).toList == []) = false := by simpa using hn0
    have hn2 : (textS x1 y1).toList.isEmpty = false := by simpa using hn0
    cases b2
    · go_wp2_with fail
      refine (specText_any _ _ _).mono ?_
      rintro e w7 ⟨rfl, hb7⟩
      have V_7 : Kg (w1.heap.size) x1 y1 w7 := Kg.call (Kg.alloc V_6 _) hb7
      have X_7 : Kg (w3.heap.size) x1 y1 w7 := Kg.call (Kg.alloc X_6 _) hb7
      have Y_7 : Kg (w5.heap.size) x2 y2 w7 := Kg.call (Kg.alloc Y_6 _) hb7
      have Z_7 : Kg (w6.heap.size) x2 y2 w7 := Kg.call (Kg.at (w6.heap.size) (by simp) : Kg (w6.heap.size) x2 y2 _) hb7
      have B7 : Below w.heap.size w w7 := bstep (Below.alloc (B6) (by have := B6.size; first | omega | (simp <;> omega)) _) hb7
      clear hb7 V_6 X_6 Y_6 B6 V_6c V_6d V_6l V_6n X_6c X_6d X_6l X_6n Y_6c Y_6d Y_6l Y_6n
      have V_7c := V_7.c0
      have V_7d := V_7.c1
      have V_7l : w1.heap.size < w7.heap.size := V_7.1
      have V_7n : ¬ w1.heap.size = w7.heap.size := by omega
      have X_7c := X_7.c0
      have X_7d := X_7.c1
      have X_7l : w3.heap.size < w7.heap.size := X_7.1
      have X_7n : ¬ w3.heap.size = w7.heap.size := by omega
      have Y_7c := Y_7.c0
      have Y_7d := Y_7.c1
      have Y_7l : w5.heap.size < w7.heap.size := Y_7.1
      have Y_7n : ¬ w5.heap.size = w7.heap.size := by omega
      have Z_7c := Z_7.c0
      have Z_7d := Z_7.c1
      have Z_7l : w6.heap.size < w7.heap.size := Z_7.1
      have Z_7n : ¬ w6.heap.size = w7.heap.size := by omega
      go_wp2
      go_ret
      exact ⟨rfl, B7⟩
    · have hq : ((textS x2 y2).toList == u.toList) = true := text_of (Q3.out rfl)
      clear Q3
      go_wp2_with fail
      refine (specText_any _ _ _).mono ?_
      rintro e w7 ⟨rfl, hb7⟩
      have V_7 : Kg (w1.heap.size) x1 y1 w7 := Kg.call (Kg.alloc V_6 _) hb7
      have X_7 : Kg (w3.heap.size) x1 y1 w7 := Kg.call (Kg.alloc X_6 _) hb7
      have Y_7 : Kg (w5.heap.size) x2 y2 w7 := Kg.call (Kg.alloc Y_6 _) hb7
      have Z_7 : Kg (w6.heap.size) x2 y2 w7 := Kg.call (Kg.at (w6.heap.size) (by simp) : Kg (w6.heap.size) x2 y2 _) hb7
      have B7 : Below w.heap.size w w7 := bstep (Below.alloc (B6) (by have := B6.size; first | omega | (simp <;> omega)) _) hb7
      clear hb7 V_6 X_6 Y_6 B6 V_6c V_6d V_6l V_6n X_6c X_6d X_6l X_6n Y_6c Y_6d Y_6l Y_6n
      have V_7c := V_7.c0
      have V_7d := V_7.c1
      have V_7l : w1.heap.size < w7.heap.size := V_7.1
      have V_7n : ¬ w1.heap.size = w7.heap.size := by omega
      have X_7c := X_7.c0
      have X_7d := X_7.c1
      have X_7l : w3.heap.size < w7.heap.size := X_7.1
      have X_7n : ¬ w3.heap.size = w7.heap.size := by omega
      have Y_7c := Y_7.c0
      have Y_7d := Y_7.c1
      have Y_7l : w5.heap.size < w7.heap.size := Y_7.1
      have Y_7n : ¬ w5.heap.size = w7.heap.size := by omega
      have Z_7c := Z_7.c0
      have Z_7d := Z_7.c1
      have Z_7l : w6.heap.size < w7.heap.size := Z_7.1
      have Z_7n : ¬ w6.heap.size = w7.heap.size := by omega
      go_wp2_with fail
      refine (implText_any _ _ _ (hT.on (B7))).mono ?_
      rintro e w8 ⟨rfl, hb8⟩
      have V_8 : Kg (w1.heap.size) x1 y1 w8 := Kg.call V_7 hb8
      have X_8 : Kg (w3.heap.size) x1 y1 w8 := Kg.call X_7 hb8
      have Y_8 : Kg (w5.heap.size) x2 y2 w8 := Kg.call Y_7 hb8
      have Z_8 : Kg (w6.heap.size) x2 y2 w8 := Kg.call Z_7 hb8
      have B8 : Below w.heap.size w w8 := bstep (B7) hb8
      clear hb8 V_7 X_7 Y_7 Z_7 B7 V_7c V_7d V_7l V_7n X_7c X_7d X_7l X_7n Y_7c Y_7d Y_7l Y_7n Z_7c Z_7d Z_7l Z_7n
      have V_8c := V_8.c0
      have V_8d := V_8.c1
      have V_8l : w1.heap.size < w8.heap.size := V_8.1
      have V_8n : ¬ w1.heap.size = w8.heap.size := by omega
      have X_8c := X_8.c0
      have X_8d := X_8.c1
      have X_8l : w3.heap.size < w8.heap.size := X_8.1
      have X_8n : ¬ w3.heap.size = w8.heap.size := by omega
      have Y_8c := Y_8.c0
      have Y_8d := Y_8.c1
      have Y_8l : w5.heap.size < w8.heap.size := Y_8.1
      have Y_8n : ¬ w5.heap.size = w8.heap.size := by omega
      have Z_8c := Z_8.c0
      have Z_8d := Z_8.c1
      have Z_8l : w6.heap.size < w8.heap.size := Z_8.1
      have Z_8n : ¬ w6.heap.size = w8.heap.size := by omega
      go_wp2
      go_ret
      exact ⟨rfl, B8⟩

end Go.Proofs.YtcjefepjnomfaaaDoor
