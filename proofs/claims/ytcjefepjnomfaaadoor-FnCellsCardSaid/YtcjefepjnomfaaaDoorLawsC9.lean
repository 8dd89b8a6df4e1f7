/-
  The walk of the law FnCells: it returns true at every code and writes nothing that was there. Conditions: the code's bytes can be read; the library's table, its two errors and its constant read as they are laid.
-/
import Derived.Test.YtcjefepjnomfaaaDoorLatR
import Derived.Test.YtcjefepjnomfaaaDoorLatT
import Derived.Test.YtcjefepjnomfaaaDoorCel2
import Derived.Test.YtcjefepjnomfaaaDoorLike9
import Derived.Test.YtcjefepjnomfaaaDoorCmpV
import Derived.Test.YtcjefepjnomfaaaDoorDrawL3
import Derived.Deep.RegionHeld3
import Derived.Deep.DeepCutAuto
import Derived.RegionTactic
import Derived.IntWalk
import Derived.ProofKit
import Derived.OpenShut
namespace Go.Proofs.YtcjefepjnomfaaaDoor
open Go.RowKit Go.ChangeShapes Go.WideShapes Go.ChangeAt
set_option linter.unusedSimpArgs false
set_option linter.unusedVariables false

def IsRow (k : IntKind) (w : World) (a : Option Addr) (len cap : Nat) (zs : List Int) : Prop :=
  (a = none ∧ len = 0 ∧ cap = 0 ∧ zs = []) ∨
  ∃ x, a = some x ∧ len ≤ cap ∧ cap ≤ maxLen ∧ zs.length = cap ∧ (∀ i, i < zs.length → w.cell? (x.add i) = some (.int k (zs.getD i 0))) ∧ ∀ n ∈ zs, (Lit.int k n).wf = true

theorem rowBts {w : World} {a0 : Option Addr} {len cap : Nat} {zs : List Int} (h : IsRow .u8 w a0 len cap zs) : Bts a0 len w.heap.size w := by
  rcases h with ⟨_, h, _, _⟩ | ⟨x, rfl, h1, h2, h3, h4, h5⟩
  · exact .inl h
  · by_cases h0 : len = 0
    · exact .inl h0
    · obtain ⟨b, off, rfl, hc⟩ := ints_at h4 (by omega)
      refine .inr ⟨b, off, rfl, World.block_lt_of_cell? _ _ (hc 0 (by omega)), fun i hi => ?_⟩
      have hb := bounds_u8 (h5 (zs.getD i 0) (by
        rw [List.getD_eq_getElem?_getD, List.getElem?_eq_getElem (by omega)]
        exact List.getElem_mem _))
      exact ⟨_, hb.1, hb.2, hc i (by omega)⟩

theorem SRow.alloc {lo hi K n : Nat} {v : Value} {F : Nat → Int} {W : World} (h : SRow lo hi K v n F W) (o : Obj) : SRow lo hi K v n F (W.alloc o) := h.call ((Below.refl _ _).alloc (Nat.le_refl _) _)
theorem numsS_split (a b c : Int) : SplitOf (numsS [a, b, c]).data.toList (three a b c) := by
  constructor
  · show Lib.join _ [44] ++ [44] = joinC _
    simp [three, Lib.join, joinC]
  · intro x hx
    simp only [three, List.mem_cons, List.not_mem_nil, or_false] at hx
    rcases hx with rfl | rfl | rfl <;> exact itoa_comma _
theorem numsS_of {l : List UInt8} {a b c : Int} (h : SplitOf l (three a b c)) : (numsS [a, b, c]).data.toList = l := by
  have h1 := (numsS_split a b c).1
  rw [← h.1] at h1
  exact List.append_cancel_right h1
theorem lt_yes {a b c : Int} (h : latB a b c = true) : latText a b c = numsS [a, b, c] := by simp [latText, h]
theorem lt_no {a b c : Int} (h : latB a b c = false) : latText a b c = ⟨#[]⟩ := by simp [latText, h]
theorem lread_yes {a b c a1 b1 c1 : Int} {o : Bool} (hv : latB a b c = true) (h1 : o = true → LYes (latText a b c).data.toList a1 b1 c1) (h2 : o = false → LNo (latText a b c).data.toList ∧ a1 = 0 ∧ b1 = 0 ∧ c1 = 0) : o = true ∧ a1 = a ∧ b1 = b ∧ c1 = c := by
  rw [lt_yes hv] at h1 h2
  obtain ⟨h3, h4, h5, h6⟩ := l_same (o := true) (fun _ => ⟨hv, numsS_split a b c⟩) (fun h => by cases h) h1 h2
  exact ⟨h3, h4, h5, h6⟩
theorem lread_no {a b c a1 b1 c1 : Int} {o : Bool} (hv : latB a b c = false) (h1 : o = true → LYes (latText a b c).data.toList a1 b1 c1) (h2 : o = false → LNo (latText a b c).data.toList ∧ a1 = 0 ∧ b1 = 0 ∧ c1 = 0) : o = false ∧ a1 = 0 ∧ b1 = 0 ∧ c1 = 0 := by
  rw [lt_no hv] at h1 h2
  cases o
  · exact ⟨rfl, (h2 rfl).2⟩
  · have h := (h1 rfl).2.1
    have h3 := congrArg List.length h
    simp [joinC, three] at h3
    omega
theorem ltext_ne {a b c : Int} (h : latB a b c = true) : (latText a b c).toList ≠ [] := by
  rw [ByteArray.toList_eq, lt_yes h]
  intro h0
  have h1 := (numsS_split a b c).1
  have h2 := congrArg List.length h1
  rw [h0] at h2
  simp [joinC, three] at h2
  omega
theorem ltext_nil {a b c : Int} (h : latB a b c = false) : (latText a b c).toList = [] := by
  rw [ByteArray.toList_eq, lt_no h]
theorem ltext_of {u : ByteArray} {a b c : Int} (h : LYes u.data.toList a b c) : ((latText a b c).toList == u.toList) = true := by
  rw [ByteArray.toList_eq, ByteArray.toList_eq, lt_yes h.1, numsS_of h.2]
  simp
theorem cellP_at (q : Nat) (hq : 1 ≤ q) : ∀ p k, k < p * q → (cellP q p)[k]? = some (((k / q : Nat) : Int), ((k % q : Nat) : Int))
  | 0, k, h => by simp at h
  | p + 1, k, h => by
    rw [cellP_succ]
    by_cases hk : k < p * q
    · rw [List.getElem?_append_left (by rw [cellP_len]; exact hk)]
      exact cellP_at q hq p k hk
    · have hk2 : k - p * q < q := by rw [Nat.succ_mul] at h; omega
      rw [List.getElem?_append_right (by rw [cellP_len]; omega), cellP_len]
      have e1 : k = q * p + (k - p * q) := by rw [Nat.mul_comm q p]; omega
      have e2 : k / q = p := by
        conv => lhs; rw [e1]
        rw [Nat.mul_add_div (by omega), Nat.div_eq_of_lt hk2]; omega
      have e3 : k % q = k - p * q := by
        conv => lhs; rw [e1]
        rw [Nat.mul_add_mod, Nat.mod_eq_of_lt hk2]
      unfold cellR
      rw [List.getElem?_map, List.getElem?_range hk2, e2, e3]
      rfl
theorem cells2_get : ∀ (xs : List (Int × Int)) (i : Nat) (x y : Int) (h : xs[i]? = some (x, y)), intAt (cells2 xs) (i * 2) = x ∧ intAt (cells2 xs) (i * 2 + 1) = y
  | [], i, x, y, h => by simp at h
  | t :: xs, 0, x, y, h => by
    simp only [List.getElem?_cons_zero, Option.some.injEq] at h
    subst h
    simp [cells2, intAt]
  | t :: xs, i + 1, x, y, h => by
    have ih := cells2_get xs i x y (by simpa using h)
    have e : ∀ k, intAt (cells2 (t :: xs)) (k + 2) = intAt (cells2 xs) k := fun k => by simp [cells2, intAt]
    rw [show (i + 1) * 2 = i * 2 + 2 by omega, show i * 2 + 2 + 1 = (i * 2 + 1) + 2 by omega, e, e]
    exact ih
theorem cell_red {p q k : Nat} {b : Int} (h : latB (p : Int) b (q : Int) = true) (hk : k < p * q) : redR (p : Int) b (q : Int) ((k / q : Nat) : Int) ((k % q : Nat) : Int) = (((k / q : Nat) : Int), ((k % q : Nat) : Int), 0) := by
  have hi := latB_iff.1 h
  have hb := latI_bd hi
  have h1 := hi.1
  have h2 := hi.2.1
  have hx : k / q < p := Nat.div_lt_of_lt_mul (by rw [Nat.mul_comm]; exact hk)
  have hy : k % q < q := Nat.mod_lt _ (by omega)
  obtain ⟨e1, e2⟩ := red_cell (B := b) (x := ((k / q : Nat) : Int)) (y := ((k % q : Nat) : Int)) (A := (p : Int)) (C := (q : Int)) (Int.natCast_nonneg _) (by exact_mod_cast hx) (Int.natCast_nonneg _) (by exact_mod_cast hy)
  generalize k / q = X at *
  generalize k % q = Y at *
  have hv : vecB (X : Int) (Y : Int) = true := by simp only [vecB, decide_eq_true_eq]; omega
  rw [redR, show lvB (p : Int) b (q : Int) (X : Int) (Y : Int) = true by simp only [lvB, h, hv, Bool.and_self], e1, e2]
  rfl
theorem cell_less {p q j : Nat} {b : Int} (h : latB (p : Int) b (q : Int) = true) (hk : j + 1 < p * q) : cmpR ((j / q : Nat) : Int) ((j % q : Nat) : Int) (((j + 1) / q : Nat) : Int) (((j + 1) % q : Nat) : Int) = (-1, 0) := by
  have hi := latB_iff.1 h
  have hb := latI_bd hi
  have h1 := hi.1
  have h2 := hi.2.1
  have hx : (j + 1) / q < p := Nat.div_lt_of_lt_mul (by rw [Nat.mul_comm]; exact hk)
  have hx' : j / q < p := Nat.div_lt_of_lt_mul (by rw [Nat.mul_comm]; omega)
  have hy : (j + 1) % q < q := Nat.mod_lt _ (by omega)
  have hy' : j % q < q := Nat.mod_lt _ (by omega)
  have e := Nat.div_add_mod j q
  have e' := Nat.div_add_mod (j + 1) q
  have hl : j / q < (j + 1) / q ∨ j / q = (j + 1) / q ∧ j % q < (j + 1) % q := by
    have hle : j / q ≤ (j + 1) / q := Nat.div_le_div_right (by omega)
    rcases Nat.lt_or_ge (j / q) ((j + 1) / q) with hlt | hge
    · exact .inl hlt
    · have heq : j / q = (j + 1) / q := by omega
      rw [← heq] at e'
      exact .inr ⟨heq, by omega⟩
  clear e e'
  generalize j / q = X at *
  generalize j % q = Y at *
  generalize (j + 1) / q = X' at *
  generalize (j + 1) % q = Y' at *
  have hv : vecB (X : Int) (Y : Int) = true := by simp only [vecB, decide_eq_true_eq]; omega
  have hv' : vecB (X' : Int) (Y' : Int) = true := by simp only [vecB, decide_eq_true_eq]; omega
  have hlb : lessB (X : Int) (Y : Int) (X' : Int) (Y' : Int) = true := by simp only [lessB, decide_eq_true_eq]; omega
  rw [cmpR, hv, hv', cmp_less hlb]
  rfl

theorem IRow.alloc {g N : Nat} {F : Nat → Int} {W : World} (h : IRow g N F W) (o : Obj) : IRow g N F (W.alloc o) := h.call ((Below.refl _ _).alloc (Nat.le_refl _) _)
theorem IRow.drew {g N : Nat} {F : Nat → Int} {W : World} (h : IRow g N F W) : IRow g N F W.drew := h.call (Below.refl _ _).drew
theorem IRow.far {g N : Nat} {F : Nat → Int} {W : World} {q : Addr} {u : Value} (hq : q.block ≠ g) (h : IRow g N F W) : IRow g N F (W.setCell q u) := by
  have hh : (W.setCell q u).heap[g]? = W.heap[g]? := Below.heap_setCell _ _ _ _ (by omega)
  exact ⟨by simpa [World.setCell] using h.1, fun t ht => ⟨(World.cell?_of_block (w := W) hh).trans (h.2 t ht).1, (World.frozen?_of_block (w := W) hh).trans (h.2 t ht).2⟩⟩
theorem Ko2.far {g o : Nat} {a b : Int} {W : World} {q : Addr} {u : Value} (hq : q.block ≠ g) (h : Ko2 g o a b W) : Ko2 g o a b (W.setCell q u) := by
  have hh : (W.setCell q u).heap[g]? = W.heap[g]? := Below.heap_setCell _ _ _ _ (by omega)
  exact ⟨by simpa [World.setCell] using h.1, (World.cell?_of_block (w := W) hh).trans h.2.1, (World.cell?_of_block (w := W) hh).trans h.2.2⟩
def CMid (w : World) (u g n : Nat) (F : Nat → Int) (a b c X Y : Int) (s17 s18 : Value) (wx : World) : Prop :=
  ∃ h : Nat, s17 = .pointer (some ⟨h, 0, none⟩) ∧ s18 = .int .i64 0 ∧ h < wx.heap.size ∧ (wx.cell? ⟨h, 0, none⟩ = some (.int .i64 X) ∧ wx.cell? ⟨h, 1, none⟩ = some (.int .i64 Y)) ∧ IRow g (n * 2) F wx ∧ Kt u a b c wx ∧ Below w.heap.size w wx
theorem cmid_new {w u1 : World} {u g n : Nat} {F : Nat → Int} {a b c X Y : Int} {T : TypeId} (hI : IRow g (n * 2) F u1) (hK : Kt u a b c u1) (hB : Below w.heap.size w u1) :
    CMid w u g n F a b c X Y (.pointer (some ⟨u1.heap.size, 0, none⟩)) (.int .i64 0) (u1.alloc (.cells #[.int .i64 X, .int .i64 Y] T)) :=
  ⟨_, rfl, rfl, by simp, ⟨by simp [go_sem], by simp [go_sem]⟩, hI.alloc _, hK.alloc _, hB.alloc hB.size _⟩
theorem cmid_old {w u1 : World} {h u g n : Nat} {F : Nat → Int} {a b c X Y : Int} {v0 v1 : Value} (hI : IRow g (n * 2) F u1) (hK : Kt u a b c u1) (hB : Below w.heap.size w u1)
    (hlt : h < u1.heap.size) (h0 : u1.cell? ⟨h, 0, none⟩ = some v0) (h1 : u1.cell? ⟨h, 1, none⟩ = some v1) (hg : h ≠ g) (hu : u < h) (hw : w.heap.size ≤ h) :
    CMid w u g n F a b c X Y (.pointer (some ⟨h, 0, none⟩)) (.int .i64 0) ((u1.setCell ⟨h, 0, none⟩ (.int .i64 X)).setCell ⟨h, 1, none⟩ (.int .i64 Y)) :=
  ⟨h, rfl, rfl, by simpa [World.setCell] using hlt, ⟨by simp [go_sem, h0, h1], by simp [go_sem, h0, h1]⟩, IRow.far hg (IRow.far hg hI), Kt.put hu (Kt.put hu hK), (hB.setCell hw _).setCell hw _⟩

set_option maxRecDepth 100000 in
set_option maxHeartbeats 16000000 in
theorem walkFnCells (a0 : Option Addr) (len cap : Nat) (zs : List Int) (w : World) (w0 : IsRow .u8 w a0 len cap zs) (hT : TabOK w) (hE : ErrsOK w) (hM : MaxOK w) :
    Calls Tryd.prog 4 #[.slice a0 len cap] w fun e w' => e = .returned (.bool true) ∧ Below w.heap.size w w' := by
  by_cases hbig : 4096 < len
  · have hb1 : (4096 : Int) < (len : Int) := by omega
    have hb2 : len ≤ 9223372036854775807 := by
      rcases w0 with ⟨_, h, _, _⟩ | ⟨x, rfl, h1, h2, h3, h4, h5⟩
      · omega
      · unfold maxLen at h2; omega
    go_enter Tryd.func4, Tryd.ntmps4
    go_wp2
    go_ret
    exact ⟨rfl, Below.refl _ _⟩
  have hB := rowBts w0
  have hl : len ≤ 4096 := by omega
  clear w0
  go_enter Tryd.func4, Tryd.ntmps4
  go_wp2_with (go_at_call 11; go_in)
  refine (drawCells_any a0 len cap _ (by omega) (hB.grow (Below.refl _ _) (by first | omega | (simp <;> omega)))).mono ?_
  rintro e w1 ⟨a, b, c, rfl, hb1⟩
  have B1 : Below w.heap.size w w1 := bstep (Below.refl _ _) hb1
  clear hb1
  go_wp2_with fail
  refine (implCells_any a b c _).mono ?_
  rintro e w2 ⟨v1, rfl, s1_2, hb2⟩
  have U_2 : Kt (w1.heap.size) a b c w2 := Kt.call (Kt.at (w1.heap.size) (by simp) : Kt (w1.heap.size) a b c _) hb2
  have B2 : Below w.heap.size w w2 := bstep (Below.alloc (B1) (by have := B1.size; first | omega | (simp <;> omega)) _) hb2
  clear hb2 B1
  have U_2c0 := U_2.c0
  have U_2c1 := U_2.c1
  have U_2c2 := U_2.c2
  have U_2l : w1.heap.size < w2.heap.size := U_2.1
  have U_2n : ¬ w1.heap.size = w2.heap.size := by omega
  go_wp2_with fail
  refine (specCells_any a b c _).mono ?_
  rintro e w3 ⟨v2, rfl, s2_3, hb3⟩
  have s1_3 := SRow.call (s1_2) hb3
  clear s1_2
  have U_3 : Kt (w1.heap.size) a b c w3 := Kt.call U_2 hb3
  have B3 : Below w.heap.size w w3 := bstep (B2) hb3
  clear hb3 U_2 B2 U_2c0 U_2c1 U_2c2 U_2l U_2n
  have U_3c0 := U_3.c0
  have U_3c1 := U_3.c1
  have U_3c2 := U_3.c2
  have U_3l : w1.heap.size < w3.heap.size := U_3.1
  have U_3n : ¬ w1.heap.size = w3.heap.size := by omega
  go_wp2_with fail
  refine (implLText_any _ _ _ _ (hT.on (B3))).mono ?_
  rintro e w4 ⟨rfl, hb4⟩
  have s1_4 := SRow.call (s1_3) hb4
  have s2_4 := SRow.call (s2_3) hb4
  clear s1_3 s2_3
  have U_4 : Kt (w1.heap.size) a b c w4 := Kt.call U_3 hb4
  have B4 : Below w.heap.size w w4 := bstep (B3) hb4
  clear hb4 U_3 B3 U_3c0 U_3c1 U_3c2 U_3l U_3n
  have U_4c0 := U_4.c0
  have U_4c1 := U_4.c1
  have U_4c2 := U_4.c2
  have U_4l : w1.heap.size < w4.heap.size := U_4.1
  have U_4n : ¬ w1.heap.size = w4.heap.size := by omega
  have hz := ltext_size a b c
  go_wp2_with fail
  refine (implReadL_any _ (by omega) _ (hT.on (B4)) (hE.on (B4)) (hM.on (B4))).mono ?_
  rintro e w5 ⟨a1, b1, c1, o1, rfl, p1, p2, hb5⟩
  have s1_5 := SRow.call (s1_4) hb5
  have s2_5 := SRow.call (s2_4) hb5
  clear s1_4 s2_4
  have U_5 : Kt (w1.heap.size) a b c w5 := Kt.call U_4 hb5
  have B5 : Below w.heap.size w w5 := bstep (B4) hb5
  clear hb5 U_4 B4 U_4c0 U_4c1 U_4c2 U_4l U_4n
  have U_5c0 := U_5.c0
  have U_5c1 := U_5.c1
  have U_5c2 := U_5.c2
  have U_5l : w1.heap.size < w5.heap.size := U_5.1
  have U_5n : ¬ w1.heap.size = w5.heap.size := by omega
  have P1 := Lib.hid p1
  have P2 := Lib.hid p2
  clear p1 p2 hz
  go_wp2_with fail
  refine (drawReadL_any a0 len cap _ (by omega) (hB.grow (Below.alloc (B5) (by have := B5.size; first | omega | (simp <;> omega)) _) (by have := B5.size; first | omega | (simp <;> omega)))).mono ?_
  rintro e w6 ⟨u, rfl, hu, hb6⟩
  have s1_6 := SRow.call (s1_5.alloc _) hb6
  have s2_6 := SRow.call (s2_5.alloc _) hb6
  clear s1_5 s2_5
  have U_6 : Kt (w1.heap.size) a b c w6 := Kt.call (Kt.alloc U_5 _) hb6
  have R_6 : Kt (w5.heap.size) a1 b1 c1 w6 := Kt.call (Kt.at (w5.heap.size) (by simp) : Kt (w5.heap.size) a1 b1 c1 _) hb6
  have B6 : Below w.heap.size w w6 := bstep (Below.alloc (B5) (by have := B5.size; first | omega | (simp <;> omega)) _) hb6
  clear hb6 U_5 B5 U_5c0 U_5c1 U_5c2 U_5l U_5n
  have U_6c0 := U_6.c0
  have U_6c1 := U_6.c1
  have U_6c2 := U_6.c2
  have U_6l : w1.heap.size < w6.heap.size := U_6.1
  have U_6n : ¬ w1.heap.size = w6.heap.size := by omega
  have R_6c0 := R_6.c0
  have R_6c1 := R_6.c1
  have R_6c2 := R_6.c2
  have R_6l : w5.heap.size < w6.heap.size := R_6.1
  have R_6n : ¬ w5.heap.size = w6.heap.size := by omega
  go_wp2_with fail
  refine (implReadL_any _ (by omega) _ (hT.on (B6)) (hE.on (B6)) (hM.on (B6))).mono ?_
  rintro e w7 ⟨a2, b2, c2, o2, rfl, q1, q2, hb7⟩
  have s1_7 := SRow.call (s1_6) hb7
  have s2_7 := SRow.call (s2_6) hb7
  clear s1_6 s2_6
  have U_7 : Kt (w1.heap.size) a b c w7 := Kt.call U_6 hb7
  have R_7 : Kt (w5.heap.size) a1 b1 c1 w7 := Kt.call R_6 hb7
  have B7 : Below w.heap.size w w7 := bstep (B6) hb7
  clear hb7 U_6 R_6 B6 U_6c0 U_6c1 U_6c2 U_6l U_6n R_6c0 R_6c1 R_6c2 R_6l R_6n
  have U_7c0 := U_7.c0
  have U_7c1 := U_7.c1
  have U_7c2 := U_7.c2
  have U_7l : w1.heap.size < w7.heap.size := U_7.1
  have U_7n : ¬ w1.heap.size = w7.heap.size := by omega
  have R_7c0 := R_7.c0
  have R_7c1 := R_7.c1
  have R_7c2 := R_7.c2
  have R_7l : w5.heap.size < w7.heap.size := R_7.1
  have R_7n : ¬ w5.heap.size = w7.heap.size := by omega
  have Q1 := Lib.hid q1
  have Q2 := Lib.hid q2
  clear q1 q2
  go_wp2_with fail
  refine (specReadL_any _ (by omega) _).mono ?_
  rintro e w8 ⟨a3, b3, c3, o3, rfl, q3, q4, hb8⟩
  have s1_8 := SRow.call (s1_7.alloc _) hb8
  have s2_8 := SRow.call (s2_7.alloc _) hb8
  clear s1_7 s2_7
  have U_8 : Kt (w1.heap.size) a b c w8 := Kt.call (Kt.alloc U_7 _) hb8
  have R_8 : Kt (w5.heap.size) a1 b1 c1 w8 := Kt.call (Kt.alloc R_7 _) hb8
  have Y_8 : Kt (w7.heap.size) a2 b2 c2 w8 := Kt.call (Kt.at (w7.heap.size) (by simp) : Kt (w7.heap.size) a2 b2 c2 _) hb8
  have B8 : Below w.heap.size w w8 := bstep (Below.alloc (B7) (by have := B7.size; first | omega | (simp <;> omega)) _) hb8
  clear hb8 U_7 R_7 B7 U_7c0 U_7c1 U_7c2 U_7l U_7n R_7c0 R_7c1 R_7c2 R_7l R_7n
  have U_8c0 := U_8.c0
  have U_8c1 := U_8.c1
  have U_8c2 := U_8.c2
  have U_8l : w1.heap.size < w8.heap.size := U_8.1
  have U_8n : ¬ w1.heap.size = w8.heap.size := by omega
  have R_8c0 := R_8.c0
  have R_8c1 := R_8.c1
  have R_8c2 := R_8.c2
  have R_8l : w5.heap.size < w8.heap.size := R_8.1
  have R_8n : ¬ w5.heap.size = w8.heap.size := by omega
  have Y_8c0 := Y_8.c0
  have Y_8c1 := Y_8.c1
  have Y_8c2 := Y_8.c2
  have Y_8l : w7.heap.size < w8.heap.size := Y_8.1
  have Y_8n : ¬ w7.heap.size = w8.heap.size := by omega
  obtain ⟨rfl, rfl, rfl, rfl⟩ := l_same Q1.out Q2.out q3 q4
  have Q3 := Lib.hid Q1.out
  clear q3 q4 Q1 Q2
  rcases hv : latB a b c with _ | _
  · obtain ⟨rfl, rfl, rfl, rfl⟩ := lread_no hv P1.out P2.out
    clear P1 P2
    have hn1 := ltext_nil hv
    have hn2 : (latText a b c).toList.isEmpty = true := by rw [hn1]; rfl
    have hc : (celC a b c != 0) = true := by simp [celC, hv]
    clear hv
    cases o3
    · go_wp2_with fail
      refine (likeVecs9_any (s1_8.alloc _) (s2_8.alloc _)).mono ?_
      rintro e w9 ⟨rfl, hb9⟩
      have s1_9 := SRow.call (s1_8.alloc _) hb9
      have s2_9 := SRow.call (s2_8.alloc _) hb9
      clear s1_8 s2_8
      have U_9 : Kt (w1.heap.size) a b c w9 := Kt.call (Kt.alloc U_8 _) hb9
      have R_9 : Kt (w5.heap.size) 0 0 0 w9 := Kt.call (Kt.alloc R_8 _) hb9
      have Y_9 : Kt (w7.heap.size) a3 b3 c3 w9 := Kt.call (Kt.alloc Y_8 _) hb9
      have Z_9 : Kt (w8.heap.size) a3 b3 c3 w9 := Kt.call (Kt.at (w8.heap.size) (by simp) : Kt (w8.heap.size) a3 b3 c3 _) hb9
      have B9 : Below w.heap.size w w9 := bstep (Below.alloc (B8) (by have := B8.size; first | omega | (simp <;> omega)) _) hb9
      clear hb9 U_8 R_8 Y_8 B8 U_8c0 U_8c1 U_8c2 U_8l U_8n R_8c0 R_8c1 R_8c2 R_8l R_8n Y_8c0 Y_8c1 Y_8c2 Y_8l Y_8n
      have U_9c0 := U_9.c0
      have U_9c1 := U_9.c1
      have U_9c2 := U_9.c2
      have U_9l : w1.heap.size < w9.heap.size := U_9.1
      have U_9n : ¬ w1.heap.size = w9.heap.size := by omega
      have R_9c0 := R_9.c0
      have R_9c1 := R_9.c1
      have R_9c2 := R_9.c2
      have R_9l : w5.heap.size < w9.heap.size := R_9.1
      have R_9n : ¬ w5.heap.size = w9.heap.size := by omega
      have Y_9c0 := Y_9.c0
      have Y_9c1 := Y_9.c1
      have Y_9c2 := Y_9.c2
      have Y_9l : w7.heap.size < w9.heap.size := Y_9.1
      have Y_9n : ¬ w7.heap.size = w9.heap.size := by omega
      have Z_9c0 := Z_9.c0
      have Z_9c1 := Z_9.c1
      have Z_9c2 := Z_9.c2
      have Z_9l : w8.heap.size < w9.heap.size := Z_9.1
      have Z_9n : ¬ w8.heap.size = w9.heap.size := by omega
      go_wp2_with fail
      refine (specLText_any _ _ _ _).mono ?_
      rintro e w10 ⟨rfl, hb10⟩
      have s1_10 := SRow.call (s1_9) hb10
      have s2_10 := SRow.call (s2_9) hb10
      clear s1_9 s2_9
      have U_10 : Kt (w1.heap.size) a b c w10 := Kt.call U_9 hb10
      have R_10 : Kt (w5.heap.size) 0 0 0 w10 := Kt.call R_9 hb10
      have Y_10 : Kt (w7.heap.size) a3 b3 c3 w10 := Kt.call Y_9 hb10
      have Z_10 : Kt (w8.heap.size) a3 b3 c3 w10 := Kt.call Z_9 hb10
      have B10 : Below w.heap.size w w10 := bstep (B9) hb10
      clear hb10 U_9 R_9 Y_9 Z_9 B9 U_9c0 U_9c1 U_9c2 U_9l U_9n R_9c0 R_9c1 R_9c2 R_9l R_9n Y_9c0 Y_9c1 Y_9c2 Y_9l Y_9n Z_9c0 Z_9c1 Z_9c2 Z_9l Z_9n
      have U_10c0 := U_10.c0
      have U_10c1 := U_10.c1
      have U_10c2 := U_10.c2
      have U_10l : w1.heap.size < w10.heap.size := U_10.1
      have U_10n : ¬ w1.heap.size = w10.heap.size := by omega
      have R_10c0 := R_10.c0
      have R_10c1 := R_10.c1
      have R_10c2 := R_10.c2
      have R_10l : w5.heap.size < w10.heap.size := R_10.1
      have R_10n : ¬ w5.heap.size = w10.heap.size := by omega
      have Y_10c0 := Y_10.c0
      have Y_10c1 := Y_10.c1
      have Y_10c2 := Y_10.c2
      have Y_10l : w7.heap.size < w10.heap.size := Y_10.1
      have Y_10n : ¬ w7.heap.size = w10.heap.size := by omega
      have Z_10c0 := Z_10.c0
      have Z_10c1 := Z_10.c1
      have Z_10c2 := Z_10.c2
      have Z_10l : w8.heap.size < w10.heap.size := Z_10.1
      have Z_10n : ¬ w8.heap.size = w10.heap.size := by omega
      go_wp2
      go_ret
      exact ⟨rfl, B10⟩
    · have hq : ((latText a3 b3 c3).toList == u.toList) = true := ltext_of (Q3.out rfl)
      clear Q3
      go_wp2_with fail
      refine (likeVecs9_any (s1_8.alloc _) (s2_8.alloc _)).mono ?_
      rintro e w9 ⟨rfl, hb9⟩
      have s1_9 := SRow.call (s1_8.alloc _) hb9
      have s2_9 := SRow.call (s2_8.alloc _) hb9
      clear s1_8 s2_8
      have U_9 : Kt (w1.heap.size) a b c w9 := Kt.call (Kt.alloc U_8 _) hb9
      have R_9 : Kt (w5.heap.size) 0 0 0 w9 := Kt.call (Kt.alloc R_8 _) hb9
      have Y_9 : Kt (w7.heap.size) a3 b3 c3 w9 := Kt.call (Kt.alloc Y_8 _) hb9
      have Z_9 : Kt (w8.heap.size) a3 b3 c3 w9 := Kt.call (Kt.at (w8.heap.size) (by simp) : Kt (w8.heap.size) a3 b3 c3 _) hb9
      have B9 : Below w.heap.size w w9 := bstep (Below.alloc (B8) (by have := B8.size; first | omega | (simp <;> omega)) _) hb9
      clear hb9 U_8 R_8 Y_8 B8 U_8c0 U_8c1 U_8c2 U_8l U_8n R_8c0 R_8c1 R_8c2 R_8l R_8n Y_8c0 Y_8c1 Y_8c2 Y_8l Y_8n
      have U_9c0 := U_9.c0
      have U_9c1 := U_9.c1
      have U_9c2 := U_9.c2
      have U_9l : w1.heap.size < w9.heap.size := U_9.1
      have U_9n : ¬ w1.heap.size = w9.heap.size := by omega
      have R_9c0 := R_9.c0
      have R_9c1 := R_9.c1
      have R_9c2 := R_9.c2
      have R_9l : w5.heap.size < w9.heap.size := R_9.1
      have R_9n : ¬ w5.heap.size = w9.heap.size := by omega
      have Y_9c0 := Y_9.c0
      have Y_9c1 := Y_9.c1
      have Y_9c2 := Y_9.c2
      have Y_9l : w7.heap.size < w9.heap.size := Y_9.1
      have Y_9n : ¬ w7.heap.size = w9.heap.size := by omega
      have Z_9c0 := Z_9.c0
      have Z_9c1 := Z_9.c1
      have Z_9c2 := Z_9.c2
      have Z_9l : w8.heap.size < w9.heap.size := Z_9.1
      have Z_9n : ¬ w8.heap.size = w9.heap.size := by omega
      go_wp2_with fail
      refine (specLText_any _ _ _ _).mono ?_
      rintro e w10 ⟨rfl, hb10⟩
      have s1_10 := SRow.call (s1_9) hb10
      have s2_10 := SRow.call (s2_9) hb10
      clear s1_9 s2_9
      have U_10 : Kt (w1.heap.size) a b c w10 := Kt.call U_9 hb10
      have R_10 : Kt (w5.heap.size) 0 0 0 w10 := Kt.call R_9 hb10
      have Y_10 : Kt (w7.heap.size) a3 b3 c3 w10 := Kt.call Y_9 hb10
      have Z_10 : Kt (w8.heap.size) a3 b3 c3 w10 := Kt.call Z_9 hb10
      have B10 : Below w.heap.size w w10 := bstep (B9) hb10
      clear hb10 U_9 R_9 Y_9 Z_9 B9 U_9c0 U_9c1 U_9c2 U_9l U_9n R_9c0 R_9c1 R_9c2 R_9l R_9n Y_9c0 Y_9c1 Y_9c2 Y_9l Y_9n Z_9c0 Z_9c1 Z_9c2 Z_9l Z_9n
      have U_10c0 := U_10.c0
      have U_10c1 := U_10.c1
      have U_10c2 := U_10.c2
      have U_10l : w1.heap.size < w10.heap.size := U_10.1
      have U_10n : ¬ w1.heap.size = w10.heap.size := by omega
      have R_10c0 := R_10.c0
      have R_10c1 := R_10.c1
      have R_10c2 := R_10.c2
      have R_10l : w5.heap.size < w10.heap.size := R_10.1
      have R_10n : ¬ w5.heap.size = w10.heap.size := by omega
      have Y_10c0 := Y_10.c0
      have Y_10c1 := Y_10.c1
      have Y_10c2 := Y_10.c2
      have Y_10l : w7.heap.size < w10.heap.size := Y_10.1
      have Y_10n : ¬ w7.heap.size = w10.heap.size := by omega
      have Z_10c0 := Z_10.c0
      have Z_10c1 := Z_10.c1
      have Z_10c2 := Z_10.c2
      have Z_10l : w8.heap.size < w10.heap.size := Z_10.1
      have Z_10n : ¬ w8.heap.size = w10.heap.size := by omega
      go_wp2_with fail
      refine (implLText_any _ _ _ _ (hT.on (B10))).mono ?_
      rintro e w11 ⟨rfl, hb11⟩
      have s1_11 := SRow.call (s1_10) hb11
      have s2_11 := SRow.call (s2_10) hb11
      clear s1_10 s2_10
      have U_11 : Kt (w1.heap.size) a b c w11 := Kt.call U_10 hb11
      have R_11 : Kt (w5.heap.size) 0 0 0 w11 := Kt.call R_10 hb11
      have Y_11 : Kt (w7.heap.size) a3 b3 c3 w11 := Kt.call Y_10 hb11
      have Z_11 : Kt (w8.heap.size) a3 b3 c3 w11 := Kt.call Z_10 hb11
      have B11 : Below w.heap.size w w11 := bstep (B10) hb11
      clear hb11 U_10 R_10 Y_10 Z_10 B10 U_10c0 U_10c1 U_10c2 U_10l U_10n R_10c0 R_10c1 R_10c2 R_10l R_10n Y_10c0 Y_10c1 Y_10c2 Y_10l Y_10n Z_10c0 Z_10c1 Z_10c2 Z_10l Z_10n
      have U_11c0 := U_11.c0
      have U_11c1 := U_11.c1
      have U_11c2 := U_11.c2
      have U_11l : w1.heap.size < w11.heap.size := U_11.1
      have U_11n : ¬ w1.heap.size = w11.heap.size := by omega
      have R_11c0 := R_11.c0
      have R_11c1 := R_11.c1
      have R_11c2 := R_11.c2
      have R_11l : w5.heap.size < w11.heap.size := R_11.1
      have R_11n : ¬ w5.heap.size = w11.heap.size := by omega
      have Y_11c0 := Y_11.c0
      have Y_11c1 := Y_11.c1
      have Y_11c2 := Y_11.c2
      have Y_11l : w7.heap.size < w11.heap.size := Y_11.1
      have Y_11n : ¬ w7.heap.size = w11.heap.size := by omega
      have Z_11c0 := Z_11.c0
      have Z_11c1 := Z_11.c1
      have Z_11c2 := Z_11.c2
      have Z_11l : w8.heap.size < w11.heap.size := Z_11.1
      have Z_11n : ¬ w8.heap.size = w11.heap.size := by omega
      go_wp2
      go_ret
      exact ⟨rfl, B11⟩
  · obtain ⟨rfl, rfl, rfl, rfl⟩ := lread_yes hv P1.out P2.out
    clear P1 P2
    have hn0 := ltext_ne hv
    have hn1 : ((latText a1 b1 c1).toList == []) = false := by simpa using hn0
    have hn2 : (latText a1 b1 c1).toList.isEmpty = false := by simpa using hn0
    clear hn0
    have HV := Lib.hid hv
    have hc : (celC a1 b1 c1 != 0) = false := by simp [celC, hv]
    clear hv
    cases o3
    · go_wp2_with fail
      refine (likeVecs9_any (s1_8.alloc _) (s2_8.alloc _)).mono ?_
      rintro e w9 ⟨rfl, hb9⟩
      have s1_9 := SRow.call (s1_8.alloc _) hb9
      have s2_9 := SRow.call (s2_8.alloc _) hb9
      clear s1_8 s2_8
      have U_9 : Kt (w1.heap.size) a1 b1 c1 w9 := Kt.call (Kt.alloc U_8 _) hb9
      have R_9 : Kt (w5.heap.size) a1 b1 c1 w9 := Kt.call (Kt.alloc R_8 _) hb9
      have Y_9 : Kt (w7.heap.size) a3 b3 c3 w9 := Kt.call (Kt.alloc Y_8 _) hb9
      have Z_9 : Kt (w8.heap.size) a3 b3 c3 w9 := Kt.call (Kt.at (w8.heap.size) (by simp) : Kt (w8.heap.size) a3 b3 c3 _) hb9
      have B9 : Below w.heap.size w w9 := bstep (Below.alloc (B8) (by have := B8.size; first | omega | (simp <;> omega)) _) hb9
      clear hb9 U_8 R_8 Y_8 B8 U_8c0 U_8c1 U_8c2 U_8l U_8n R_8c0 R_8c1 R_8c2 R_8l R_8n Y_8c0 Y_8c1 Y_8c2 Y_8l Y_8n
      have U_9c0 := U_9.c0
      have U_9c1 := U_9.c1
      have U_9c2 := U_9.c2
      have U_9l : w1.heap.size < w9.heap.size := U_9.1
      have U_9n : ¬ w1.heap.size = w9.heap.size := by omega
      have R_9c0 := R_9.c0
      have R_9c1 := R_9.c1
      have R_9c2 := R_9.c2
      have R_9l : w5.heap.size < w9.heap.size := R_9.1
      have R_9n : ¬ w5.heap.size = w9.heap.size := by omega
      have Y_9c0 := Y_9.c0
      have Y_9c1 := Y_9.c1
      have Y_9c2 := Y_9.c2
      have Y_9l : w7.heap.size < w9.heap.size := Y_9.1
      have Y_9n : ¬ w7.heap.size = w9.heap.size := by omega
      have Z_9c0 := Z_9.c0
      have Z_9c1 := Z_9.c1
      have Z_9c2 := Z_9.c2
      have Z_9l : w8.heap.size < w9.heap.size := Z_9.1
      have Z_9n : ¬ w8.heap.size = w9.heap.size := by omega
      go_wp2_with fail
      refine (specLText_any _ _ _ _).mono ?_
      rintro e w10 ⟨rfl, hb10⟩
      have s1_10 := SRow.call (s1_9) hb10
      have s2_10 := SRow.call (s2_9) hb10
      clear s1_9 s2_9
      have U_10 : Kt (w1.heap.size) a1 b1 c1 w10 := Kt.call U_9 hb10
      have R_10 : Kt (w5.heap.size) a1 b1 c1 w10 := Kt.call R_9 hb10
      have Y_10 : Kt (w7.heap.size) a3 b3 c3 w10 := Kt.call Y_9 hb10
      have Z_10 : Kt (w8.heap.size) a3 b3 c3 w10 := Kt.call Z_9 hb10
      have B10 : Below w.heap.size w w10 := bstep (B9) hb10
      clear hb10 U_9 R_9 Y_9 Z_9 B9 U_9c0 U_9c1 U_9c2 U_9l U_9n R_9c0 R_9c1 R_9c2 R_9l R_9n Y_9c0 Y_9c1 Y_9c2 Y_9l Y_9n Z_9c0 Z_9c1 Z_9c2 Z_9l Z_9n
      have U_10c0 := U_10.c0
      have U_10c1 := U_10.c1
      have U_10c2 := U_10.c2
      have U_10l : w1.heap.size < w10.heap.size := U_10.1
      have U_10n : ¬ w1.heap.size = w10.heap.size := by omega
      have R_10c0 := R_10.c0
      have R_10c1 := R_10.c1
      have R_10c2 := R_10.c2
      have R_10l : w5.heap.size < w10.heap.size := R_10.1
      have R_10n : ¬ w5.heap.size = w10.heap.size := by omega
      have Y_10c0 := Y_10.c0
      have Y_10c1 := Y_10.c1
      have Y_10c2 := Y_10.c2
      have Y_10l : w7.heap.size < w10.heap.size := Y_10.1
      have Y_10n : ¬ w7.heap.size = w10.heap.size := by omega
      have Z_10c0 := Z_10.c0
      have Z_10c1 := Z_10.c1
      have Z_10c2 := Z_10.c2
      have Z_10l : w8.heap.size < w10.heap.size := Z_10.1
      have Z_10n : ¬ w8.heap.size = w10.heap.size := by omega
      obtain ⟨p, rfl⟩ : ∃ p : Nat, a1 = (p : Int) := ⟨a1.toNat, by have := (latB_iff.1 HV.out).1; omega⟩
      obtain ⟨q, rfl⟩ : ∃ q : Nat, c1 = (q : Int) := ⟨c1.toNat, by have := (latB_iff.1 HV.out).2.1; omega⟩
      have hL : celL (p : Int) b1 (q : Int) = cellP q p := by rw [celL, HV.out]; simp
      obtain ⟨n, hn⟩ : ∃ n : Nat, (celL (p : Int) b1 (q : Int)).length = n := ⟨_, rfl⟩
      have hi := latB_iff.1 HV.out
      have hq1 : 1 ≤ q := by have := hi.2.1; omega
      have hp1 : 1 ≤ p := by have := hi.1; omega
      have hnp : n = p * q := by rw [← hn, hL, cellP_len]
      have hn64 : p * q ≤ 64 := by have := latI_prod hi; exact_mod_cast this
      have hpos : 0 < p * q := Nat.mul_pos (by omega) (by omega)
      rw [hn, hL] at s1_10
      obtain ⟨_, _, hs⟩ := s1_10
      obtain ⟨g, cp, rfl, _, _, hr⟩ := hs.resolve_left (fun h => by have := h.1; omega)
      generalize hcells : intAt (cells2 (cellP q p)) = F at hr
      have hF : ∀ k, k < p * q → F (k * 2) = ((k / q : Nat) : Int) ∧ F (k * 2 + 1) = ((k % q : Nat) : Int) := by
        intro k hk
        rw [← hcells]
        exact cells2_get _ _ _ _ (cellP_at q hq1 p k hk)
      have HF := Lib.hid hF
      have heq : ((n : Int) == (p : Int) * (q : Int)) = true := by rw [hnp]; simp
      have hm1 : 0 ≤ (p : Int) * (q : Int) := Int.mul_nonneg (by omega) (by omega)
      have hm2 : (p : Int) * (q : Int) ≤ 64 := latI_prod hi
      have HN := Lib.hid (show n = p * q ∧ n ≤ 64 from ⟨hnp, by omega⟩)
      have KU := U_10
      clear hs hcells hF hL hi hq1 hp1 hnp hn64 hpos hn s2_10
      go_wp2_with fail
      go_loopw [16] (fun i W => ∃ k : Nat, i = .int .i64 (k : Int) ∧ k ≤ n ∧ IRow g (n * 2) F W ∧ Kt w1.heap.size (p : Int) b1 (q : Int) W ∧ Below w.heap.size w W) (fun i _ => n - (intOf i).toNat)
      case atStart => exact ⟨0, rfl, by omega, hr, KU, B10⟩
      case round =>
        clear hr KU B10 U_10 U_10c0 U_10c1 U_10c2 U_10l U_10n R_10 R_10c0 R_10c1 R_10c2 R_10l R_10n Y_10 Y_10c0 Y_10c1 Y_10c2 Y_10l Y_10n Z_10 Z_10c0 Z_10c1 Z_10c2 Z_10l Z_10n
        obtain ⟨k, rfl, hk, hr, KU, hB⟩ := hrel
        obtain ⟨hnp, hn64⟩ := HN.out
        by_cases hk1 : k < n
        · have hk2 : (k : Int) < (n : Int) := by omega
          have hkp : k < p * q := by omega
          have hk64 : (k : Int) ≤ 64 := by omega
          obtain ⟨f1, f2⟩ := HF.out k hkp
          have hred := cell_red HV.out hkp
          have hless : ∀ j, k = j + 1 → cmpR (F (j * 2)) (F (j * 2 + 1)) ((k / q : Nat) : Int) ((k % q : Nat) : Int) = (-1, 0) := by
            intro j hj
            subst hj
            obtain ⟨e1, e2⟩ := HF.out j (by omega)
            rw [e1, e2]
            exact cell_less HV.out hkp
          generalize ((k / q : Nat) : Int) = X at *
          generalize ((k % q : Nat) : Int) = Y at *
          have HL := Lib.hid hless
          have hr0 := hr
          have o1 := hr.ko2 (k * 2) (by omega)
          rw [f1, f2] at o1
          have F12 := Lib.hid (show F (k * 2) = X ∧ F (k * 2 + 1) = Y from ⟨f1, f2⟩)
          have HK := Lib.hid (show k < n ∧ n ≤ 64 from ⟨hk1, hn64⟩)
          have hgl := hr.1
          have huw := KU.1
          clear hless f1 f2 hkp hnp hk hk1 hn64
          have s1 := o1.cells
          have s2 := KU.cells
          go_upto_region 18 with fail
          go_cut [17, 18] (fun s17 s18 wx => CMid w w1.heap.size g n F (p : Int) b1 (q : Int) X Y s17 s18 wx)
          case first =>
            go_region_held3 (fun W => (W.cell? ⟨w1.heap.size, 0, none⟩ = some (.int .i64 (p : Int)) ∧ W.cell? ⟨w1.heap.size, 1, none⟩ = some (.int .i64 b1) ∧ W.cell? ⟨w1.heap.size, 2, none⟩ = some (.int .i64 (q : Int))) ∧ (W.cell? ⟨g, k * 2, none⟩ = some (.int .i64 X) ∧ W.cell? ⟨g, k * 2 + 1, none⟩ = some (.int .i64 Y))) ((refine And.intro (Kt.cells ?_) (Ko2.cells ?_)) <;> repeat (first | assumption | with_reducible refine Kt.drew ?_ | with_reducible refine Kt.alloc ?_ _ | with_reducible refine Ko2.drew ?_ | with_reducible refine Ko2.alloc ?_ _ | with_reducible refine Kt.call ?_ (by assumption) | with_reducible refine Ko2.call ?_ (by assumption) | ((with_reducible refine Kt.put ?_ ?_); (dsimp only; omega)) | ((with_reducible refine Ko2.far ?_ ?_); (dsimp only; omega))))
              (first | (go_at_call 27; refine (implRed_any _ _ _ _ _ _).mono ?_; rintro e u1 ⟨he, hb1⟩; unfold redT at he; rw [hred] at he; subst he; obtain ⟨hc1, hf1⟩ := bcell hb1; have q1 : Ko2 g (k * 2) X Y u1 := (by repeat (first | assumption | with_reducible refine Ko2.drew ?_ | with_reducible refine Ko2.alloc ?_ _ | with_reducible refine Ko2.call ?_ (by assumption))); have M1 : Kt w1.heap.size (p : Int) b1 (q : Int) u1 := (by repeat (first | assumption | with_reducible refine Kt.drew ?_ | with_reducible refine Kt.alloc ?_ _ | with_reducible refine Kt.call ?_ (by assumption))); have I1 : IRow g (n * 2) F u1 := (by repeat (first | assumption | with_reducible refine IRow.drew ?_ | with_reducible refine IRow.alloc ?_ _ | with_reducible refine IRow.call ?_ (by assumption))); have z1 := hb1.size; have BB1 : Below w.heap.size w u1 := (by repeat (first | assumption | with_reducible refine Below.drew ?_ | with_reducible refine Below.alloc ?_ (by first | exact hB.size | omega | (simp <;> omega)) _ | with_reducible refine bstep ?_ (by assumption)))))
            all_goals
              go_wp2_with fail
              go_meet
              first
                | exact cmid_new I1 M1 BB1
                | (refine cmid_old (h := wr.heap.size) (v0 := .int .i64 0) (v1 := .int .i64 0) I1 M1 BB1 ?_ ?_ ?_ (by omega) huw hB.size
                   · (simp at z1; omega)
                   · (rw [hc1 _ _ (by simp)]; simp [go_sem])
                   · (rw [hc1 _ _ (by simp)]; simp [go_sem]))
          case rest =>
            obtain ⟨h, rfl, rfl, hh, ⟨h1, h2⟩, hr2, KU2, B2⟩ := hcut
            obtain ⟨hk1, hn64⟩ := HK.out
            obtain ⟨f1, f2⟩ := F12.out
            have o2 := hr2.ko2 (k * 2) (by omega)
            rw [f1, f2] at o2
            clear o1 s1 s2 KU hr hr0 hB hgl huw f1 f2 hred
            have s1 := o2.cells
            have HN2 := Lib.hid (show k < n ∧ n ≤ 64 from ⟨hk1, hn64⟩)
            clear hk1 hn64
            obtain ⟨c1, c2⟩ := s1
            go_wp2_with fail
            go_region
            have hr3 := hr2.drew
            have KU3 := KU2.drew
            have B3 := B2.drew
            clear c1 c2 h1 h2 hh o2 hr2 KU2 B2
            generalize wc.drew = wd at hr3 KU3 B3 ⊢
            by_cases hz : k = 0
            · have g0 : ¬ (0 : Int) < (k : Int) := by omega
              clear hz
              go_wp2
              obtain ⟨hk1, hn64⟩ := HN2.out
              go_roundw
              case rel => exact ⟨k + 1, by go_num, by omega, hr3, KU3, B3⟩
              case measure => first | (simp [intOf]; done) | (simp [intOf]; omega)
            · obtain ⟨j, hj⟩ : ∃ j, k = j + 1 := ⟨k - 1, by omega⟩
              obtain ⟨hk1, hn64⟩ := HN2.out
              have g1 : (0 : Int) < (k : Int) := by omega
              have hw0 : (0 : Int) ≤ (j : Int) := by omega
              have hwl : (j : Int) < (n : Int) := by omega
              have hw2 : (0 : Int) ≤ (k : Int) := by omega
              have hw1 : IntKind.i64.wrap ((k : Int) - 1) = (j : Int) := by rw [show (k : Int) - 1 = (j : Int) by omega]; exact IntWalk.i64_in _ (by omega)
              have hcmp := HL.out j hj
              have o2 := hr3.ko2 (k * 2) (by omega)
              obtain ⟨f1, f2⟩ := F12.out
              rw [f1, f2] at o2
              have o3 := hr3.ko2 (j * 2) (by omega)
              generalize F (j * 2) = X' at o3 hcmp
              generalize F (j * 2 + 1) = Y' at o3 hcmp
              have hgl := hr3.1
              clear hj hz hk1 hn64 f1 f2
              have s1 := o2.cells
              have s2 := o3.cells
              go_wp2_with fail
              go_region_held3 (fun W => (W.cell? ⟨g, j * 2, none⟩ = some (.int .i64 X') ∧ W.cell? ⟨g, j * 2 + 1, none⟩ = some (.int .i64 Y')) ∧ (W.cell? ⟨g, k * 2, none⟩ = some (.int .i64 X) ∧ W.cell? ⟨g, k * 2 + 1, none⟩ = some (.int .i64 Y))) ((refine And.intro (Ko2.cells ?_) (Ko2.cells ?_)) <;> repeat (first | assumption | with_reducible refine Ko2.drew ?_ | with_reducible refine Ko2.call ?_ (by assumption)))
                (first | (go_at_call 28; refine (implCmp_any _ _ _ _ _).mono ?_; rintro e u3 ⟨he, hb3⟩; unfold cmpV at he; rw [hcmp] at he; subst he; have q3 : Ko2 g (k * 2) X Y u3 := (by repeat (first | assumption | with_reducible refine Ko2.drew ?_ | with_reducible refine Ko2.call ?_ (by assumption))); have q4 : Ko2 g (j * 2) X' Y' u3 := (by repeat (first | assumption | with_reducible refine Ko2.drew ?_ | with_reducible refine Ko2.call ?_ (by assumption))); have M3 : Kt w1.heap.size (p : Int) b1 (q : Int) u3 := (by repeat (first | assumption | with_reducible refine Kt.drew ?_ | with_reducible refine Kt.call ?_ (by assumption))); have I3 : IRow g (n * 2) F u3 := (by repeat (first | assumption | with_reducible refine IRow.drew ?_ | with_reducible refine IRow.call ?_ (by assumption))); have BB3 : Below w.heap.size w u3 := (by repeat (first | assumption | with_reducible refine Below.drew ?_ | with_reducible refine bstep ?_ (by assumption)))))
              all_goals
                clear s1 s2 hw1 hw0 hwl hw2
                go_wp2
                obtain ⟨hk1, hn64⟩ := HN2.out
                go_roundw
                case rel => exact ⟨k + 1, by go_num, by omega, I3, M3, BB3⟩
                case measure => first | (simp [intOf]; done) | (simp [intOf]; omega)
        · obtain rfl : k = n := by omega
          obtain ⟨k0, k1, k2, k3⟩ := id KU
          clear hk hk1 hn64 hnp
          go_wp2
          go_ret
          exact ⟨rfl, hB⟩
    · have hq : ((latText a3 b3 c3).toList == u.toList) = true := ltext_of (Q3.out rfl)
      clear Q3
      go_wp2_with fail
      refine (likeVecs9_any (s1_8.alloc _) (s2_8.alloc _)).mono ?_
      rintro e w9 ⟨rfl, hb9⟩
      have s1_9 := SRow.call (s1_8.alloc _) hb9
      have s2_9 := SRow.call (s2_8.alloc _) hb9
      clear s1_8 s2_8
      have U_9 : Kt (w1.heap.size) a1 b1 c1 w9 := Kt.call (Kt.alloc U_8 _) hb9
      have R_9 : Kt (w5.heap.size) a1 b1 c1 w9 := Kt.call (Kt.alloc R_8 _) hb9
      have Y_9 : Kt (w7.heap.size) a3 b3 c3 w9 := Kt.call (Kt.alloc Y_8 _) hb9
      have Z_9 : Kt (w8.heap.size) a3 b3 c3 w9 := Kt.call (Kt.at (w8.heap.size) (by simp) : Kt (w8.heap.size) a3 b3 c3 _) hb9
      have B9 : Below w.heap.size w w9 := bstep (Below.alloc (B8) (by have := B8.size; first | omega | (simp <;> omega)) _) hb9
      clear hb9 U_8 R_8 Y_8 B8 U_8c0 U_8c1 U_8c2 U_8l U_8n R_8c0 R_8c1 R_8c2 R_8l R_8n Y_8c0 Y_8c1 Y_8c2 Y_8l Y_8n
      have U_9c0 := U_9.c0
      have U_9c1 := U_9.c1
      have U_9c2 := U_9.c2
      have U_9l : w1.heap.size < w9.heap.size := U_9.1
      have U_9n : ¬ w1.heap.size = w9.heap.size := by omega
      have R_9c0 := R_9.c0
      have R_9c1 := R_9.c1
      have R_9c2 := R_9.c2
      have R_9l : w5.heap.size < w9.heap.size := R_9.1
      have R_9n : ¬ w5.heap.size = w9.heap.size := by omega
      have Y_9c0 := Y_9.c0
      have Y_9c1 := Y_9.c1
      have Y_9c2 := Y_9.c2
      have Y_9l : w7.heap.size < w9.heap.size := Y_9.1
      have Y_9n : ¬ w7.heap.size = w9.heap.size := by omega
      have Z_9c0 := Z_9.c0
      have Z_9c1 := Z_9.c1
      have Z_9c2 := Z_9.c2
      have Z_9l : w8.heap.size < w9.heap.size := Z_9.1
      have Z_9n : ¬ w8.heap.size = w9.heap.size := by omega
      go_wp2_with fail
      refine (specLText_any _ _ _ _).mono ?_
      rintro e w10 ⟨rfl, hb10⟩
      have s1_10 := SRow.call (s1_9) hb10
      have s2_10 := SRow.call (s2_9) hb10
      clear s1_9 s2_9
      have U_10 : Kt (w1.heap.size) a1 b1 c1 w10 := Kt.call U_9 hb10
      have R_10 : Kt (w5.heap.size) a1 b1 c1 w10 := Kt.call R_9 hb10
      have Y_10 : Kt (w7.heap.size) a3 b3 c3 w10 := Kt.call Y_9 hb10
      have Z_10 : Kt (w8.heap.size) a3 b3 c3 w10 := Kt.call Z_9 hb10
      have B10 : Below w.heap.size w w10 := bstep (B9) hb10
      clear hb10 U_9 R_9 Y_9 Z_9 B9 U_9c0 U_9c1 U_9c2 U_9l U_9n R_9c0 R_9c1 R_9c2 R_9l R_9n Y_9c0 Y_9c1 Y_9c2 Y_9l Y_9n Z_9c0 Z_9c1 Z_9c2 Z_9l Z_9n
      have U_10c0 := U_10.c0
      have U_10c1 := U_10.c1
      have U_10c2 := U_10.c2
      have U_10l : w1.heap.size < w10.heap.size := U_10.1
      have U_10n : ¬ w1.heap.size = w10.heap.size := by omega
      have R_10c0 := R_10.c0
      have R_10c1 := R_10.c1
      have R_10c2 := R_10.c2
      have R_10l : w5.heap.size < w10.heap.size := R_10.1
      have R_10n : ¬ w5.heap.size = w10.heap.size := by omega
      have Y_10c0 := Y_10.c0
      have Y_10c1 := Y_10.c1
      have Y_10c2 := Y_10.c2
      have Y_10l : w7.heap.size < w10.heap.size := Y_10.1
      have Y_10n : ¬ w7.heap.size = w10.heap.size := by omega
      have Z_10c0 := Z_10.c0
      have Z_10c1 := Z_10.c1
      have Z_10c2 := Z_10.c2
      have Z_10l : w8.heap.size < w10.heap.size := Z_10.1
      have Z_10n : ¬ w8.heap.size = w10.heap.size := by omega
      go_wp2_with fail
      refine (implLText_any _ _ _ _ (hT.on (B10))).mono ?_
      rintro e w11 ⟨rfl, hb11⟩
      have s1_11 := SRow.call (s1_10) hb11
      have s2_11 := SRow.call (s2_10) hb11
      clear s1_10 s2_10
      have U_11 : Kt (w1.heap.size) a1 b1 c1 w11 := Kt.call U_10 hb11
      have R_11 : Kt (w5.heap.size) a1 b1 c1 w11 := Kt.call R_10 hb11
      have Y_11 : Kt (w7.heap.size) a3 b3 c3 w11 := Kt.call Y_10 hb11
      have Z_11 : Kt (w8.heap.size) a3 b3 c3 w11 := Kt.call Z_10 hb11
      have B11 : Below w.heap.size w w11 := bstep (B10) hb11
      clear hb11 U_10 R_10 Y_10 Z_10 B10 U_10c0 U_10c1 U_10c2 U_10l U_10n R_10c0 R_10c1 R_10c2 R_10l R_10n Y_10c0 Y_10c1 Y_10c2 Y_10l Y_10n Z_10c0 Z_10c1 Z_10c2 Z_10l Z_10n
      have U_11c0 := U_11.c0
      have U_11c1 := U_11.c1
      have U_11c2 := U_11.c2
      have U_11l : w1.heap.size < w11.heap.size := U_11.1
      have U_11n : ¬ w1.heap.size = w11.heap.size := by omega
      have R_11c0 := R_11.c0
      have R_11c1 := R_11.c1
      have R_11c2 := R_11.c2
      have R_11l : w5.heap.size < w11.heap.size := R_11.1
      have R_11n : ¬ w5.heap.size = w11.heap.size := by omega
      have Y_11c0 := Y_11.c0
      have Y_11c1 := Y_11.c1
      have Y_11c2 := Y_11.c2
      have Y_11l : w7.heap.size < w11.heap.size := Y_11.1
      have Y_11n : ¬ w7.heap.size = w11.heap.size := by omega
      have Z_11c0 := Z_11.c0
      have Z_11c1 := Z_11.c1
      have Z_11c2 := Z_11.c2
      have Z_11l : w8.heap.size < w11.heap.size := Z_11.1
      have Z_11n : ¬ w8.heap.size = w11.heap.size := by omega
      obtain ⟨p, rfl⟩ : ∃ p : Nat, a1 = (p : Int) := ⟨a1.toNat, by have := (latB_iff.1 HV.out).1; omega⟩
      obtain ⟨q, rfl⟩ : ∃ q : Nat, c1 = (q : Int) := ⟨c1.toNat, by have := (latB_iff.1 HV.out).2.1; omega⟩
      have hL : celL (p : Int) b1 (q : Int) = cellP q p := by rw [celL, HV.out]; simp
      obtain ⟨n, hn⟩ : ∃ n : Nat, (celL (p : Int) b1 (q : Int)).length = n := ⟨_, rfl⟩
      have hi := latB_iff.1 HV.out
      have hq1 : 1 ≤ q := by have := hi.2.1; omega
      have hp1 : 1 ≤ p := by have := hi.1; omega
      have hnp : n = p * q := by rw [← hn, hL, cellP_len]
      have hn64 : p * q ≤ 64 := by have := latI_prod hi; exact_mod_cast this
      have hpos : 0 < p * q := Nat.mul_pos (by omega) (by omega)
      rw [hn, hL] at s1_11
      obtain ⟨_, _, hs⟩ := s1_11
      obtain ⟨g, cp, rfl, _, _, hr⟩ := hs.resolve_left (fun h => by have := h.1; omega)
      generalize hcells : intAt (cells2 (cellP q p)) = F at hr
      have hF : ∀ k, k < p * q → F (k * 2) = ((k / q : Nat) : Int) ∧ F (k * 2 + 1) = ((k % q : Nat) : Int) := by
        intro k hk
        rw [← hcells]
        exact cells2_get _ _ _ _ (cellP_at q hq1 p k hk)
      have HF := Lib.hid hF
      have heq : ((n : Int) == (p : Int) * (q : Int)) = true := by rw [hnp]; simp
      have hm1 : 0 ≤ (p : Int) * (q : Int) := Int.mul_nonneg (by omega) (by omega)
      have hm2 : (p : Int) * (q : Int) ≤ 64 := latI_prod hi
      have HN := Lib.hid (show n = p * q ∧ n ≤ 64 from ⟨hnp, by omega⟩)
      have KU := U_11
      clear hs hcells hF hL hi hq1 hp1 hnp hn64 hpos hn s2_11
      go_wp2_with fail
      go_loopw [16] (fun i W => ∃ k : Nat, i = .int .i64 (k : Int) ∧ k ≤ n ∧ IRow g (n * 2) F W ∧ Kt w1.heap.size (p : Int) b1 (q : Int) W ∧ Below w.heap.size w W) (fun i _ => n - (intOf i).toNat)
      case atStart => exact ⟨0, rfl, by omega, hr, KU, B11⟩
      case round =>
        clear hr KU B11 U_11 U_11c0 U_11c1 U_11c2 U_11l U_11n R_11 R_11c0 R_11c1 R_11c2 R_11l R_11n Y_11 Y_11c0 Y_11c1 Y_11c2 Y_11l Y_11n Z_11 Z_11c0 Z_11c1 Z_11c2 Z_11l Z_11n
        obtain ⟨k, rfl, hk, hr, KU, hB⟩ := hrel
        obtain ⟨hnp, hn64⟩ := HN.out
        by_cases hk1 : k < n
        · have hk2 : (k : Int) < (n : Int) := by omega
          have hkp : k < p * q := by omega
          have hk64 : (k : Int) ≤ 64 := by omega
          obtain ⟨f1, f2⟩ := HF.out k hkp
          have hred := cell_red HV.out hkp
          have hless : ∀ j, k = j + 1 → cmpR (F (j * 2)) (F (j * 2 + 1)) ((k / q : Nat) : Int) ((k % q : Nat) : Int) = (-1, 0) := by
            intro j hj
            subst hj
            obtain ⟨e1, e2⟩ := HF.out j (by omega)
            rw [e1, e2]
            exact cell_less HV.out hkp
          generalize ((k / q : Nat) : Int) = X at *
          generalize ((k % q : Nat) : Int) = Y at *
          have HL := Lib.hid hless
          have hr0 := hr
          have o1 := hr.ko2 (k * 2) (by omega)
          rw [f1, f2] at o1
          have F12 := Lib.hid (show F (k * 2) = X ∧ F (k * 2 + 1) = Y from ⟨f1, f2⟩)
          have HK := Lib.hid (show k < n ∧ n ≤ 64 from ⟨hk1, hn64⟩)
          have hgl := hr.1
          have huw := KU.1
          clear hless f1 f2 hkp hnp hk hk1 hn64
          have s1 := o1.cells
          have s2 := KU.cells
          go_upto_region 18 with fail
          go_cut [17, 18] (fun s17 s18 wx => CMid w w1.heap.size g n F (p : Int) b1 (q : Int) X Y s17 s18 wx)
          case first =>
            go_region_held3 (fun W => (W.cell? ⟨w1.heap.size, 0, none⟩ = some (.int .i64 (p : Int)) ∧ W.cell? ⟨w1.heap.size, 1, none⟩ = some (.int .i64 b1) ∧ W.cell? ⟨w1.heap.size, 2, none⟩ = some (.int .i64 (q : Int))) ∧ (W.cell? ⟨g, k * 2, none⟩ = some (.int .i64 X) ∧ W.cell? ⟨g, k * 2 + 1, none⟩ = some (.int .i64 Y))) ((refine And.intro (Kt.cells ?_) (Ko2.cells ?_)) <;> repeat (first | assumption | with_reducible refine Kt.drew ?_ | with_reducible refine Kt.alloc ?_ _ | with_reducible refine Ko2.drew ?_ | with_reducible refine Ko2.alloc ?_ _ | with_reducible refine Kt.call ?_ (by assumption) | with_reducible refine Ko2.call ?_ (by assumption) | ((with_reducible refine Kt.put ?_ ?_); (dsimp only; omega)) | ((with_reducible refine Ko2.far ?_ ?_); (dsimp only; omega))))
              (first | (go_at_call 27; refine (implRed_any _ _ _ _ _ _).mono ?_; rintro e u1 ⟨he, hb1⟩; unfold redT at he; rw [hred] at he; subst he; obtain ⟨hc1, hf1⟩ := bcell hb1; have q1 : Ko2 g (k * 2) X Y u1 := (by repeat (first | assumption | with_reducible refine Ko2.drew ?_ | with_reducible refine Ko2.alloc ?_ _ | with_reducible refine Ko2.call ?_ (by assumption))); have M1 : Kt w1.heap.size (p : Int) b1 (q : Int) u1 := (by repeat (first | assumption | with_reducible refine Kt.drew ?_ | with_reducible refine Kt.alloc ?_ _ | with_reducible refine Kt.call ?_ (by assumption))); have I1 : IRow g (n * 2) F u1 := (by repeat (first | assumption | with_reducible refine IRow.drew ?_ | with_reducible refine IRow.alloc ?_ _ | with_reducible refine IRow.call ?_ (by assumption))); have z1 := hb1.size; have BB1 : Below w.heap.size w u1 := (by repeat (first | assumption | with_reducible refine Below.drew ?_ | with_reducible refine Below.alloc ?_ (by first | exact hB.size | omega | (simp <;> omega)) _ | with_reducible refine bstep ?_ (by assumption)))))
            all_goals
              go_wp2_with fail
              go_meet
              first
                | exact cmid_new I1 M1 BB1
                | (refine cmid_old (h := wr.heap.size) (v0 := .int .i64 0) (v1 := .int .i64 0) I1 M1 BB1 ?_ ?_ ?_ (by omega) huw hB.size
                   · (simp at z1; omega)
                   · (rw [hc1 _ _ (by simp)]; simp [go_sem])
                   · (rw [hc1 _ _ (by simp)]; simp [go_sem]))
          case rest =>
            obtain ⟨h, rfl, rfl, hh, ⟨h1, h2⟩, hr2, KU2, B2⟩ := hcut
            obtain ⟨hk1, hn64⟩ := HK.out
            obtain ⟨f1, f2⟩ := F12.out
            have o2 := hr2.ko2 (k * 2) (by omega)
            rw [f1, f2] at o2
            clear o1 s1 s2 KU hr hr0 hB hgl huw f1 f2 hred
            have s1 := o2.cells
            have HN2 := Lib.hid (show k < n ∧ n ≤ 64 from ⟨hk1, hn64⟩)
            clear hk1 hn64
            obtain ⟨c1, c2⟩ := s1
            go_wp2_with fail
            go_region
            have hr3 := hr2.drew
            have KU3 := KU2.drew
            have B3 := B2.drew
            clear c1 c2 h1 h2 hh o2 hr2 KU2 B2
            generalize wc.drew = wd at hr3 KU3 B3 ⊢
            by_cases hz : k = 0
            · have g0 : ¬ (0 : Int) < (k : Int) := by omega
              clear hz
              go_wp2
              obtain ⟨hk1, hn64⟩ := HN2.out
              go_roundw
              case rel => exact ⟨k + 1, by go_num, by omega, hr3, KU3, B3⟩
              case measure => first | (simp [intOf]; done) | (simp [intOf]; omega)
            · obtain ⟨j, hj⟩ : ∃ j, k = j + 1 := ⟨k - 1, by omega⟩
              obtain ⟨hk1, hn64⟩ := HN2.out
              have g1 : (0 : Int) < (k : Int) := by omega
              have hw0 : (0 : Int) ≤ (j : Int) := by omega
              have hwl : (j : Int) < (n : Int) := by omega
              have hw2 : (0 : Int) ≤ (k : Int) := by omega
              have hw1 : IntKind.i64.wrap ((k : Int) - 1) = (j : Int) := by rw [show (k : Int) - 1 = (j : Int) by omega]; exact IntWalk.i64_in _ (by omega)
              have hcmp := HL.out j hj
              have o2 := hr3.ko2 (k * 2) (by omega)
              obtain ⟨f1, f2⟩ := F12.out
              rw [f1, f2] at o2
              have o3 := hr3.ko2 (j * 2) (by omega)
              generalize F (j * 2) = X' at o3 hcmp
              generalize F (j * 2 + 1) = Y' at o3 hcmp
              have hgl := hr3.1
              clear hj hz hk1 hn64 f1 f2
              have s1 := o2.cells
              have s2 := o3.cells
              go_wp2_with fail
              go_region_held3 (fun W => (W.cell? ⟨g, j * 2, none⟩ = some (.int .i64 X') ∧ W.cell? ⟨g, j * 2 + 1, none⟩ = some (.int .i64 Y')) ∧ (W.cell? ⟨g, k * 2, none⟩ = some (.int .i64 X) ∧ W.cell? ⟨g, k * 2 + 1, none⟩ = some (.int .i64 Y))) ((refine And.intro (Ko2.cells ?_) (Ko2.cells ?_)) <;> repeat (first | assumption | with_reducible refine Ko2.drew ?_ | with_reducible refine Ko2.call ?_ (by assumption)))
                (first | (go_at_call 28; refine (implCmp_any _ _ _ _ _).mono ?_; rintro e u3 ⟨he, hb3⟩; unfold cmpV at he; rw [hcmp] at he; subst he; have q3 : Ko2 g (k * 2) X Y u3 := (by repeat (first | assumption | with_reducible refine Ko2.drew ?_ | with_reducible refine Ko2.call ?_ (by assumption))); have q4 : Ko2 g (j * 2) X' Y' u3 := (by repeat (first | assumption | with_reducible refine Ko2.drew ?_ | with_reducible refine Ko2.call ?_ (by assumption))); have M3 : Kt w1.heap.size (p : Int) b1 (q : Int) u3 := (by repeat (first | assumption | with_reducible refine Kt.drew ?_ | with_reducible refine Kt.call ?_ (by assumption))); have I3 : IRow g (n * 2) F u3 := (by repeat (first | assumption | with_reducible refine IRow.drew ?_ | with_reducible refine IRow.call ?_ (by assumption))); have BB3 : Below w.heap.size w u3 := (by repeat (first | assumption | with_reducible refine Below.drew ?_ | with_reducible refine bstep ?_ (by assumption)))))
              all_goals
                clear s1 s2 hw1 hw0 hwl hw2
                go_wp2
                obtain ⟨hk1, hn64⟩ := HN2.out
                go_roundw
                case rel => exact ⟨k + 1, by go_num, by omega, I3, M3, BB3⟩
                case measure => first | (simp [intOf]; done) | (simp [intOf]; omega)
        · obtain rfl : k = n := by omega
          obtain ⟨k0, k1, k2, k3⟩ := id KU
          clear hk hk1 hn64 hnp
          go_wp2
          go_ret
          exact ⟨rfl, hB⟩
end Go.Proofs.YtcjefepjnomfaaaDoor
