/-
  The program's closure that joins an orbit (it calls itself): what it leaves in the arrays of marks and indices. Conditions: a list that is a group modulo a valid lattice, arrays of 64 cells.
-/
import Derived.Test.YtodkomaeljbhaaaGreatDoorSb8
import Derived.Test.YtodkomaeljbhaaaGreatDoorCeS
import Derived.Deep.RegionHeld3
import Derived.IntWalk
namespace Go.Proofs.YtodkomaeljbhaaaGreatDoor
open Go.RowKit
set_option linter.unusedSimpArgs false
set_option linter.unusedVariables false

/- a cell's number, and how many cells are not joined yet -/
def nb (q : Int) (v : V2) : Nat := (v.1 * q + v.2).toNat
theorem nb_lt {A B C : Int} (hl : latI A B C) {v : V2} (hv : celB A C v = true) : 0 ≤ v.1 * C + v.2 ∧ v.1 * C + v.2 < A * C ∧ A * C ≤ 64 := by
  obtain ⟨⟨h1, h2⟩, h3, h4⟩ := celB_iff.1 hv
  have h5 := latI_prod hl
  have e1 : v.1 * C ≤ (A - 1) * C := Int.mul_le_mul_of_nonneg_right (by omega) (by omega)
  have e2 : (A - 1) * C = A * C - C := by rw [Int.sub_mul, Int.one_mul]
  have e3 : 0 ≤ v.1 * C := Int.mul_nonneg h1 (by omega)
  omega
theorem nb_int {A B C : Int} (hl : latI A B C) {v : V2} (hv : celB A C v = true) : ((nb C v : Nat) : Int) = v.1 * C + v.2 := by
  have h := nb_lt hl hv
  unfold nb
  omega
theorem nb_64 {A B C : Int} (hl : latI A B C) {v : V2} (hv : celB A C v = true) : nb C v < 64 := by
  have h := nb_lt hl hv
  have h2 := nb_int hl hv
  omega
theorem nb_inj {A B C : Int} (hl : latI A B C) {u v : V2} (hu : celB A C u = true) (hv : celB A C v = true) (h : nb C u = nb C v) : u = v := by
  have e1 := nb_int hl hu
  have e2 := nb_int hl hv
  rw [h] at e1
  obtain ⟨⟨a1, a2⟩, a3, a4⟩ := celB_iff.1 hu
  obtain ⟨⟨b1, b2⟩, b3, b4⟩ := celB_iff.1 hv
  obtain ⟨x, y⟩ := u
  obtain ⟨x', y'⟩ := v
  simp only at *
  have hx : x = x' := by
    rcases Int.lt_trichotomy x x' with h | h | h
    · have e : (x + 1) * C ≤ x' * C := Int.mul_le_mul_of_nonneg_right (by omega) (by omega)
      rw [Int.add_mul, Int.one_mul] at e
      omega
    · exact h
    · have e : (x' + 1) * C ≤ x * C := Int.mul_le_mul_of_nonneg_right (by omega) (by omega)
      rw [Int.add_mul, Int.one_mul] at e
      omega
  subst hx
  rw [show y = y' by omega]
def unJ (J : Nat → Bool) : Nat := ((List.range 64).filter fun n => !J n).length
theorem fil_le {P Q : Nat → Bool} (h : ∀ n, P n = true → Q n = true) : ∀ L : List Nat, (L.filter P).length ≤ (L.filter Q).length
  | [] => by simp
  | a :: L => by
    have ih := fil_le h L
    rcases hp : P a with _ | _
    · rcases hq : Q a with _ | _
      · rw [List.filter_cons_of_neg (by simp [hp]), List.filter_cons_of_neg (by simp [hq])]; exact ih
      · rw [List.filter_cons_of_neg (by simp [hp]), List.filter_cons_of_pos hq, List.length_cons]; omega
    · rw [List.filter_cons_of_pos hp, List.filter_cons_of_pos (h a hp), List.length_cons, List.length_cons]; omega
theorem fil_lt {P Q : Nat → Bool} (h : ∀ n, P n = true → Q n = true) {k : Nat} (hq : Q k = true) (hp : P k = false) : ∀ L : List Nat, k ∈ L → (L.filter P).length < (L.filter Q).length
  | [], hm => absurd hm (by simp)
  | a :: L, hm => by
    by_cases e : a = k
    · subst e
      have := fil_le h L
      rw [List.filter_cons_of_neg (by simp [hp]), List.filter_cons_of_pos hq, List.length_cons]; omega
    · have hm2 : k ∈ L := by
        rcases List.mem_cons.1 hm with e' | e'
        · exact absurd e'.symm e
        · exact e'
      have ih := fil_lt h hq hp L hm2
      rcases hp2 : P a with _ | _
      · rcases hq2 : Q a with _ | _
        · rw [List.filter_cons_of_neg (by simp [hp2]), List.filter_cons_of_neg (by simp [hq2])]; exact ih
        · rw [List.filter_cons_of_neg (by simp [hp2]), List.filter_cons_of_pos hq2, List.length_cons]; omega
      · rw [List.filter_cons_of_pos hp2, List.filter_cons_of_pos (h a hp2), List.length_cons, List.length_cons]; omega
theorem unJ_mono {J J' : Nat → Bool} (h : ∀ n, J n = true → J' n = true) : unJ J' ≤ unJ J := fil_le (fun n hn => by
  rcases hj : J n with _ | _
  · rfl
  · rw [h n hj] at hn; cases hn) _
theorem unJ_set {J : Nat → Bool} {k : Nat} (hk : k < 64) (h : J k = false) : unJ (fun n => if n = k then true else J n) < unJ J := fil_lt (fun n hn => by
  by_cases e : n = k
  · subst e; simp at hn
  · simpa [e] using hn) (by simp [h]) (by simp) _ (List.mem_range.2 hk)
/- what joining a cell leaves -/
structure JPost (A B C : Int) (G : List M6) (c : Int) (J : Nat → Bool) (I : Nat → Int) (u : V2) (J' : Nat → Bool) (I' : Nat → Int) : Prop where
  sub : ∀ n, J n = true → J' n = true
  me : J' (nb C u) = true
  reach : ∀ n, J' n = true → J n = false → ∃ v, celB A C v = true ∧ nb C v = n ∧ Orb A B C G u v
  clos : ∀ v, celB A C v = true → J' (nb C v) = true → J (nb C v) = false → ∀ g ∈ G, J' (nb C (mv A B C g v)) = true
  idx : ∀ n, I' n = if J' n = true ∧ J n = false then c else I n
structure JMid (A B C : Int) (G : List M6) (c : Int) (J : Nat → Bool) (I : Nat → Int) (u : V2) (k : Nat) (J' : Nat → Bool) (I' : Nat → Int) : Prop where
  sub : ∀ n, J n = true → J' n = true
  me : J' (nb C u) = true
  reach : ∀ n, J' n = true → J n = false → ∃ v, celB A C v = true ∧ nb C v = n ∧ Orb A B C G u v
  clos : ∀ v, celB A C v = true → J' (nb C v) = true → J (nb C v) = false → v ≠ u → ∀ g ∈ G, J' (nb C (mv A B C g v)) = true
  img : ∀ i (h : i < G.length), i < k → J' (nb C (mv A B C G[i] u)) = true
  idx : ∀ n, I' n = if J' n = true ∧ J n = false then c else I n
theorem JPost.same {A B C : Int} {G : List M6} {c : Int} {J : Nat → Bool} {I : Nat → Int} {u : V2} (h : J (nb C u) = true) : JPost A B C G c J I u J I :=
  ⟨fun _ h => h, h, fun n h1 h2 => (by rw [h1] at h2; cases h2), fun v _ h1 h2 => (by rw [h1] at h2; cases h2), fun n => (by
    rw [if_neg]
    rintro ⟨h1, h2⟩
    rw [h1] at h2; cases h2)⟩
theorem JMid.start {f A B C : Int} {G : List M6} (hG : grpB f A B C G = true) {c : Int} {J : Nat → Bool} {I : Nat → Int} {u : V2} (hu : celB A C u = true) (h : J (nb C u) = false) :
    JMid A B C G c J I u 0 (fun n => if n = nb C u then true else J n) (fun n => if n = nb C u then c else I n) := by
  have hl := (grp_good hG).1
  refine ⟨fun n hn => ?_, by simp, fun n h1 h2 => ?_, fun v hv h1 h2 hne => ?_, fun i _ hi => by omega, fun n => ?_⟩
  · show (if n = nb C u then true else J n) = true
    split <;> simp [hn]
  · have h1' : (if n = nb C u then true else J n) = true := h1
    by_cases e : n = nb C u
    · exact ⟨u, hu, e.symm, orb_refl hG hu⟩
    · rw [if_neg e, h2] at h1'; cases h1'
  · have h1' : (if nb C v = nb C u then true else J (nb C v)) = true := h1
    by_cases e : nb C v = nb C u
    · exact absurd (nb_inj hl hv hu e) hne
    · rw [if_neg e, h2] at h1'; cases h1'
  · show (if n = nb C u then c else I n) = _
    by_cases e : n = nb C u
    · subst e
      simp [h]
    · rw [if_neg e, if_neg]
      rintro ⟨h1, h2⟩
      have h1' : (if n = nb C u then true else J n) = true := h1
      rw [if_neg e, h2] at h1'; cases h1'
theorem JMid.next {f A B C : Int} {G : List M6} (hG : grpB f A B C G = true) {c : Int} {J J1 J2 : Nat → Bool} {I I1 I2 : Nat → Int} {u : V2} {k : Nat} (hk : k < G.length) (hm : JMid A B C G c J I u k J1 I1) (hp : JPost A B C G c J1 I1 (mv A B C G[k] u) J2 I2) : JMid A B C G c J I u (k + 1) J2 I2 := by
  refine ⟨fun n h => hp.sub n (hm.sub n h), hp.sub _ hm.me, fun n h1 h2 => ?_, fun v hv h1 h2 hne g hg => ?_, fun i hi hik => ?_, fun n => ?_⟩
  · rcases h3 : J1 n with _ | _
    · obtain ⟨v, hv, e, hr⟩ := hp.reach n h1 h3
      exact ⟨v, hv, e, orb_trans hG ⟨G[k], List.getElem_mem hk, rfl⟩ hr⟩
    · exact hm.reach n h3 h2
  · rcases h3 : J1 (nb C v) with _ | _
    · exact hp.clos v hv h1 h3 g hg
    · exact hp.sub _ (hm.clos v hv h3 h2 hne g hg)
  · by_cases e : i = k
    · subst e; exact hp.me
    · exact hp.sub _ (hm.img i hi (by omega))
  · rw [hp.idx n, hm.idx n]
    rcases h1 : J n with _ | _
    · rcases h2 : J1 n with _ | _
      · rcases h3 : J2 n with _ | _ <;> simp
      · have h3 := hp.sub n h2
        simp [h3]
    · have h2 := hm.sub n h1
      simp [h2]
theorem JMid.fin {A B C : Int} {G : List M6} {c : Int} {J J' : Nat → Bool} {I I' : Nat → Int} {u : V2} (h : JMid A B C G c J I u G.length J' I') : JPost A B C G c J I u J' I' := by
  refine ⟨h.sub, h.me, h.reach, fun v hv h1 h2 g hg => ?_, h.idx⟩
  by_cases e : v = u
  · subst e
    obtain ⟨i, hi, rfl⟩ := List.getElem_of_mem hg
    exact h.img i hi hi
  · exact h.clos v hv h1 h2 e g hg
/- worlds in which of the old blocks at most two have turned -/
structure Two (p q : Nat) (w w' : World) : Prop where
  os : w'.os = w.os
  tape : w'.tape = w.tape
  output : w'.output = w.output
  size : w.heap.size ≤ w'.heap.size
  block : ∀ k, k < w.heap.size → k ≠ p → k ≠ q → w'.heap[k]? = w.heap[k]?
theorem Two.refl (p q : Nat) (w : World) : Two p q w w := ⟨rfl, rfl, rfl, Nat.le_refl _, fun _ _ _ _ => rfl⟩
theorem Two.trans {p q : Nat} {a b c : World} (h : Two p q a b) (k : Two p q b c) : Two p q a c :=
  ⟨k.os.trans h.os, k.tape.trans h.tape, k.output.trans h.output, Nat.le_trans h.size k.size, fun i hi h1 h2 => (k.block i (Nat.lt_of_lt_of_le hi h.size) h1 h2).trans (h.block i hi h1 h2)⟩
theorem Two.of {p q : Nat} {a b : World} (h : Below a.heap.size a b) : Two p q a b := ⟨h.os, h.tape, h.output, h.size, fun k hk _ _ => h.block k hk⟩
theorem Two.below {p q B : Nat} {a b c : World} (h : Two p q b c) (hb : Below B a b) (hs : B ≤ a.heap.size) (hp : B ≤ p) (hq : B ≤ q) : Below B a c :=
  hb.trans ⟨h.os, h.tape, h.output, h.size, fun k hk => h.block k (Nat.lt_of_lt_of_le hk (Nat.le_trans hs hb.size)) (by omega) (by omega)⟩
theorem Two.put {p q : Nat} {a b : World} (h : Two p q a b) {r : Addr} (hr : r.block = p ∨ r.block = q) (u : Value) : Two p q a (b.setCell r u) :=
  h.trans ⟨rfl, rfl, rfl, by simp [World.setCell], fun k _ h1 h2 => Below.heap_setCell _ _ _ _ (by omega)⟩
theorem Two.alloc {p q : Nat} {a b : World} (h : Two p q a b) (z : Obj) : Two p q a (b.alloc z) := h.trans (.of ((Below.refl _ _).alloc (Nat.le_refl _) _))
theorem Two.drew {p q : Nat} {a b : World} (h : Two p q a b) : Two p q a b.drew := h.trans (.of (Below.refl _ _).drew)
theorem Two.call {p q : Nat} {a b c : World} (h : Two p q a b) (hb : Below b.heap.size b c) : Two p q a c := h.trans (.of hb)
theorem Two.cell {p q : Nat} {w w' : World} (h : Two p q w w') {r : Addr} (h0 : r.block < w.heap.size) (h1 : r.block ≠ p) (h2 : r.block ≠ q) : w'.cell? r = w.cell? r := World.cell?_of_block (w := w) (h.block r.block h0 h1 h2)
theorem Two.frozen {p q : Nat} {w w' : World} (h : Two p q w w') {r : Addr} (h0 : r.block < w.heap.size) (h1 : r.block ≠ p) (h2 : r.block ≠ q) : w'.frozen? r = w.frozen? r := World.frozen?_of_block (w := w) (h.block r.block h0 h1 h2)
theorem Kt.two {p q R : Nat} {a b c : Int} {W w1 : World} (h : Kt R a b c W) (hT : Two p q W w1) (h1 : R ≠ p) (h2 : R ≠ q) : Kt R a b c w1 :=
  ⟨Nat.lt_of_lt_of_le h.1 hT.size, (hT.cell (r := ⟨R, 0, none⟩) h.1 h1 h2).trans h.c0, (hT.cell (r := ⟨R, 1, none⟩) h.1 h1 h2).trans h.c1, (hT.cell (r := ⟨R, 2, none⟩) h.1 h1 h2).trans h.c2⟩
theorem Kg.two {p q R : Nat} {a b : Int} {W w1 : World} (h : Kg R a b W) (hT : Two p q W w1) (h1 : R ≠ p) (h2 : R ≠ q) : Kg R a b w1 :=
  ⟨Nat.lt_of_lt_of_le h.1 hT.size, (hT.cell (r := ⟨R, 0, none⟩) h.1 h1 h2).trans h.2.1, (hT.cell (r := ⟨R, 1, none⟩) h.1 h1 h2).trans h.2.2⟩
theorem Km.two {p q R : Nat} {a b c d x y : Int} {W w1 : World} (h : Km R a b c d x y W) (hT : Two p q W w1) (h1 : R ≠ p) (h2 : R ≠ q) : Km R a b c d x y w1 :=
  ⟨Nat.lt_of_lt_of_le h.1 hT.size, (hT.cell (r := ⟨R, 0, none⟩) h.1 h1 h2).trans h.c0, (hT.cell (r := ⟨R, 1, none⟩) h.1 h1 h2).trans h.c1, (hT.cell (r := ⟨R, 2, none⟩) h.1 h1 h2).trans h.c2, (hT.cell (r := ⟨R, 3, none⟩) h.1 h1 h2).trans h.c3, (hT.cell (r := ⟨R, 4, none⟩) h.1 h1 h2).trans h.c4, (hT.cell (r := ⟨R, 5, none⟩) h.1 h1 h2).trans h.c5⟩
/- a block of one cell -/
def K1 (R : Nat) (v : Value) (W : World) : Prop := R < W.heap.size ∧ W.cell? ⟨R, 0, none⟩ = some v
theorem K1.call {R : Nat} {v : Value} {W w1 : World} (h : K1 R v W) (hb : Below W.heap.size W w1) : K1 R v w1 := ⟨Nat.lt_of_lt_of_le h.1 hb.size, (hb.cell (p := ⟨R, 0, none⟩) h.1).trans h.2⟩
theorem K1.alloc {R : Nat} {v : Value} {W : World} (h : K1 R v W) (z : Obj) : K1 R v (W.alloc z) := h.call ((Below.refl _ _).alloc (Nat.le_refl _) _)
theorem K1.drew {R : Nat} {v : Value} {W : World} (h : K1 R v W) : K1 R v W.drew := h.call (Below.refl _ _).drew
theorem K1.two {p q R : Nat} {v : Value} {W w1 : World} (h : K1 R v W) (hT : Two p q W w1) (h1 : R ≠ p) (h2 : R ≠ q) : K1 R v w1 := ⟨Nat.lt_of_lt_of_le h.1 hT.size, (hT.cell (r := ⟨R, 0, none⟩) h.1 h1 h2).trans h.2⟩
theorem K1.c {R : Nat} {v : Value} {W : World} (h : K1 R v W) : W.cell? ⟨R, 0, none⟩ = some v := h.2
theorem K1.far {R : Nat} {v : Value} {W : World} {r : Addr} {u : Value} (hr : r.block ≠ R) (h : K1 R v W) : K1 R v (W.setCell r u) := by
  have hh : (W.setCell r u).heap[R]? = W.heap[R]? := Below.heap_setCell _ _ _ _ (by omega)
  exact ⟨by simpa [World.setCell] using h.1, (World.cell?_of_block (w := W) hh).trans h.2⟩
theorem IRow.far7 {g N : Nat} {F : Nat → Int} {W : World} {r : Addr} {u : Value} (hr : r.block ≠ g) (h : IRow g N F W) : IRow g N F (W.setCell r u) := by
  have hh : (W.setCell r u).heap[g]? = W.heap[g]? := Below.heap_setCell _ _ _ _ (by omega)
  exact ⟨by simpa [World.setCell] using h.1, fun t ht => ⟨(World.cell?_of_block (w := W) hh).trans (h.2 t ht).1, (World.frozen?_of_block (w := W) hh).trans (h.2 t ht).2⟩⟩
theorem k1_lt {R : Nat} {v : Value} {W : World} (h : K1 R v W) : R < W.heap.size := h.1
theorem kg_lt7 {R : Nat} {a b : Int} {W : World} (h : Kg R a b W) : R < W.heap.size := h.1
/- the whole block of the indices -/
def rowI (I : Nat → Int) : Array Value := ((List.range 64).map fun n => Value.int .i64 (I n)).toArray
theorem rowI_size (I : Nat → Int) : (rowI I).size = 64 := by simp [rowI]
theorem rowI_get (I : Nat → Int) (k : Nat) (hk : k < 64) : (rowI I)[k]? = some (.int .i64 (I k)) := by simp [rowI, hk]
theorem rowI_set (I : Nat → Int) (k : Nat) (z : Int) : (rowI I).setIfInBounds k (.int .i64 z) = rowI (fun n => if n = k then z else I n) := by
  apply Array.ext_getElem?
  intro i
  by_cases hi : i < 64
  · rw [rowI_get _ i hi, Array.getElem?_setIfInBounds]
    by_cases e : k = i
    · subst e; simp [rowI_size, hi]
    · rw [if_neg e, rowI_get _ i hi, if_neg (fun h => e h.symm)]
  · rw [Array.getElem?_eq_none (by rw [Array.size_setIfInBounds, rowI_size]; omega), Array.getElem?_eq_none (by rw [rowI_size]; omega)]
/- a row of marks -/
def BRow (g N : Nat) (F : Nat → Bool) (W : World) : Prop := g < W.heap.size ∧ ∀ t, t < N → W.cell? ⟨g, t, none⟩ = some (.bool (F t)) ∧ W.frozen? ⟨g, t, none⟩ = false
theorem BRow.call {g N : Nat} {F : Nat → Bool} {W w1 : World} (h : BRow g N F W) (hb : Below W.heap.size W w1) : BRow g N F w1 :=
  ⟨Nat.lt_of_lt_of_le h.1 hb.size, fun t ht => ⟨(hb.cell (p := ⟨g, t, none⟩) h.1).trans (h.2 t ht).1, (hb.frozen (p := ⟨g, t, none⟩) h.1).trans (h.2 t ht).2⟩⟩
theorem BRow.alloc {g N : Nat} {F : Nat → Bool} {W : World} (h : BRow g N F W) (z : Obj) : BRow g N F (W.alloc z) := h.call ((Below.refl _ _).alloc (Nat.le_refl _) _)
theorem BRow.drew {g N : Nat} {F : Nat → Bool} {W : World} (h : BRow g N F W) : BRow g N F W.drew := h.call (Below.refl _ _).drew
theorem BRow.at {g N : Nat} {F : Nat → Bool} {W : World} (h : BRow g N F W) (t : Nat) (ht : t < N) : W.cell? ⟨g, t, none⟩ = some (.bool (F t)) := (h.2 t ht).1
theorem BRow.free {g N : Nat} {F : Nat → Bool} {W : World} (h : BRow g N F W) (t : Nat) (ht : t < N) : W.frozen? ⟨g, t, none⟩ = false := (h.2 t ht).2
theorem BRow.put {g N : Nat} {F : Nat → Bool} {W : World} (h : BRow g N F W) (s : Nat) (hs : s < N) (z : Bool) : BRow g N (fun t => if t = s then z else F t) (W.setCell ⟨g, s, none⟩ (.bool z)) := by
  refine ⟨by simpa [World.setCell] using h.1, fun t ht => ?_⟩
  obtain ⟨h1, h2⟩ := h.2 t ht
  obtain ⟨h3, h4⟩ := h.2 s hs
  by_cases e : t = s
  · subst e
    simp [h3, h2, go_sem]
  · refine ⟨?_, ?_⟩
    · simp [h1, e, go_sem]
    · simpa [go_sem] using h2
theorem BRow.far {g N : Nat} {F : Nat → Bool} {W : World} {r : Addr} {u : Value} (hr : r.block ≠ g) (h : BRow g N F W) : BRow g N F (W.setCell r u) := by
  have hh : (W.setCell r u).heap[g]? = W.heap[g]? := Below.heap_setCell _ _ _ _ (by omega)
  exact ⟨by simpa [World.setCell] using h.1, fun t ht => ⟨(World.cell?_of_block (w := W) hh).trans (h.2 t ht).1, (World.frozen?_of_block (w := W) hh).trans (h.2 t ht).2⟩⟩
theorem IRow.alloc {g N : Nat} {F : Nat → Int} {W : World} (h : IRow g N F W) (z : Obj) : IRow g N F (W.alloc z) := h.call ((Below.refl _ _).alloc (Nat.le_refl _) _)
theorem IRow.drew {g N : Nat} {F : Nat → Int} {W : World} (h : IRow g N F W) : IRow g N F W.drew := h.call (Below.refl _ _).drew
theorem IRow.two {p q g N : Nat} {F : Nat → Int} {W w1 : World} (h : IRow g N F W) (hT : Two p q W w1) (h1 : g ≠ p) (h2 : g ≠ q) : IRow g N F w1 :=
  ⟨Nat.lt_of_lt_of_le h.1 hT.size, fun t ht => ⟨(hT.cell (r := ⟨g, t, none⟩) h.1 h1 h2).trans (h.2 t ht).1, (hT.frozen (r := ⟨g, t, none⟩) h.1 h1 h2).trans (h.2 t ht).2⟩⟩
structure JFix (A B C c : Int) (G : List M6) (bl bc bm bf gm cap : Nat) (fv : Value) (W : World) : Prop where
  l : Kt bl A B C W
  c : K1 bc (.int .i64 c) W
  m : K1 bm (.slice (some ⟨gm, 0, none⟩) G.length cap) W
  f : K1 bf fv W
  g : IRow gm (G.length * 6) (fm G) W
theorem JFix.call {A B C c : Int} {G : List M6} {bl bc bm bf gm cap : Nat} {fv : Value} {W w1 : World} (h : JFix A B C c G bl bc bm bf gm cap fv W) (hb : Below W.heap.size W w1) : JFix A B C c G bl bc bm bf gm cap fv w1 := ⟨h.l.call hb, h.c.call hb, h.m.call hb, h.f.call hb, h.g.call hb⟩
theorem JFix.two {A B C c : Int} {G : List M6} {bl bc bm bf gm cap bi bj : Nat} {fv : Value} {W w1 : World} (h : JFix A B C c G bl bc bm bf gm cap fv W) (hT : Two bi bj W w1) (hne : bl ≠ bi ∧ bl ≠ bj ∧ bc ≠ bi ∧ bc ≠ bj ∧ bm ≠ bi ∧ bm ≠ bj ∧ bf ≠ bi ∧ bf ≠ bj ∧ bi ≠ bj ∧ gm ≠ bi ∧ gm ≠ bj) : JFix A B C c G bl bc bm bf gm cap fv w1 := by
  obtain ⟨h1, h2, h3, h4, h5, h6, h7, h8, _, h9, h10⟩ := hne
  exact ⟨h.l.two hT h1 h2, h.c.two hT h3 h4, h.m.two hT h5 h6, h.f.two hT h7 h8, h.g.two hT h9 h10⟩
end Go.Proofs.YtodkomaeljbhaaaGreatDoor
