/-
  The program's closure that joins an orbit (it calls itself): what it leaves in the arrays of marks and indices. Conditions: a list that is a group modulo a valid lattice, arrays of 64 cells.
-/
import Derived.Test.YtkfdaepnjdnnmaaGreatDoorSb8
import Derived.Test.YtkfdaepnjdnnmaaGreatDoorCeS
import Derived.Deep.RegionHeld3
import Derived.IntWalk
namespace Go.Proofs.YtkfdaepnjdnnmaaGreatDoor
open Go.RowKit
set_option linter.unusedSimpArgs false
set_option linter.unusedVariables false

/- a cell's number, and how many cells are not joined yet -/
def nb (q : Int) (v : V2) : Nat := (v.1 * q + v.2).toNat
theorem nb_lt {A B C : Int} (hl : latI A B C) {v : V2} (hv : celB A C v = true) : 0 ≤ v.1 * C + v.2 ∧ v.1 * C + v.2 < A * C ∧ A * C ≤ 64 := by
  obtain ⟨⟨h1, h2⟩, h3, h4⟩ := celB_iff.1 hv
  have h5 := latI_prod hl
  have e1 : v.1 * C ≤ (A - 1) * C := Int.mul_le_mul_of_nonneg_right (by omega) (by omega)
  have e2 : (A - 1) * C = A * C - C := by rw [Int.sub_mul, Int.one_mul]
  have e3 : 0 ≤ v.1 * C := Int.mul_nonneg h1 (by omega)
  omega
theorem nb_int {A B C : Int} (hl : latI A B C) {v : V2} (hv : celB A C v = true) : ((nb C v : Nat) : Int) = v.1 * C + v.2 := by
  have h := nb_lt hl hv
  unfold nb
  omega
theorem nb_64 {A B C : Int} (hl : latI A B C) {v : V2} (hv : celB A C v = true) : nb C v < 64 := by
  have h := nb_lt hl hv
  have h2 := nb_int hl hv
  omega
theorem nb_inj {A B C : Int} (hl : latI A B C) {u v : V2} (hu : celB A C u = true) (hv : celB A C v = true) (h : nb C u = nb C v) : u = v := by
  have e1 := nb_int hl hu
  have e2 := nb_int hl hv
  rw [h] at e1
  obtain ⟨⟨a1, a2⟩, a3, a4⟩ := celB_iff.1 hu
  obtain ⟨⟨b1, b2⟩, b3, b4⟩ := celB_iff.1 hv
  obtain ⟨x, y⟩ := u
  obtain ⟨x', y'⟩ := v
  simp only at *
  have hx : x = x' := by
    rcases Int.lt_trichotomy x x' with h | h | h
    · have e : (x + 1) * C ≤ x' * C := Int.mul_le_mul_of_nonneg_right (by omega) (by omega)
      rw [Int.add_mul, Int.one_mul] at e
      omega
    · exact h
    · have e : (x' + 1) * C ≤ x * C := Int.mul_le_mul_of_nonneg_right (by omega) (by omega)
      rw [Int.add_mul, Int.one_mul] at e
      omega
  subst hx
  rw [show y = y' by omega]
def unJ (J : Nat → Bool) : Nat := ((List.range 64).filter fun n => !J n).length
theorem fil_le {P Q : Nat → Bool} (h : ∀ n, P n = true → Q n = true) : ∀ L : List Nat, (L.filter P).length ≤ (L.filter Q).length
  | [] => by simp
  | a :: L => by
    have ih := fil_le h L
    rcases hp : P a with _ | _
    · rcases hq : Q a with _ | _
      · rw [List.filter_cons_of_neg (by simp [hp]), List.filter_cons_of_neg (by simp [hq])]; exact ih
      · rw [List.filter_cons_of_neg (by simp [hp]), List.filter_cons_of_pos hq, List.length_cons]; omega
    · rw [List.filter_cons_of_pos hp, List.filter_cons_of_pos (h a hp), List.length_cons, List.length_cons]; omega
theorem fil_lt {P Q : Nat → Bool} (h : ∀ n, P n = true → Q n = true) {k : Nat} (hq : Q k = true) (hp : P k = false) : ∀ L : List Nat, k ∈ L → (L.filter P).length < (L.filter Q).length
  | [], hm => absurd hm (by simp)
  | a :: L, hm => by
    by_cases e : a = k
    · subst e
      have := fil_le h L
      rw [List.filter_cons_of_neg (by simp [hp]), List.filter_cons_of_pos hq, List.length_cons]; omega
    · have hm2 : k ∈ L := by
        rcases List.mem_cons.1 hm with e' | e'
        · exact absurd e'.symm e
        · exact e'
      have ih := fil_lt h hq hp L hm2
      rcases hp2 : P a with _ | _
      · rcases hq2 : Q a with _ | _
        · rw [List.filter_cons_of_neg (by simp [hp2]), List.filter_cons_of_neg (by simp [hq2])]; exact ih
        · rw [List.filter_cons_of_neg (by simp [hp2]), List.filter_cons_of_pos hq2, List.length_cons]; omega
      · rw [List.filter_cons_of_pos hp2, List.filter_cons_of_pos (h a hp2), List.length_cons, List.length_cons]; omega
theorem unJ_mono {J J' : Nat → Bool} (h : ∀ n, J n = true → J' n = true) : unJ J' ≤ unJ J := fil_le (fun n hn => by
  rcases hj : J n with _ | _
  · rfl
  · rw [h n hj] at hn; cases hn) _
theorem unJ_set {J : Nat → Bool} {k : Nat} (hk : k < 64) (h : J k = false) : unJ (fun n => if n = k then true else J n) < unJ J := fil_lt (fun n hn => by
  by_cases e : n = k
  · subst e; simp at hn
  · simpa [e] using hn) (by simp [h]) (by simp) _ (List.mem_range.2 hk)
/- what joining a cell leaves -/
structure JPost (A B C : Int) (G : List M6) (c : Int) (J : Nat → Bool) (I : Nat → Int) (u : V2) (J' : Nat → Bool) (I' : Nat → Int) : Prop where
  sub : ∀ n, J n = true → J' n = true
  me : J' (nb C u) = true
  reach : ∀ n, J' n = true → J n = false → ∃ v, celB A C v = true ∧ nb C v = n ∧ Orb A B C G u v
  clos : ∀ v, celB A C v = true → J' (nb C v) = true → J (nb C v) = false → ∀ g ∈ G, J' (nb C (mv A B C g v)) = true
  idx : ∀ n, I' n = if J' n = true ∧ J n = false then c else I n
structure JMid (A B C : Int) (G : List M6) (c : Int) (J : Nat → Bool) (I : Nat → Int) (u : V2) (k : Nat) (J' : Nat → Bool) (I' : Nat → Int) : Prop where
  sub : ∀ n, J n = true → J' n = true
  me : J' (nb C u) = true
  reach : ∀ n, J' n = true → J n = false → ∃ v, celB A C v = true ∧ nb C v = n ∧ Orb A B C G u v
  clos : ∀ v, celB A C v = true → J' (nb C v) = true → J (nb C v) = false → v ≠ u → ∀ g ∈ G, J' (nb C (mv A B C g v)) = true
  img : ∀ i (h : i < G.length), i < k → J' (nb C (mv A B C G[i] u)) = true
  idx : ∀ n, I' n = if J' n = true ∧ J n = false then c else I n
theorem JPost.same {A B C : Int} {G : List M6} {c : Int} {J : Nat → Bool} {I : Nat → Int} {u : V2} (h : J (nb C u) = true) : JPost A B C G c J I u J I :=
  ⟨fun _ h => h, h, fun n h1 h2 => (by rw [h1] at h2; cases h2), fun v _ h1 h2 => (by rw [h1] at h2; cases h2), fun n => (by
    rw [if_neg]
    rintro ⟨h1, h2⟩
    rw [h1] at h2; cases h2)⟩
theorem JMid.start {f A B C : Int} {G : List M6} (hG : grpB f A B C G = true) {c : Int} {J : Nat → Bool} {I : Nat → Int} {u : V2} (hu : celB A C u = true) (h : J (nb C u) = false) :
    JMid A B C G c J I u 0 (fun n => if n = nb C u then true else J n) (fun n => if n = nb C u then c else I n) := by
  have hl := (grp_good hG).1
  refine ⟨fun n hn => ?_, by simp, fun n h1 h2 => ?_, fun v hv h1 h2 hne => ?_, fun i _ hi => by omega, fun n => ?_⟩
  · show (if n = nb C u then true else J n) = true
    split <;> simp [hn]
  · have h1' : (if n = nb C u then true else J n) = true := h1
    by_cases e : n = nb C u
    · exact ⟨u, hu, e.symm, orb_refl hG hu⟩
    · rw [if_neg e, h2] at h1'; cases h1'
  · have h1' : (if nb C v = nb C u then true else J (nb C v)) = true := h1
    by_cases e : nb C v = nb C u
    · exact absurd (nb_inj hl hv hu e) hne
    · rw [if_neg e, h2] at h1'; cases h1'
  · show (if n = nb C u then c else I n) = _
    by_cases e : n = nb C u
    · subst e
      simp [h]
    · rw [if_neg e, if_neg]
      rintro ⟨h1, h2⟩
      have h1' : (if n = nb C u then true else J n) = true := h1
      rw [if_neg e, h2] at h1'; cases h1'
theorem JMid.next {f A B C : Int} {G : List M6} (hG : grpB f A B C G = true) {c : Int} {J J1 J2 : Nat → Bool} {I I1 I2 : Nat → Int} {u : V2} {k : Nat} (hk : k < G.length) (hm : JMid A B C G c J I u k J1 I1) (hp : JPost A B C G c J1 I1 (mv A B C G[k] u) J2 I2) : JMid A B C G c J I u (k + 1) J2 I2 := by
  refine ⟨fun n h => hp.sub n (hm.sub n h), hp.sub _ hm.me, fun n h1 h2 => ?_, fun v hv h1 h2 hne g hg => ?_, fun i hi hik => ?_, fun n => ?_⟩
  · rcases h3 : J1 n with _ | _
    · obtain ⟨v, hv, e, hr⟩ := hp.reach n h1 h3
      exact ⟨v, hv, e, orb_trans hG ⟨G[k], List.getElem_mem hk, rfl⟩ hr⟩
    · exact hm.reach n h3 h2
  · rcases h3 : J1 (nb C v) with _ | _
    · exact hp.clos v hv h1 h3 g hg
    · exact hp.sub _ (hm.clos v hv h3 h2 hne g hg)
  · by_cases e : i = k
    · subst e; exact hp.me
    · exact hp.sub _ (hm.img i hi (by omega))
  · rw [hp.idx n, hm.idx n]
    rcases h1 : J n with _ | _
    · rcases h2 : J1 n with _ | _
      · rcases h3 : J2 n with _ | _ <;> simp
      · have h3 := hp.sub n h2
        simp [h3]
    · have h2 := hm.sub n h1
      simp [h2]
theorem JMid.fin {A B C : Int} {G : List M6} {c : Int} {J J' : Nat → Bool} {I I' : Nat → Int} {u : V2} (h : JMid A B C G c J I u G.length J' I') : JPost A B C G c J I u J' I' := by
  refine ⟨h.sub, h.me, h.reach, fun v hv h1 h2 g hg => ?_, h.idx⟩
  by_cases e : v = u
  · subst e
    obtain ⟨i, hi, rfl⟩ := List.getElem_of_mem hg
    exact h.img i hi hi
  · exact h.clos v hv h1 h2 e g hg
/- worlds in which of the old blocks at most two have turned -/
structure Two (p q : Nat) (w w' : World) : Prop where
  os : w'.os = w.os
  tape : w'.tape = w.tape
  output : w'.output = w.output
  size : w.heap.size ≤ w'.heap.size
  block : ∀ k, k < w.heap.size → k ≠ p → k ≠ q → w'.heap[k]? = w.heap[k]?
theorem Two.refl (p q : Nat) (w : World) : Two p q w w := ⟨rfl, rfl, rfl, Nat.le_refl _, fun _ _ _ _ => rfl⟩
theorem Two.trans {p q : Nat} {a b c : World} (h : Two p q a b) (k : Two p q b c) : Two p q a c :=
  ⟨k.os.trans h.os, k.tape.trans h.tape, k.output.trans h.output, Nat.le_trans h.size k.size, fun i hi h1 h2 => (k.block i (Nat.lt_of_lt_of_le hi h.size) h1 h2).trans (h.block i hi h1 h2)⟩
theorem Two.of {p q : Nat} {a b : World} (h : Below a.heap.size a b) : Two p q a b := ⟨h.os, h.tape, h.output, h.size, fun k hk _ _ => h.block k hk⟩
theorem Two.below {p q B : Nat} {a b c : World} (h : Two p q b c) (hb : Below B a b) (hs : B ≤ a.heap.size) (hp : B ≤ p) (hq : B ≤ q) : Below B a c :=
  hb.trans ⟨h.os, h.tape, h.output, h.size, fun k hk => h.block k (Nat.lt_of_lt_of_le hk (Nat.le_trans hs hb.size)) (by omega) (by omega)⟩
theorem Two.put {p q : Nat} {a b : World} (h : Two p q a b) {r : Addr} (hr : r.block = p ∨ r.block = q) (u : Value) : Two p q a (b.setCell r u) :=
  h.trans ⟨rfl, rfl, rfl, by simp [World.setCell], fun k _ h1 h2 => Below.heap_setCell _ _ _ _ (by omega)⟩
theorem Two.alloc {p q : Nat} {a b : World} (h : Two p q a b) (z : Obj) : Two p q a (b.alloc z) := h.trans (.of ((Below.refl _ _).alloc (Nat.le_refl _) _))
theorem Two.drew {p q : Nat} {a b : World} (h : Two p q a b) : Two p q a b.drew := h.trans (.of (Below.refl _ _).drew)
theorem Two.call {p q : Nat} {a b c : World} (h : Two p q a b) (hb : Below b.heap.size b c) : Two p q a c := h.trans (.of hb)
theorem Two.cell {p q : Nat} {w w' : World} (h : Two p q w w') {r : Addr} (h0 : r.block < w.heap.size) (h1 : r.block ≠ p) (h2 : r.block ≠ q) : w'.cell? r = w.cell? r := World.cell?_of_block (w := w) (h.block r.block h0 h1 h2)
theorem Two.frozen {p q : Nat} {w w' : World} (h : Two p q w w') {r : Addr} (h0 : r.block < w.heap.size) (h1 : r.block ≠ p) (h2 : r.block ≠ q) : w'.frozen? r = w.frozen? r := World.frozen?_of_block (w := w) (h.block r.block h0 h1 h2)
theorem Kt.two {p q R : Nat} {a b c : Int} {W w1 : World} (h : Kt R a b c W) (hT : Two p q W w1) (h1 : R ≠ p) (h2 : R ≠ q) : Kt R a b c w1 :=
  ⟨Nat.lt_of_lt_of_le h.1 hT.size, (hT.cell (r := ⟨R, 0, none⟩) h.1 h1 h2).trans h.c0, (hT.cell (r := ⟨R, 1, none⟩) h.1 h1 h2).trans h.c1, (hT.cell (r := ⟨R, 2, none⟩) h.1 h1 h2).trans h.c2⟩
theorem Kg.two {p q R : Nat} {a b : Int} {W w1 : World} (h : Kg R a b W) (hT : Two p q W w1) (h1 : R ≠ p) (h2 : R ≠ q) : Kg R a b w1 :=
  ⟨Nat.lt_of_lt_of_le h.1 hT.size, (hT.cell (r := ⟨R, 0, none⟩) h.1 h1 h2).trans h.2.1, (hT.cell (r := ⟨R, 1, none⟩) h.1 h1 h2).trans h.2.2⟩
theorem Km.two {p q R : Nat} {a b c d x y : Int} {W w1 : World} (h : Km R a b c d x y W) (hT : Two p q W w1) (h1 : R ≠ p) (h2 : R ≠ q) : Km R a b c d x y w1 :=
  ⟨Nat.lt_of_lt_of_le h.1 hT.size, (hT.cell (r := ⟨R, 0, none⟩) h.1 h1 h2).trans h.c0, (hT.cell (r := ⟨R, 1, none⟩) h.1 h1 h2).trans h.c1, (hT.cell (r := ⟨R, 2, none⟩) h.1 h1 h2).trans h.c2, (hT.cell (r := ⟨R, 3, none⟩) h.1 h1 h2).trans h.c3, (hT.cell (r := ⟨R, 4, none⟩) h.1 h1 h2).trans h.c4, (hT.cell (r := ⟨R, 5, none⟩) h.1 h1 h2).trans h.c5⟩
/- a block of one cell -/
def K1 (R : Nat) (v : Value) (W : World) : Prop := R < W.heap.size ∧ W.cell? ⟨R, 0, none⟩ = some v
theorem K1.call {R : Nat} {v : Value} {W w1 : World} (h : K1 R v W) (hb : Below W.heap.size W w1) : K1 R v w1 := ⟨Nat.lt_of_lt_of_le h.1 hb.size, (hb.cell (p := ⟨R, 0, none⟩) h.1).trans h.2⟩
theorem K1.alloc {R : Nat} {v : Value} {W : World} (h : K1 R v W) (z : Obj) : K1 R v (W.alloc z) := h.call ((Below.refl _ _).alloc (Nat.le_refl _) _)
theorem K1.drew {R : Nat} {v : Value} {W : World} (h : K1 R v W) : K1 R v W.drew := h.call (Below.refl _ _).drew
theorem K1.two {p q R : Nat} {v : Value} {W w1 : World} (h : K1 R v W) (hT : Two p q W w1) (h1 : R ≠ p) (h2 : R ≠ q) : K1 R v w1 := ⟨Nat.lt_of_lt_of_le h.1 hT.size, (hT.cell (r := ⟨R, 0, none⟩) h.1 h1 h2).trans h.2⟩
theorem K1.c {R : Nat} {v : Value} {W : World} (h : K1 R v W) : W.cell? ⟨R, 0, none⟩ = some v := h.2
theorem K1.far {R : Nat} {v : Value} {W : World} {r : Addr} {u : Value} (hr : r.block ≠ R) (h : K1 R v W) : K1 R v (W.setCell r u) := by
  have hh : (W.setCell r u).heap[R]? = W.heap[R]? := Below.heap_setCell _ _ _ _ (by omega)
  exact ⟨by simpa [World.setCell] using h.1, (World.cell?_of_block (w := W) hh).trans h.2⟩
theorem kg_lt7 {R : Nat} {a b : Int} {W : World} (h : Kg R a b W) : R < W.heap.size := h.1
/- the whole block of the indices -/
def rowI (I : Nat → Int) : Array Value := ((List.range 64).map fun n => Value.int .i64 (I n)).toArray
theorem rowI_size (I : Nat → Int) : (rowI I).size = 64 := by simp [rowI]
theorem rowI_get (I : Nat → Int) (k : Nat) (hk : k < 64) : (rowI I)[k]? = some (.int .i64 (I k)) := by simp [rowI, hk]
theorem rowI_set (I : Nat → Int) (k : Nat) (z : Int) : (rowI I).setIfInBounds k (.int .i64 z) = rowI (fun n => if n = k then z else I n) := by
  apply Array.ext_getElem?
  intro i
  by_cases hi : i < 64
  · rw [rowI_get _ i hi, Array.getElem?_setIfInBounds]
    by_cases e : k = i
    · subst e; simp [rowI_size, hi]
    · rw [if_neg e, rowI_get _ i hi, if_neg (fun h => e h.symm)]
  · rw [Array.getElem?_eq_none (by rw [Array.size_setIfInBounds, rowI_size]; omega), Array.getElem?_eq_none (by rw [rowI_size]; omega)]
def ARI (g : Nat) (I : Nat → Int) (W : World) : Prop := W.heap[g]? = some (.cells (rowI I) 126 (0, 0))
theorem ARI.lt {g : Nat} {I : Nat → Int} {W : World} (h : ARI g I W) : g < W.heap.size := (Array.getElem?_eq_some_iff.1 h).1
theorem ARI.call {g : Nat} {I : Nat → Int} {W w1 : World} (h : ARI g I W) (hb : Below W.heap.size W w1) : ARI g I w1 := (hb.block _ h.lt).trans h
theorem ARI.alloc {g : Nat} {I : Nat → Int} {W : World} (h : ARI g I W) (z : Obj) : ARI g I (W.alloc z) := h.call ((Below.refl _ _).alloc (Nat.le_refl _) _)
theorem ARI.drew {g : Nat} {I : Nat → Int} {W : World} (h : ARI g I W) : ARI g I W.drew := h
theorem ARI.at {g : Nat} {I : Nat → Int} {W : World} (h : ARI g I W) (k : Nat) (hk : k < 64) : W.cell? ⟨g, k, none⟩ = some (.int .i64 (I k)) := by
  unfold ARI at h
  simp [World.cell?, h, rowI_get I k hk]
theorem ARI.free {g : Nat} {I : Nat → Int} {W : World} (h : ARI g I W) (k : Nat) : W.frozen? ⟨g, k, none⟩ = false := by
  unfold ARI at h
  simp [World.frozen?, h]
theorem ARI.put {g : Nat} {I : Nat → Int} {W : World} (h : ARI g I W) (k : Nat) (z : Int) : ARI g (fun n => if n = k then z else I n) (W.setCell ⟨g, k, none⟩ (.int .i64 z)) := by
  unfold ARI
  rw [← rowI_set]
  exact heap_setCell_same W g k _ _ _ h
theorem ARI.far {g : Nat} {I : Nat → Int} {W : World} {r : Addr} {u : Value} (hr : r.block ≠ g) (h : ARI g I W) : ARI g I (W.setCell r u) := (Below.heap_setCell _ _ _ _ (by omega)).trans h
/- a row of marks -/
def BRow (g N : Nat) (F : Nat → Bool) (W : World) : Prop := g < W.heap.size ∧ ∀ t, t < N → W.cell? ⟨g, t, none⟩ = some (.bool (F t)) ∧ W.frozen? ⟨g, t, none⟩ = false
theorem BRow.call {g N : Nat} {F : Nat → Bool} {W w1 : World} (h : BRow g N F W) (hb : Below W.heap.size W w1) : BRow g N F w1 :=
  ⟨Nat.lt_of_lt_of_le h.1 hb.size, fun t ht => ⟨(hb.cell (p := ⟨g, t, none⟩) h.1).trans (h.2 t ht).1, (hb.frozen (p := ⟨g, t, none⟩) h.1).trans (h.2 t ht).2⟩⟩
theorem BRow.alloc {g N : Nat} {F : Nat → Bool} {W : World} (h : BRow g N F W) (z : Obj) : BRow g N F (W.alloc z) := h.call ((Below.refl _ _).alloc (Nat.le_refl _) _)
theorem BRow.drew {g N : Nat} {F : Nat → Bool} {W : World} (h : BRow g N F W) : BRow g N F W.drew := h.call (Below.refl _ _).drew
theorem BRow.at {g N : Nat} {F : Nat → Bool} {W : World} (h : BRow g N F W) (t : Nat) (ht : t < N) : W.cell? ⟨g, t, none⟩ = some (.bool (F t)) := (h.2 t ht).1
theorem BRow.free {g N : Nat} {F : Nat → Bool} {W : World} (h : BRow g N F W) (t : Nat) (ht : t < N) : W.frozen? ⟨g, t, none⟩ = false := (h.2 t ht).2
theorem BRow.put {g N : Nat} {F : Nat → Bool} {W : World} (h : BRow g N F W) (s : Nat) (hs : s < N) (z : Bool) : BRow g N (fun t => if t = s then z else F t) (W.setCell ⟨g, s, none⟩ (.bool z)) := by
  refine ⟨by simpa [World.setCell] using h.1, fun t ht => ?_⟩
  obtain ⟨h1, h2⟩ := h.2 t ht
  obtain ⟨h3, h4⟩ := h.2 s hs
  by_cases e : t = s
  · subst e
    simp [h3, h2, go_sem]
  · refine ⟨?_, ?_⟩
    · simp [h1, e, go_sem]
    · simpa [go_sem] using h2
theorem BRow.far {g N : Nat} {F : Nat → Bool} {W : World} {r : Addr} {u : Value} (hr : r.block ≠ g) (h : BRow g N F W) : BRow g N F (W.setCell r u) := by
  have hh : (W.setCell r u).heap[g]? = W.heap[g]? := Below.heap_setCell _ _ _ _ (by omega)
  exact ⟨by simpa [World.setCell] using h.1, fun t ht => ⟨(World.cell?_of_block (w := W) hh).trans (h.2 t ht).1, (World.frozen?_of_block (w := W) hh).trans (h.2 t ht).2⟩⟩
theorem IRow.alloc {g N : Nat} {F : Nat → Int} {W : World} (h : IRow g N F W) (z : Obj) : IRow g N F (W.alloc z) := h.call ((Below.refl _ _).alloc (Nat.le_refl _) _)
theorem IRow.drew {g N : Nat} {F : Nat → Int} {W : World} (h : IRow g N F W) : IRow g N F W.drew := h.call (Below.refl _ _).drew
theorem IRow.two {p q g N : Nat} {F : Nat → Int} {W w1 : World} (h : IRow g N F W) (hT : Two p q W w1) (h1 : g ≠ p) (h2 : g ≠ q) : IRow g N F w1 :=
  ⟨Nat.lt_of_lt_of_le h.1 hT.size, fun t ht => ⟨(hT.cell (r := ⟨g, t, none⟩) h.1 h1 h2).trans (h.2 t ht).1, (hT.frozen (r := ⟨g, t, none⟩) h.1 h1 h2).trans (h.2 t ht).2⟩⟩
set_option maxRecDepth 100000 in
set_option maxHeartbeats 4000000 in
theorem number_any7 (A B C x y : Int) (w : World) (hl : latI A B C) (hv : celB A C (x, y) = true) :
    Calls Tryz.prog 92 #[.agg #[.int .i64 A, .int .i64 B, .int .i64 C], .agg #[.int .i64 x, .int .i64 y]] w fun e w' => e = .returned (.int .i64 ((nb C (x, y) : Nat) : Int)) ∧ Below w.heap.size w w' := by
  have h1 := nb_lt hl hv
  have h2 := nb_int hl hv
  dsimp only at h1 h2
  have EA := Lib.hid h2
  have L0 : Kt w.heap.size A B C ((w.alloc (.cells #[.int .i64 A, .int .i64 B, .int .i64 C] 33)).alloc (.cells #[.int .i64 x, .int .i64 y] 53)) := Kt.alloc (Kt.at _ rfl) _
  have V0 : Kg (w.heap.size + 1) x y ((w.alloc (.cells #[.int .i64 A, .int .i64 B, .int .i64 C] 33)).alloc (.cells #[.int .i64 x, .int .i64 y] 53)) := Kg.at2 _ (by simp)
  have B0 : Below w.heap.size w ((w.alloc (.cells #[.int .i64 A, .int .i64 B, .int .i64 C] 33)).alloc (.cells #[.int .i64 x, .int .i64 y] 53)) := ((Below.refl _ _).alloc (Nat.le_refl _) _).alloc (by simp) _
  have L0c := L0.cells
  have V0c := V0.cells
  have hc := celB_iff.1 hv
  dsimp only at hc
  have hb := latI_bd hl
  clear hl hv h2
  go_enter Tryz.func92, Tryz.ntmps92
  go_wp2
  all_goals
    go_ret
    exact ⟨ret_int EA.out.symm, by repeat (first | with_reducible assumption | with_reducible exact Below.refl _ _ | with_reducible refine Below.drew ?_ | with_reducible refine below_drewN ?_ _ | with_reducible refine Below.alloc ?_ (by first | omega | (simp <;> omega)) _ | with_reducible refine bstep ?_ (by with_reducible assumption))⟩

def JAns (A B C : Int) (G : List M6) (c : Int) (bi bj : Nat) (J : Nat → Bool) (I : Nat → Int) (u : V2) (W : World) (e : Ending) (W' : World) : Prop :=
  e = .returned (.tuple #[]) ∧ ∃ J' I', JPost A B C G c J I u J' I' ∧ ARI bi I' W' ∧ BRow bj 64 J' W' ∧ Two bi bj W W'
structure JFix (A B C c : Int) (G : List M6) (bl bc bm bf gm cap : Nat) (fv : Value) (W : World) : Prop where
  l : Kt bl A B C W
  c : K1 bc (.int .i64 c) W
  m : K1 bm (.slice (some ⟨gm, 0, none⟩) G.length cap) W
  f : K1 bf fv W
  g : IRow gm (G.length * 6) (fm G) W
theorem JFix.call {A B C c : Int} {G : List M6} {bl bc bm bf gm cap : Nat} {fv : Value} {W w1 : World} (h : JFix A B C c G bl bc bm bf gm cap fv W) (hb : Below W.heap.size W w1) : JFix A B C c G bl bc bm bf gm cap fv w1 := ⟨h.l.call hb, h.c.call hb, h.m.call hb, h.f.call hb, h.g.call hb⟩
theorem JFix.two {A B C c : Int} {G : List M6} {bl bc bm bf gm cap bi bj : Nat} {fv : Value} {W w1 : World} (h : JFix A B C c G bl bc bm bf gm cap fv W) (hT : Two bi bj W w1) (hne : bl ≠ bi ∧ bl ≠ bj ∧ bc ≠ bi ∧ bc ≠ bj ∧ bm ≠ bi ∧ bm ≠ bj ∧ bf ≠ bi ∧ bf ≠ bj ∧ bi ≠ bj ∧ gm ≠ bi ∧ gm ≠ bj) : JFix A B C c G bl bc bm bf gm cap fv w1 := by
  obtain ⟨h1, h2, h3, h4, h5, h6, h7, h8, _, h9, h10⟩ := hne
  exact ⟨h.l.two hT h1 h2, h.c.two hT h3 h4, h.m.two hT h5 h6, h.f.two hT h7 h8, h.g.two hT h9 h10⟩
set_option maxRecDepth 100000 in
set_option maxHeartbeats 8000000 in
theorem join_yes {A B C c x0 y0 : Int} {G : List M6} {bl bc bm bf gm cap bi bj : Nat} {J : Nat → Bool} {I : Nat → Int} {W : World} (hl : latI A B C) (hu : celB A C (x0, y0) = true) (hx : JFix A B C c G bl bc bm bf gm cap (.func (.func 133) #[] #[.pointer (some ⟨bl, 0, none⟩), .pointer (some ⟨bj, 0, none⟩), .pointer (some ⟨bc, 0, none⟩), .pointer (some ⟨bi, 0, none⟩), .pointer (some ⟨bm, 0, none⟩), .pointer (some ⟨bf, 0, none⟩)]) W) (hI : ARI bi I W) (hJ : BRow bj 64 J W) (hy : J (nb C (x0, y0)) = true) :
    Calls Tryz.prog 133 #[.agg #[.int .i64 x0, .int .i64 y0], .pointer (some ⟨bl, 0, none⟩), .pointer (some ⟨bj, 0, none⟩), .pointer (some ⟨bc, 0, none⟩), .pointer (some ⟨bi, 0, none⟩), .pointer (some ⟨bm, 0, none⟩), .pointer (some ⟨bf, 0, none⟩)] W (JAns A B C G c bi bj J I (x0, y0) W) := by
  have HY := Lib.hid hy
  have HP : Hid (JPost A B C G c J I (x0, y0) J I) := Lib.hid (JPost.same hy)
  have HI := Lib.hid hI
  have HJ := Lib.hid hJ
  have hk := nb_64 hl hu
  have CN := Lib.hid (fun W => number_any7 A B C x0 y0 W hl hu)
  have L1 := hx.l.alloc (.cells #[.int .i64 x0, .int .i64 y0] 53)
  have U1 : Kg W.heap.size x0 y0 (W.alloc (.cells #[.int .i64 x0, .int .i64 y0] 53)) := Kg.at2 _ rfl
  have B1 : Below W.heap.size W (W.alloc (.cells #[.int .i64 x0, .int .i64 y0] 53)) := (Below.refl _ _).alloc (Nat.le_refl _) _
  have L1c := L1.cells
  have U1c := U1.cells
  clear hl hu hx hI hJ hy
  generalize nb C (x0, y0) = k at HY CN hk
  have hk2 : (k : Int) < 64 := by omega
  have HK := Lib.hid hk
  go_enter Tryz.func133, Tryz.ntmps133
  go_wp2_with fail
  refine (CN.out _).mono ?_
  rintro e w2 ⟨rfl, hb2⟩
  have B2 := bstep B1 hb2
  have jc := (HJ.out.call B2).at k HK.out
  rw [HY.out] at jc
  clear hb2 B1 L1 U1 L1c U1c
  go_wp2
  go_end0
  exact ⟨rfl, J, I, HP.out, HI.out.call B2, HJ.out.call B2, .of B2⟩

def JCut (A B C c x0 y0 : Int) (G : List M6) (bl bc bm bf gm cap bi bj k ub : Nat) (fv : Value) (J : Nat → Bool) (I : Nat → Int) (W : World) (s8 : Value) (wx : World) : Prop :=
  s8 = .int .i64 (k : Int) ∧ ARI bi (fun n => if n = k then c else I n) wx ∧ BRow bj 64 (fun n => if n = k then true else J n) wx ∧ Two bi bj W wx ∧ Kg ub x0 y0 wx
set_option maxRecDepth 100000 in
set_option maxHeartbeats 16000000 in
theorem join_any {f A B C c : Int} {G : List M6} {bl bc bm bf gm cap bi bj : Nat} (hG : grpB f A B C G = true) (hne : bl ≠ bi ∧ bl ≠ bj ∧ bc ≠ bi ∧ bc ≠ bj ∧ bm ≠ bi ∧ bm ≠ bj ∧ bf ≠ bi ∧ bf ≠ bj ∧ bi ≠ bj ∧ gm ≠ bi ∧ gm ≠ bj) : ∀ (m : Nat) (J : Nat → Bool) (I : Nat → Int) (x0 y0 : Int) (W : World), unJ J ≤ m → celB A C (x0, y0) = true → JFix A B C c G bl bc bm bf gm cap (.func (.func 133) #[] #[.pointer (some ⟨bl, 0, none⟩), .pointer (some ⟨bj, 0, none⟩), .pointer (some ⟨bc, 0, none⟩), .pointer (some ⟨bi, 0, none⟩), .pointer (some ⟨bm, 0, none⟩), .pointer (some ⟨bf, 0, none⟩)]) W → ARI bi I W → BRow bj 64 J W →
    Calls Tryz.prog 133 #[.agg #[.int .i64 x0, .int .i64 y0], .pointer (some ⟨bl, 0, none⟩), .pointer (some ⟨bj, 0, none⟩), .pointer (some ⟨bc, 0, none⟩), .pointer (some ⟨bi, 0, none⟩), .pointer (some ⟨bm, 0, none⟩), .pointer (some ⟨bf, 0, none⟩)] W (JAns A B C G c bi bj J I (x0, y0) W) := by
  intro m
  induction m with
  | zero =>
    intro J I x0 y0 W hm hu hx hI hJ
    have hl := (grp_good hG).1
    rcases hy : J (nb C (x0, y0)) with _ | _
    · have := unJ_set (nb_64 hl hu) hy
      omega
    · exact join_yes hl hu hx hI hJ hy
  | succ m ih =>
    intro J I x0 y0 W hm hu hx hI hJ
    have hl := (grp_good hG).1
    rcases hy : J (nb C (x0, y0)) with _ | _
    case true => exact join_yes hl hu hx hI hJ hy
    have hun := unJ_set (nb_64 hl hu) hy
    have HGR := Lib.hid hG
    have HNE := Lib.hid hne
    have HL := Lib.hid hl
    have HU := Lib.hid hu
    have HX := Lib.hid hx
    have HS := Lib.hid (JMid.start (B := B) hG (c := c) (I := I) hu hy)
    have H768 := Lib.hid (grp_len hG)
    have h7 : (G.length : Int) ≤ 768 := by have := grp_len hG; omega
    have IH : Hid (∀ (J' : Nat → Bool) (I' : Nat → Int) (x1 y1 : Int) (W' : World), (∀ n, J n = true → J' n = true) → J' (nb C (x0, y0)) = true → celB A C (x1, y1) = true → JFix A B C c G bl bc bm bf gm cap (.func (.func 133) #[] #[.pointer (some ⟨bl, 0, none⟩), .pointer (some ⟨bj, 0, none⟩), .pointer (some ⟨bc, 0, none⟩), .pointer (some ⟨bi, 0, none⟩), .pointer (some ⟨bm, 0, none⟩), .pointer (some ⟨bf, 0, none⟩)]) W' → ARI bi I' W' → BRow bj 64 J' W' → Calls Tryz.prog 133 #[.agg #[.int .i64 x1, .int .i64 y1], .pointer (some ⟨bl, 0, none⟩), .pointer (some ⟨bj, 0, none⟩), .pointer (some ⟨bc, 0, none⟩), .pointer (some ⟨bi, 0, none⟩), .pointer (some ⟨bm, 0, none⟩), .pointer (some ⟨bf, 0, none⟩)] W' (JAns A B C G c bi bj J' I' (x1, y1) W')) := Lib.hid (fun J' I' x1 y1 W' h1 h2 h3 h4 h5 h6 => ih J' I' x1 y1 W' (by
      have := unJ_mono (J := fun n => if n = nb C (x0, y0) then true else J n) (J' := J') (fun n hn => by
        by_cases e : n = nb C (x0, y0)
        · rw [e]; exact h2
        · rw [if_neg e] at hn; exact h1 n hn)
      omega) h3 h4 h5 h6)
    have hk := nb_64 hl hu
    have CN := Lib.hid (fun W => number_any7 A B C x0 y0 W hl hu)
    have L1 := hx.l.alloc (.cells #[.int .i64 x0, .int .i64 y0] 53)
    have U1 : Kg W.heap.size x0 y0 (W.alloc (.cells #[.int .i64 x0, .int .i64 y0] 53)) := Kg.at2 _ rfl
    have B1 : Below W.heap.size W (W.alloc (.cells #[.int .i64 x0, .int .i64 y0] 53)) := (Below.refl _ _).alloc (Nat.le_refl _) _
    have hbi := hI.lt
    have hbj := hJ.1
    have HI := Lib.hid hI
    have HJ := Lib.hid hJ
    have L1c := L1.cells
    have U1c := U1.cells
    obtain ⟨_, _, e3, e4, _, _, _, _, e9, _, _⟩ := id hne
    clear hG hne ih hm hu hx hI hJ hl hun
    have HKN : Hid (∀ J' : Nat → Bool, J' (nb C (x0, y0)) = J' (nb C (x0, y0))) := Lib.hid (fun _ => rfl)
    generalize hkk : nb C (x0, y0) = k at *
    have hk2 : (k : Int) < 64 := by omega
    have HK := Lib.hid hk
    have HKK := Lib.hid hkk
    have HY := Lib.hid hy
    clear hkk hy HKN
    go_enter Tryz.func133, Tryz.ntmps133
    go_wp2_with fail
    refine (CN.out _).mono ?_
    rintro e w2 ⟨rfl, hb2⟩
    have B2 := bstep B1 hb2
    have U2 := U1.call hb2
    have T2 : Two bi bj W w2 := .of B2
    have I2 := HI.out.call B2
    have J2 := HJ.out.call B2
    have C2 := HX.out.c.call B2
    have z2 := B2.size
    have jc := J2.at k HK.out
    rw [HY.out] at jc
    have jf := J2.free k HK.out
    have ic := I2.at k HK.out
    have iff := I2.free k
    have C2c := C2.c
    clear hb2 B1 L1 U1 L1c U1c CN
    go_upto_region 1 with fail
    go_cut [8] (fun s8 wx => JCut A B C c x0 y0 G bl bc bm bf gm cap bi bj k W.heap.size (.func (.func 133) #[] #[.pointer (some ⟨bl, 0, none⟩), .pointer (some ⟨bj, 0, none⟩), .pointer (some ⟨bc, 0, none⟩), .pointer (some ⟨bi, 0, none⟩), .pointer (some ⟨bm, 0, none⟩), .pointer (some ⟨bf, 0, none⟩)]) J I W s8 wx)
    case first =>
      go_region_held3 (fun W => W.cell? ⟨bc, 0, none⟩ = some (.int .i64 c)) ((refine K1.c ?_) <;> repeat (first | with_reducible assumption | with_reducible refine K1.drew ?_ | with_reducible refine K1.alloc ?_ _ | with_reducible refine K1.call ?_ (by with_reducible assumption) | ((with_reducible refine K1.far ?_ ?_); (first | omega | (dsimp only; omega))))) (fail)
      all_goals
        go_wp2_with fail
        go_meet
        exact ⟨rfl, by repeat (first | with_reducible assumption | with_reducible refine ARI.drew ?_ | ((with_reducible refine ARI.far ?_ ?_); (first | omega | (dsimp only; omega))) | (with_reducible refine ARI.put ?_ _ _)), by repeat (first | with_reducible assumption | with_reducible refine BRow.drew ?_ | ((with_reducible refine BRow.far ?_ ?_); (first | omega | (dsimp only; omega))) | (with_reducible refine BRow.put ?_ _ (by omega) _)), by repeat (first | with_reducible assumption | with_reducible refine Two.drew ?_ | with_reducible refine Two.put ?_ (by first | exact Or.inl rfl | exact Or.inr rfl) _ | with_reducible refine Two.call ?_ (by with_reducible assumption)), by repeat (first | with_reducible assumption | with_reducible refine Kg.drew ?_ | ((with_reducible refine Kg.far ?_ ?_); (first | omega | (dsimp only; omega))))⟩
    case rest =>
      obtain ⟨rfl, I3, J3, T3, U3⟩ := hcut
      obtain ⟨w3, hw3⟩ : ∃ z, z = wc := ⟨_, rfl⟩
      subst hw3
      have X3 := HX.out.two T3 HNE.out
      have X3m := X3.m
      have m3c := X3m.c
      have U3l := kg_lt7 U3
      clear T2 I2 J2 C2 jc jf ic iff C2c B2 U2 X3m
      go_wp2_with fail
      go_loopw [24] (fun s24 W' => ∃ (i : Nat) (J' : Nat → Bool) (I' : Nat → Int), s24 = .int .i64 (i : Int) ∧ i ≤ G.length ∧ JMid A B C G c J I (x0, y0) i J' I' ∧ ARI bi I' W' ∧ BRow bj 64 J' W' ∧ JFix A B C c G bl bc bm bf gm cap (.func (.func 133) #[] #[.pointer (some ⟨bl, 0, none⟩), .pointer (some ⟨bj, 0, none⟩), .pointer (some ⟨bc, 0, none⟩), .pointer (some ⟨bi, 0, none⟩), .pointer (some ⟨bm, 0, none⟩), .pointer (some ⟨bf, 0, none⟩)]) W' ∧ Kg W.heap.size x0 y0 W' ∧ Two bi bj W W') (fun s24 _ => G.length - (intOf s24).toNat)
      case atStart => exact ⟨0, _, _, rfl, by omega, HS.out, I3, J3, X3, U3, T3⟩
      case round =>
        clear I3 J3 X3 U3 T3 m3c
        obtain ⟨i, J', I', rfl, hi, hM, hI, hJ, hX, hU, hT⟩ := hrel
        by_cases hi1 : i < G.length
        · have hi2 : (i : Int) < (G.length : Int) := by omega
          have hi3 : (i : Int) ≤ 768 := by omega
          have q1 := hX.g.mo i hi1
          have hmem := (grp_ok HGR.out).2.1 G[i] (List.getElem_mem hi1)
          have HNX : Hid (∀ J2 I2, JPost A B C G c J' I' (mv A B C G[i] (x0, y0)) J2 I2 → JMid A B C G c J I (x0, y0) (i + 1) J2 I2) := Lib.hid (fun J2 I2 h => JMid.next HGR.out hi1 hM h)
          have HJM := Lib.hid (And.intro hM.sub hM.me)
          have HCL := Lib.hid (mv_cel (B := B) HL.out G[i] (x0, y0))
          have HIK := Lib.hid hi1
          clear hi hM
          generalize G[i] = mm at q1 hmem HNX HCL
          clear hi1
          obtain ⟨a, b, cc, d, x, y⟩ := mm
          dsimp only at q1
          obtain ⟨hl, hli, hv, hp, hxx, hyy⟩ := mv_mid hmem.1 hmem.2 HU.out
          have CT : Hid (∀ W, Calls Tryz.prog 134 #[.agg #[.int .i64 A, .int .i64 B, .int .i64 C], .agg #[.int .i64 a, .int .i64 b, .int .i64 cc, .int .i64 d, .int .i64 x, .int .i64 y], .agg #[.int .i64 x0, .int .i64 y0]] W fun e w' => e = .returned (.agg #[.int .i64 (redX A B C (a * x0 + b * y0 + x) (cc * x0 + d * y0 + y)), .int .i64 (redY C (cc * x0 + d * y0 + y))]) ∧ Below W.heap.size W w') := Lib.hid (fun W => taken_any A B C a b cc d x y x0 y0 W hl hli hv hp hxx hyy)
          have HMV : Hid (mv A B C (a, b, cc, d, x, y) (x0, y0) = (redX A B C (a * x0 + b * y0 + x) (cc * x0 + d * y0 + y), redY C (cc * x0 + d * y0 + y))) := Lib.hid rfl
          clear hl hli hv hp hxx hyy hmem
          generalize redX A B C (a * x0 + b * y0 + x) (cc * x0 + d * y0 + y) = rx at CT HMV
          generalize redY C (cc * x0 + d * y0 + y) = ry at CT HMV
          rw [HMV.out] at HNX HCL
          clear HMV
          have CJ : Hid (∀ W', JFix A B C c G bl bc bm bf gm cap (.func (.func 133) #[] #[.pointer (some ⟨bl, 0, none⟩), .pointer (some ⟨bj, 0, none⟩), .pointer (some ⟨bc, 0, none⟩), .pointer (some ⟨bi, 0, none⟩), .pointer (some ⟨bm, 0, none⟩), .pointer (some ⟨bf, 0, none⟩)]) W' → ARI bi I' W' → BRow bj 64 J' W' → Calls Tryz.prog 133 #[.agg #[.int .i64 rx, .int .i64 ry], .pointer (some ⟨bl, 0, none⟩), .pointer (some ⟨bj, 0, none⟩), .pointer (some ⟨bc, 0, none⟩), .pointer (some ⟨bi, 0, none⟩), .pointer (some ⟨bm, 0, none⟩), .pointer (some ⟨bf, 0, none⟩)] W' (JAns A B C G c bi bj J' I' (rx, ry) W')) := Lib.hid (fun W' h4 h5 h6 => IH.out J' I' rx ry W' HJM.out.1 (by have := HJM.out.2; rw [HKK.out] at this; exact this) HCL.out h4 h5 h6)
          have hgl := ko_lt q1
          have hTs := hT.size
          have hbi2 := hI.lt
          have hbj2 := hJ.1
          have M3 : Km wr.heap.size a b cc d x y (wr.alloc (.cells #[.int .i64 a, .int .i64 b, .int .i64 cc, .int .i64 d, .int .i64 x, .int .i64 y] 82)) := Km.at _ rfl
          have B3 : Below wr.heap.size wr (wr.alloc (.cells #[.int .i64 a, .int .i64 b, .int .i64 cc, .int .i64 d, .int .i64 x, .int .i64 y] 82)) := (Below.refl _ _).alloc (Nat.le_refl _) _
          have X3 := hX.call B3
          have I3 := hI.call B3
          have J3 := hJ.call B3
          have U3 := hU.call B3
          have T3 := hT.call B3
          have L3 := X3.l
          have F3 := X3.f
          have m3c := hX.m.c
          have q1c := q1.cells
          have L3c := L3.cells
          have U3c := U3.cells
          have M3c := M3.cells
          have F3c := F3.c
          go_wp2_with fail
          go_region_held3 (fun V => (V.cell? ⟨bl, 0, none⟩ = some (.int .i64 A) ∧ V.cell? ⟨bl, 1, none⟩ = some (.int .i64 B) ∧ V.cell? ⟨bl, 2, none⟩ = some (.int .i64 C)) ∧ (V.cell? ⟨W.heap.size, 0, none⟩ = some (.int .i64 x0) ∧ V.cell? ⟨W.heap.size, 1, none⟩ = some (.int .i64 y0)) ∧ (V.cell? ⟨wr.heap.size, 0, none⟩ = some (.int .i64 a) ∧ V.cell? ⟨wr.heap.size, 1, none⟩ = some (.int .i64 b) ∧ V.cell? ⟨wr.heap.size, 2, none⟩ = some (.int .i64 cc) ∧ V.cell? ⟨wr.heap.size, 3, none⟩ = some (.int .i64 d) ∧ V.cell? ⟨wr.heap.size, 4, none⟩ = some (.int .i64 x) ∧ V.cell? ⟨wr.heap.size, 5, none⟩ = some (.int .i64 y)) ∧ V.cell? ⟨bf, 0, none⟩ = some (.func (.func 133) #[] #[.pointer (some ⟨bl, 0, none⟩), .pointer (some ⟨bj, 0, none⟩), .pointer (some ⟨bc, 0, none⟩), .pointer (some ⟨bi, 0, none⟩), .pointer (some ⟨bm, 0, none⟩), .pointer (some ⟨bf, 0, none⟩)])) ((refine ⟨Kt.cells ?_, Kg.cells ?_, Km.cells ?_, K1.c ?_⟩) <;> repeat (first | with_reducible assumption | with_reducible refine Kt.drew ?_ | with_reducible refine Kt.alloc ?_ _ | with_reducible refine Kt.call ?_ (by with_reducible assumption) | with_reducible refine Kg.drew ?_ | with_reducible refine Kg.alloc ?_ _ | with_reducible refine Kg.call ?_ (by with_reducible assumption) | with_reducible refine Km.drew ?_ | with_reducible refine Km.alloc ?_ _ | with_reducible refine Km.call ?_ (by with_reducible assumption) | with_reducible refine K1.drew ?_ | with_reducible refine K1.alloc ?_ _ | with_reducible refine K1.call ?_ (by with_reducible assumption)))
            (first
              | (go_at_call 134; with_reducible refine (CT.out _).mono ?_; rintro e u5 ⟨rfl, hb5⟩; have L5 : Kt bl A B C u5 := (by repeat (first | with_reducible assumption | with_reducible refine Kt.drew ?_ | with_reducible refine Kt.alloc ?_ _ | with_reducible refine Kt.call ?_ (by with_reducible assumption) | with_reducible refine Kg.drew ?_ | with_reducible refine Kg.alloc ?_ _ | with_reducible refine Kg.call ?_ (by with_reducible assumption) | with_reducible refine Km.drew ?_ | with_reducible refine Km.alloc ?_ _ | with_reducible refine Km.call ?_ (by with_reducible assumption) | with_reducible refine K1.drew ?_ | with_reducible refine K1.alloc ?_ _ | with_reducible refine K1.call ?_ (by with_reducible assumption))); have U5 : Kg W.heap.size x0 y0 u5 := (by repeat (first | with_reducible assumption | with_reducible refine Kt.drew ?_ | with_reducible refine Kt.alloc ?_ _ | with_reducible refine Kt.call ?_ (by with_reducible assumption) | with_reducible refine Kg.drew ?_ | with_reducible refine Kg.alloc ?_ _ | with_reducible refine Kg.call ?_ (by with_reducible assumption) | with_reducible refine Km.drew ?_ | with_reducible refine Km.alloc ?_ _ | with_reducible refine Km.call ?_ (by with_reducible assumption) | with_reducible refine K1.drew ?_ | with_reducible refine K1.alloc ?_ _ | with_reducible refine K1.call ?_ (by with_reducible assumption))); have M5 : Km wr.heap.size a b cc d x y u5 := (by repeat (first | with_reducible assumption | with_reducible refine Kt.drew ?_ | with_reducible refine Kt.alloc ?_ _ | with_reducible refine Kt.call ?_ (by with_reducible assumption) | with_reducible refine Kg.drew ?_ | with_reducible refine Kg.alloc ?_ _ | with_reducible refine Kg.call ?_ (by with_reducible assumption) | with_reducible refine Km.drew ?_ | with_reducible refine Km.alloc ?_ _ | with_reducible refine Km.call ?_ (by with_reducible assumption) | with_reducible refine K1.drew ?_ | with_reducible refine K1.alloc ?_ _ | with_reducible refine K1.call ?_ (by with_reducible assumption))); have F5 : K1 bf (.func (.func 133) #[] #[.pointer (some ⟨bl, 0, none⟩), .pointer (some ⟨bj, 0, none⟩), .pointer (some ⟨bc, 0, none⟩), .pointer (some ⟨bi, 0, none⟩), .pointer (some ⟨bm, 0, none⟩), .pointer (some ⟨bf, 0, none⟩)]) u5 := (by repeat (first | with_reducible assumption | with_reducible refine Kt.drew ?_ | with_reducible refine Kt.alloc ?_ _ | with_reducible refine Kt.call ?_ (by with_reducible assumption) | with_reducible refine Kg.drew ?_ | with_reducible refine Kg.alloc ?_ _ | with_reducible refine Kg.call ?_ (by with_reducible assumption) | with_reducible refine Km.drew ?_ | with_reducible refine Km.alloc ?_ _ | with_reducible refine Km.call ?_ (by with_reducible assumption) | with_reducible refine K1.drew ?_ | with_reducible refine K1.alloc ?_ _ | with_reducible refine K1.call ?_ (by with_reducible assumption))); have B5 : Below wr.heap.size wr u5 := (by repeat (first | with_reducible assumption | with_reducible exact Below.refl _ _ | with_reducible refine Below.drew ?_ | with_reducible refine below_drewN ?_ _ | with_reducible refine Below.alloc ?_ (by first | omega | (simp <;> omega)) _ | with_reducible refine bstep ?_ (by with_reducible assumption))))
              | (go_at_call 133; with_reducible refine (CJ.out _ (JFix.call hX (by repeat (first | with_reducible assumption | with_reducible exact Below.refl _ _ | with_reducible refine Below.drew ?_ | with_reducible refine below_drewN ?_ _ | with_reducible refine Below.alloc ?_ (by first | omega | (simp <;> omega)) _ | with_reducible refine bstep ?_ (by with_reducible assumption)))) (ARI.call hI (by repeat (first | with_reducible assumption | with_reducible exact Below.refl _ _ | with_reducible refine Below.drew ?_ | with_reducible refine below_drewN ?_ _ | with_reducible refine Below.alloc ?_ (by first | omega | (simp <;> omega)) _ | with_reducible refine bstep ?_ (by with_reducible assumption)))) (BRow.call hJ (by repeat (first | with_reducible assumption | with_reducible exact Below.refl _ _ | with_reducible refine Below.drew ?_ | with_reducible refine below_drewN ?_ _ | with_reducible refine Below.alloc ?_ (by first | omega | (simp <;> omega)) _ | with_reducible refine bstep ?_ (by with_reducible assumption))))).mono ?_; rintro e u6 hh; unfold JAns at hh; obtain ⟨rfl, J2, I2, hp2, hI2, hJ2, hT2⟩ := hh; have L6 : Kt bl A B C u6 := Kt.two (by repeat (first | with_reducible assumption | with_reducible refine Kt.drew ?_ | with_reducible refine Kt.alloc ?_ _ | with_reducible refine Kt.call ?_ (by with_reducible assumption) | with_reducible refine Kg.drew ?_ | with_reducible refine Kg.alloc ?_ _ | with_reducible refine Kg.call ?_ (by with_reducible assumption) | with_reducible refine Km.drew ?_ | with_reducible refine Km.alloc ?_ _ | with_reducible refine Km.call ?_ (by with_reducible assumption) | with_reducible refine K1.drew ?_ | with_reducible refine K1.alloc ?_ _ | with_reducible refine K1.call ?_ (by with_reducible assumption))) hT2 HNE.out.1 HNE.out.2.1; have U6 : Kg W.heap.size x0 y0 u6 := Kg.two (by repeat (first | with_reducible assumption | with_reducible refine Kt.drew ?_ | with_reducible refine Kt.alloc ?_ _ | with_reducible refine Kt.call ?_ (by with_reducible assumption) | with_reducible refine Kg.drew ?_ | with_reducible refine Kg.alloc ?_ _ | with_reducible refine Kg.call ?_ (by with_reducible assumption) | with_reducible refine Km.drew ?_ | with_reducible refine Km.alloc ?_ _ | with_reducible refine Km.call ?_ (by with_reducible assumption) | with_reducible refine K1.drew ?_ | with_reducible refine K1.alloc ?_ _ | with_reducible refine K1.call ?_ (by with_reducible assumption))) hT2 (by omega) (by omega); have M6' : Km wr.heap.size a b cc d x y u6 := Km.two (by repeat (first | with_reducible assumption | with_reducible refine Kt.drew ?_ | with_reducible refine Kt.alloc ?_ _ | with_reducible refine Kt.call ?_ (by with_reducible assumption) | with_reducible refine Kg.drew ?_ | with_reducible refine Kg.alloc ?_ _ | with_reducible refine Kg.call ?_ (by with_reducible assumption) | with_reducible refine Km.drew ?_ | with_reducible refine Km.alloc ?_ _ | with_reducible refine Km.call ?_ (by with_reducible assumption) | with_reducible refine K1.drew ?_ | with_reducible refine K1.alloc ?_ _ | with_reducible refine K1.call ?_ (by with_reducible assumption))) hT2 (by omega) (by omega); have F6 : K1 bf (.func (.func 133) #[] #[.pointer (some ⟨bl, 0, none⟩), .pointer (some ⟨bj, 0, none⟩), .pointer (some ⟨bc, 0, none⟩), .pointer (some ⟨bi, 0, none⟩), .pointer (some ⟨bm, 0, none⟩), .pointer (some ⟨bf, 0, none⟩)]) u6 := K1.two (by repeat (first | with_reducible assumption | with_reducible refine Kt.drew ?_ | with_reducible refine Kt.alloc ?_ _ | with_reducible refine Kt.call ?_ (by with_reducible assumption) | with_reducible refine Kg.drew ?_ | with_reducible refine Kg.alloc ?_ _ | with_reducible refine Kg.call ?_ (by with_reducible assumption) | with_reducible refine Km.drew ?_ | with_reducible refine Km.alloc ?_ _ | with_reducible refine Km.call ?_ (by with_reducible assumption) | with_reducible refine K1.drew ?_ | with_reducible refine K1.alloc ?_ _ | with_reducible refine K1.call ?_ (by with_reducible assumption))) hT2 HNE.out.2.2.2.2.2.2.1 HNE.out.2.2.2.2.2.2.2.1; have T6 : Two bi bj W u6 := (Two.call hT (show Below wr.heap.size wr _ from by repeat (first | with_reducible assumption | with_reducible exact Below.refl _ _ | with_reducible refine Below.drew ?_ | with_reducible refine below_drewN ?_ _ | with_reducible refine Below.alloc ?_ (by first | omega | (simp <;> omega)) _ | with_reducible refine bstep ?_ (by with_reducible assumption)))).trans hT2; have X6 : JFix A B C c G bl bc bm bf gm cap (.func (.func 133) #[] #[.pointer (some ⟨bl, 0, none⟩), .pointer (some ⟨bj, 0, none⟩), .pointer (some ⟨bc, 0, none⟩), .pointer (some ⟨bi, 0, none⟩), .pointer (some ⟨bm, 0, none⟩), .pointer (some ⟨bf, 0, none⟩)]) u6 := JFix.two (JFix.call hX (by repeat (first | with_reducible assumption | with_reducible exact Below.refl _ _ | with_reducible refine Below.drew ?_ | with_reducible refine below_drewN ?_ _ | with_reducible refine Below.alloc ?_ (by first | omega | (simp <;> omega)) _ | with_reducible refine bstep ?_ (by with_reducible assumption)))) hT2 HNE.out))
          all_goals
            clear hX hI hJ hU hT M3 B3 X3 I3 J3 U3 T3 L3 F3 m3c q1 q1c L3c U3c M3c F3c L5 U5 M5 F5 B5 L6 M6' F6 hb5
            have HN2 := Lib.hid (HNX.out J2 I2 hp2)
            go_wp2
            go_roundw
            case rel => exact ⟨i + 1, J2, I2, by go_num, by have := HIK.out; omega, HN2.out, hI2, hJ2, X6, U6, T6⟩
            case measure => (have := HIK.out); first | (simp [intOf]; done) | (simp [intOf]; omega)
        · obtain rfl : i = G.length := by omega
          go_wp2
          go_end0
          exact ⟨rfl, J', I', hM.fin, hI, hJ, hT⟩

end Go.Proofs.YtkfdaepnjdnnmaaGreatDoor
