/-
 Several of my texts in one: OrJ, OrI, In7, Ob7, Os7.
-/
import Derived.Test.YtdgophfembpniaaGreatDoorSb8
import Derived.Test.YtdgophfembpniaaGreatDoorCeS
import Derived.Deep.RegionHeld3
import Derived.IntWalk
import Derived.RangeFuncNested
import Derived.RangeFuncBound
import Derived.RangeFuncCalls
import Derived.RangeFuncLeaves
import Derived.RangeFuncBox
import Derived.Shelf.Abstract
import Derived.Shelf.RegionOpen
import Derived.WalkKit
import Derived.OwnWalkIn
import Derived.TacticsInMore
import Derived.LoopNIn
import Derived.LoopIn
import Derived.Laws.EntriesVeiled
import Derived.Laws.Rows
import Derived.Laws.ResultCell
import Derived.Laws.Tables
namespace Go.Proofs.YtdgophfembpniaaGreatDoor
section
open Go.RowKit
set_option linter.unusedSimpArgs false
set_option linter.unusedVariables false

/- a cell's number, and how many cells are not joined yet -/
def nb (q : Int) (v : V2) : Nat := (v.1 * q + v.2).toNat
theorem nb_lt {A B C : Int} (hl : latI A B C) {v : V2} (hv : celB A C v = true) : 0 ≤ v.1 * C + v.2 ∧ v.1 * C + v.2 < A * C ∧ A * C ≤ 64 := by
 obtain ⟨⟨h1, h2⟩, h3, h4⟩ := celB_iff.1 hv
 have h5 := latI_prod hl
 have e1 : v.1 * C ≤ (A - 1) * C := Int.mul_le_mul_of_nonneg_right (by omega) (by omega)
 have e2 : (A - 1) * C = A * C - C := by rw [Int.sub_mul, Int.one_mul]
 have e3 : 0 ≤ v.1 * C := Int.mul_nonneg h1 (by omega)
 omega
theorem nb_int {A B C : Int} (hl : latI A B C) {v : V2} (hv : celB A C v = true) : ((nb C v : Nat) : Int) = v.1 * C + v.2 := by
 have h := nb_lt hl hv
 unfold nb
 omega
theorem nb_64 {A B C : Int} (hl : latI A B C) {v : V2} (hv : celB A C v = true) : nb C v < 64 := by
 have h := nb_lt hl hv
 have h2 := nb_int hl hv
 omega
theorem nb_inj {A B C : Int} (hl : latI A B C) {u v : V2} (hu : celB A C u = true) (hv : celB A C v = true) (h : nb C u = nb C v) : u = v := by
 have e1 := nb_int hl hu
 have e2 := nb_int hl hv
 rw [h] at e1
 obtain ⟨⟨a1, a2⟩, a3, a4⟩ := celB_iff.1 hu
 obtain ⟨⟨b1, b2⟩, b3, b4⟩ := celB_iff.1 hv
 obtain ⟨x, y⟩ := u
 obtain ⟨x', y'⟩ := v
 simp only at *
 have hx : x = x' := by
  rcases Int.lt_trichotomy x x' with h | h | h
  ·have e : (x + 1) * C ≤ x' * C := Int.mul_le_mul_of_nonneg_right (by omega) (by omega)
   rw [Int.add_mul, Int.one_mul] at e
   omega
  ·exact h
  ·have e : (x' + 1) * C ≤ x * C := Int.mul_le_mul_of_nonneg_right (by omega) (by omega)
   rw [Int.add_mul, Int.one_mul] at e
   omega
 subst hx
 rw [show y = y' by omega]
def unJ (J : Nat → Bool) : Nat := ((List.range 64).filter fun n => !J n).length
theorem fil_le {P Q : Nat → Bool} (h : ∀ n, P n = true → Q n = true) : ∀ L : List Nat, (L.filter P).length ≤ (L.filter Q).length
 | [] => by simp
 | a :: L => by
  have ih := fil_le h L
  rcases hp : P a with _ | _
  ·rcases hq : Q a with _ | _
   ·rw [List.filter_cons_of_neg (by simp [hp]), List.filter_cons_of_neg (by simp [hq])]; exact ih
   ·rw [List.filter_cons_of_neg (by simp [hp]), List.filter_cons_of_pos hq, List.length_cons]; omega
  ·rw [List.filter_cons_of_pos hp, List.filter_cons_of_pos (h a hp), List.length_cons, List.length_cons]; omega
theorem fil_lt {P Q : Nat → Bool} (h : ∀ n, P n = true → Q n = true) {k : Nat} (hq : Q k = true) (hp : P k = false) : ∀ L : List Nat, k ∈ L → (L.filter P).length < (L.filter Q).length
 | [], hm => absurd hm (by simp)
 | a :: L, hm => by
  by_cases e : a = k
  ·subst e
   have := fil_le h L
   rw [List.filter_cons_of_neg (by simp [hp]), List.filter_cons_of_pos hq, List.length_cons]; omega
  ·have hm2 : k ∈ L := by
    rcases List.mem_cons.1 hm with e' | e'
    ·exact absurd e'.symm e
    ·exact e'
   have ih := fil_lt h hq hp L hm2
   rcases hp2 : P a with _ | _
   ·rcases hq2 : Q a with _ | _
    ·rw [List.filter_cons_of_neg (by simp [hp2]), List.filter_cons_of_neg (by simp [hq2])]; exact ih
    ·rw [List.filter_cons_of_neg (by simp [hp2]), List.filter_cons_of_pos hq2, List.length_cons]; omega
   ·rw [List.filter_cons_of_pos hp2, List.filter_cons_of_pos (h a hp2), List.length_cons, List.length_cons]; omega
theorem unJ_mono {J J' : Nat → Bool} (h : ∀ n, J n = true → J' n = true) : unJ J' ≤ unJ J := fil_le (fun n hn => by
 rcases hj : J n with _ | _
 ·rfl
 ·rw [h n hj] at hn; cases hn) _
theorem unJ_set {J : Nat → Bool} {k : Nat} (hk : k < 64) (h : J k = false) : unJ (fun n => if n = k then true else J n) < unJ J := fil_lt (fun n hn => by
 by_cases e : n = k
 ·subst e; simp at hn
 ·simpa [e] using hn) (by simp [h]) (by simp) _ (List.mem_range.2 hk)
/- what joining a cell leaves -/
structure JPost (A B C : Int) (G : List M6) (c : Int) (J : Nat → Bool) (I : Nat → Int) (u : V2) (J' : Nat → Bool) (I' : Nat → Int) : Prop where
 sub : ∀ n, J n = true → J' n = true
 me : J' (nb C u) = true
 reach : ∀ n, J' n = true → J n = false → ∃ v, celB A C v = true ∧ nb C v = n ∧ Orb A B C G u v
 clos : ∀ v, celB A C v = true → J' (nb C v) = true → J (nb C v) = false → ∀ g ∈ G, J' (nb C (mv A B C g v)) = true
 idx : ∀ n, I' n = if J' n = true ∧ J n = false then c else I n
structure JMid (A B C : Int) (G : List M6) (c : Int) (J : Nat → Bool) (I : Nat → Int) (u : V2) (k : Nat) (J' : Nat → Bool) (I' : Nat → Int) : Prop where
 sub : ∀ n, J n = true → J' n = true
 me : J' (nb C u) = true
 reach : ∀ n, J' n = true → J n = false → ∃ v, celB A C v = true ∧ nb C v = n ∧ Orb A B C G u v
 clos : ∀ v, celB A C v = true → J' (nb C v) = true → J (nb C v) = false → v ≠ u → ∀ g ∈ G, J' (nb C (mv A B C g v)) = true
 img : ∀ i (h : i < G.length), i < k → J' (nb C (mv A B C G[i] u)) = true
 idx : ∀ n, I' n = if J' n = true ∧ J n = false then c else I n
theorem JPost.same {A B C : Int} {G : List M6} {c : Int} {J : Nat → Bool} {I : Nat → Int} {u : V2} (h : J (nb C u) = true) : JPost A B C G c J I u J I :=
 ⟨fun _ h => h, h, fun n h1 h2 => (by rw [h1] at h2; cases h2), fun v _ h1 h2 => (by rw [h1] at h2; cases h2), fun n => (by
  rw [if_neg]
  rintro ⟨h1, h2⟩
  rw [h1] at h2; cases h2)⟩
theorem JMid.start {f A B C : Int} {G : List M6} (hG : grpB f A B C G = true) {c : Int} {J : Nat → Bool} {I : Nat → Int} {u : V2} (hu : celB A C u = true) (h : J (nb C u) = false) :
  JMid A B C G c J I u 0 (fun n => if n = nb C u then true else J n) (fun n => if n = nb C u then c else I n) := by
 have hl := (grp_good hG).1
 refine ⟨fun n hn => ?_, by simp, fun n h1 h2 => ?_, fun v hv h1 h2 hne => ?_, fun i _ hi => by omega, fun n => ?_⟩
 ·show (if n = nb C u then true else J n) = true
  split <;> simp [hn]
 ·have h1' : (if n = nb C u then true else J n) = true := h1
  by_cases e : n = nb C u
  ·exact ⟨u, hu, e.symm, orb_refl hG hu⟩
  ·rw [if_neg e, h2] at h1'; cases h1'
 ·have h1' : (if nb C v = nb C u then true else J (nb C v)) = true := h1
  by_cases e : nb C v = nb C u
  ·exact absurd (nb_inj hl hv hu e) hne
  ·rw [if_neg e, h2] at h1'; cases h1'
 ·show (if n = nb C u then c else I n) = _
  by_cases e : n = nb C u
  ·subst e
   simp [h]
  ·rw [if_neg e, if_neg]
   rintro ⟨h1, h2⟩
   have h1' : (if n = nb C u then true else J n) = true := h1
   rw [if_neg e, h2] at h1'; cases h1'
theorem JMid.next {f A B C : Int} {G : List M6} (hG : grpB f A B C G = true) {c : Int} {J J1 J2 : Nat → Bool} {I I1 I2 : Nat → Int} {u : V2} {k : Nat} (hk : k < G.length) (hm : JMid A B C G c J I u k J1 I1) (hp : JPost A B C G c J1 I1 (mv A B C G[k] u) J2 I2) : JMid A B C G c J I u (k + 1) J2 I2 := by
 refine ⟨fun n h => hp.sub n (hm.sub n h), hp.sub _ hm.me, fun n h1 h2 => ?_, fun v hv h1 h2 hne g hg => ?_, fun i hi hik => ?_, fun n => ?_⟩
 ·rcases h3 : J1 n with _ | _
  ·obtain ⟨v, hv, e, hr⟩ := hp.reach n h1 h3
   exact ⟨v, hv, e, orb_trans hG ⟨G[k], List.getElem_mem hk, rfl⟩ hr⟩
  ·exact hm.reach n h3 h2
 ·rcases h3 : J1 (nb C v) with _ | _
  ·exact hp.clos v hv h1 h3 g hg
  ·exact hp.sub _ (hm.clos v hv h3 h2 hne g hg)
 ·by_cases e : i = k
  ·subst e; exact hp.me
  ·exact hp.sub _ (hm.img i hi (by omega))
 ·rw [hp.idx n, hm.idx n]
  rcases h1 : J n with _ | _
  ·rcases h2 : J1 n with _ | _
   ·rcases h3 : J2 n with _ | _ <;> simp
   ·have h3 := hp.sub n h2
    simp [h3]
  ·have h2 := hm.sub n h1
   simp [h2]
theorem JMid.fin {A B C : Int} {G : List M6} {c : Int} {J J' : Nat → Bool} {I I' : Nat → Int} {u : V2} (h : JMid A B C G c J I u G.length J' I') : JPost A B C G c J I u J' I' := by
 refine ⟨h.sub, h.me, h.reach, fun v hv h1 h2 g hg => ?_, h.idx⟩
 by_cases e : v = u
 ·subst e
  obtain ⟨i, hi, rfl⟩ := List.getElem_of_mem hg
  exact h.img i hi hi
 ·exact h.clos v hv h1 h2 e g hg
/- worlds in which of the old blocks at most two have turned -/
structure Two (p q : Nat) (w w' : World) : Prop where
 os : w'.os = w.os
 tape : w'.tape = w.tape
 output : w'.output = w.output
 size : w.heap.size ≤ w'.heap.size
 block : ∀ k, k < w.heap.size → k ≠ p → k ≠ q → w'.heap[k]? = w.heap[k]?
theorem Two.refl (p q : Nat) (w : World) : Two p q w w := ⟨rfl, rfl, rfl, Nat.le_refl _, fun _ _ _ _ => rfl⟩
theorem Two.trans {p q : Nat} {a b c : World} (h : Two p q a b) (k : Two p q b c) : Two p q a c :=
 ⟨k.os.trans h.os, k.tape.trans h.tape, k.output.trans h.output, Nat.le_trans h.size k.size, fun i hi h1 h2 => (k.block i (Nat.lt_of_lt_of_le hi h.size) h1 h2).trans (h.block i hi h1 h2)⟩
theorem Two.of {p q : Nat} {a b : World} (h : Below a.heap.size a b) : Two p q a b := ⟨h.os, h.tape, h.output, h.size, fun k hk _ _ => h.block k hk⟩
theorem Two.below {p q B : Nat} {a b c : World} (h : Two p q b c) (hb : Below B a b) (hs : B ≤ a.heap.size) (hp : B ≤ p) (hq : B ≤ q) : Below B a c :=
 hb.trans ⟨h.os, h.tape, h.output, h.size, fun k hk => h.block k (Nat.lt_of_lt_of_le hk (Nat.le_trans hs hb.size)) (by omega) (by omega)⟩
theorem Two.put {p q : Nat} {a b : World} (h : Two p q a b) {r : Addr} (hr : r.block = p ∨ r.block = q) (u : Value) : Two p q a (b.setCell r u) :=
 h.trans ⟨rfl, rfl, rfl, by simp [World.setCell], fun k _ h1 h2 => Below.heap_setCell _ _ _ _ (by omega)⟩
theorem Two.alloc {p q : Nat} {a b : World} (h : Two p q a b) (z : Obj) : Two p q a (b.alloc z) := h.trans (.of ((Below.refl _ _).alloc (Nat.le_refl _) _))
theorem Two.drew {p q : Nat} {a b : World} (h : Two p q a b) : Two p q a b.drew := h.trans (.of (Below.refl _ _).drew)
theorem Two.call {p q : Nat} {a b c : World} (h : Two p q a b) (hb : Below b.heap.size b c) : Two p q a c := h.trans (.of hb)
theorem Two.cell {p q : Nat} {w w' : World} (h : Two p q w w') {r : Addr} (h0 : r.block < w.heap.size) (h1 : r.block ≠ p) (h2 : r.block ≠ q) : w'.cell? r = w.cell? r := World.cell?_of_block (w := w) (h.block r.block h0 h1 h2)
theorem Two.frozen {p q : Nat} {w w' : World} (h : Two p q w w') {r : Addr} (h0 : r.block < w.heap.size) (h1 : r.block ≠ p) (h2 : r.block ≠ q) : w'.frozen? r = w.frozen? r := World.frozen?_of_block (w := w) (h.block r.block h0 h1 h2)
theorem Kt.two {p q R : Nat} {a b c : Int} {W w1 : World} (h : Kt R a b c W) (hT : Two p q W w1) (h1 : R ≠ p) (h2 : R ≠ q) : Kt R a b c w1 :=
 ⟨Nat.lt_of_lt_of_le h.1 hT.size, (hT.cell (r := ⟨R, 0, none⟩) h.1 h1 h2).trans h.c0, (hT.cell (r := ⟨R, 1, none⟩) h.1 h1 h2).trans h.c1, (hT.cell (r := ⟨R, 2, none⟩) h.1 h1 h2).trans h.c2⟩
theorem Kg.two {p q R : Nat} {a b : Int} {W w1 : World} (h : Kg R a b W) (hT : Two p q W w1) (h1 : R ≠ p) (h2 : R ≠ q) : Kg R a b w1 :=
 ⟨Nat.lt_of_lt_of_le h.1 hT.size, (hT.cell (r := ⟨R, 0, none⟩) h.1 h1 h2).trans h.2.1, (hT.cell (r := ⟨R, 1, none⟩) h.1 h1 h2).trans h.2.2⟩
theorem Km.two {p q R : Nat} {a b c d x y : Int} {W w1 : World} (h : Km R a b c d x y W) (hT : Two p q W w1) (h1 : R ≠ p) (h2 : R ≠ q) : Km R a b c d x y w1 :=
 ⟨Nat.lt_of_lt_of_le h.1 hT.size, (hT.cell (r := ⟨R, 0, none⟩) h.1 h1 h2).trans h.c0, (hT.cell (r := ⟨R, 1, none⟩) h.1 h1 h2).trans h.c1, (hT.cell (r := ⟨R, 2, none⟩) h.1 h1 h2).trans h.c2, (hT.cell (r := ⟨R, 3, none⟩) h.1 h1 h2).trans h.c3, (hT.cell (r := ⟨R, 4, none⟩) h.1 h1 h2).trans h.c4, (hT.cell (r := ⟨R, 5, none⟩) h.1 h1 h2).trans h.c5⟩
/- a block of one cell -/
def K1 (R : Nat) (v : Value) (W : World) : Prop := R < W.heap.size ∧ W.cell? ⟨R, 0, none⟩ = some v
theorem K1.call {R : Nat} {v : Value} {W w1 : World} (h : K1 R v W) (hb : Below W.heap.size W w1) : K1 R v w1 := ⟨Nat.lt_of_lt_of_le h.1 hb.size, (hb.cell (p := ⟨R, 0, none⟩) h.1).trans h.2⟩
theorem K1.alloc {R : Nat} {v : Value} {W : World} (h : K1 R v W) (z : Obj) : K1 R v (W.alloc z) := h.call ((Below.refl _ _).alloc (Nat.le_refl _) _)
theorem K1.drew {R : Nat} {v : Value} {W : World} (h : K1 R v W) : K1 R v W.drew := h.call (Below.refl _ _).drew
theorem K1.two {p q R : Nat} {v : Value} {W w1 : World} (h : K1 R v W) (hT : Two p q W w1) (h1 : R ≠ p) (h2 : R ≠ q) : K1 R v w1 := ⟨Nat.lt_of_lt_of_le h.1 hT.size, (hT.cell (r := ⟨R, 0, none⟩) h.1 h1 h2).trans h.2⟩
theorem K1.c {R : Nat} {v : Value} {W : World} (h : K1 R v W) : W.cell? ⟨R, 0, none⟩ = some v := h.2
theorem K1.far {R : Nat} {v : Value} {W : World} {r : Addr} {u : Value} (hr : r.block ≠ R) (h : K1 R v W) : K1 R v (W.setCell r u) := by
 have hh : (W.setCell r u).heap[R]? = W.heap[R]? := Below.heap_setCell _ _ _ _ (by omega)
 exact ⟨by simpa [World.setCell] using h.1, (World.cell?_of_block (w := W) hh).trans h.2⟩
theorem kg_lt7 {R : Nat} {a b : Int} {W : World} (h : Kg R a b W) : R < W.heap.size := h.1
/- the whole block of the indices -/
def rowI (I : Nat → Int) : Array Value := ((List.range 64).map fun n => Value.int .i64 (I n)).toArray
theorem rowI_size (I : Nat → Int) : (rowI I).size = 64 := by simp [rowI]
theorem rowI_get (I : Nat → Int) (k : Nat) (hk : k < 64) : (rowI I)[k]? = some (.int .i64 (I k)) := by simp [rowI, hk]
theorem rowI_set (I : Nat → Int) (k : Nat) (z : Int) : (rowI I).setIfInBounds k (.int .i64 z) = rowI (fun n => if n = k then z else I n) := by
 apply Array.ext_getElem?
 intro i
 by_cases hi : i < 64
 ·rw [rowI_get _ i hi, Array.getElem?_setIfInBounds]
  by_cases e : k = i
  ·subst e; simp [rowI_size, hi]
  ·rw [if_neg e, rowI_get _ i hi, if_neg (fun h => e h.symm)]
 ·rw [Array.getElem?_eq_none (by rw [Array.size_setIfInBounds, rowI_size]; omega), Array.getElem?_eq_none (by rw [rowI_size]; omega)]
def ARI (g : Nat) (I : Nat → Int) (W : World) : Prop := W.heap[g]? = some (.cells (rowI I) 100 (0, 0))
theorem ARI.lt {g : Nat} {I : Nat → Int} {W : World} (h : ARI g I W) : g < W.heap.size := (Array.getElem?_eq_some_iff.1 h).1
theorem ARI.call {g : Nat} {I : Nat → Int} {W w1 : World} (h : ARI g I W) (hb : Below W.heap.size W w1) : ARI g I w1 := (hb.block _ h.lt).trans h
theorem ARI.alloc {g : Nat} {I : Nat → Int} {W : World} (h : ARI g I W) (z : Obj) : ARI g I (W.alloc z) := h.call ((Below.refl _ _).alloc (Nat.le_refl _) _)
theorem ARI.drew {g : Nat} {I : Nat → Int} {W : World} (h : ARI g I W) : ARI g I W.drew := h
theorem ARI.at {g : Nat} {I : Nat → Int} {W : World} (h : ARI g I W) (k : Nat) (hk : k < 64) : W.cell? ⟨g, k, none⟩ = some (.int .i64 (I k)) := by
 unfold ARI at h
 simp [World.cell?, h, rowI_get I k hk]
theorem ARI.free {g : Nat} {I : Nat → Int} {W : World} (h : ARI g I W) (k : Nat) : W.frozen? ⟨g, k, none⟩ = false := by
 unfold ARI at h
 simp [World.frozen?, h]
theorem ARI.put {g : Nat} {I : Nat → Int} {W : World} (h : ARI g I W) (k : Nat) (z : Int) : ARI g (fun n => if n = k then z else I n) (W.setCell ⟨g, k, none⟩ (.int .i64 z)) := by
 unfold ARI
 rw [← rowI_set]
 exact heap_setCell_same W g k _ _ _ h
theorem ARI.far {g : Nat} {I : Nat → Int} {W : World} {r : Addr} {u : Value} (hr : r.block ≠ g) (h : ARI g I W) : ARI g I (W.setCell r u) := (Below.heap_setCell _ _ _ _ (by omega)).trans h
/- a row of marks -/
def BRow (g N : Nat) (F : Nat → Bool) (W : World) : Prop := g < W.heap.size ∧ ∀ t, t < N → W.cell? ⟨g, t, none⟩ = some (.bool (F t)) ∧ W.frozen? ⟨g, t, none⟩ = false
theorem BRow.call {g N : Nat} {F : Nat → Bool} {W w1 : World} (h : BRow g N F W) (hb : Below W.heap.size W w1) : BRow g N F w1 :=
 ⟨Nat.lt_of_lt_of_le h.1 hb.size, fun t ht => ⟨(hb.cell (p := ⟨g, t, none⟩) h.1).trans (h.2 t ht).1, (hb.frozen (p := ⟨g, t, none⟩) h.1).trans (h.2 t ht).2⟩⟩
theorem BRow.alloc {g N : Nat} {F : Nat → Bool} {W : World} (h : BRow g N F W) (z : Obj) : BRow g N F (W.alloc z) := h.call ((Below.refl _ _).alloc (Nat.le_refl _) _)
theorem BRow.drew {g N : Nat} {F : Nat → Bool} {W : World} (h : BRow g N F W) : BRow g N F W.drew := h.call (Below.refl _ _).drew
theorem BRow.at {g N : Nat} {F : Nat → Bool} {W : World} (h : BRow g N F W) (t : Nat) (ht : t < N) : W.cell? ⟨g, t, none⟩ = some (.bool (F t)) := (h.2 t ht).1
theorem BRow.free {g N : Nat} {F : Nat → Bool} {W : World} (h : BRow g N F W) (t : Nat) (ht : t < N) : W.frozen? ⟨g, t, none⟩ = false := (h.2 t ht).2
theorem BRow.put {g N : Nat} {F : Nat → Bool} {W : World} (h : BRow g N F W) (s : Nat) (hs : s < N) (z : Bool) : BRow g N (fun t => if t = s then z else F t) (W.setCell ⟨g, s, none⟩ (.bool z)) := by
 refine ⟨by simpa [World.setCell] using h.1, fun t ht => ?_⟩
 obtain ⟨h1, h2⟩ := h.2 t ht
 obtain ⟨h3, h4⟩ := h.2 s hs
 by_cases e : t = s
 ·subst e
  simp [h3, h2, go_sem]
 ·refine ⟨?_, ?_⟩
  ·simp [h1, e, go_sem]
  ·simpa [go_sem] using h2
theorem BRow.far {g N : Nat} {F : Nat → Bool} {W : World} {r : Addr} {u : Value} (hr : r.block ≠ g) (h : BRow g N F W) : BRow g N F (W.setCell r u) := by
 have hh : (W.setCell r u).heap[g]? = W.heap[g]? := Below.heap_setCell _ _ _ _ (by omega)
 exact ⟨by simpa [World.setCell] using h.1, fun t ht => ⟨(World.cell?_of_block (w := W) hh).trans (h.2 t ht).1, (World.frozen?_of_block (w := W) hh).trans (h.2 t ht).2⟩⟩
theorem IRow.alloc {g N : Nat} {F : Nat → Int} {W : World} (h : IRow g N F W) (z : Obj) : IRow g N F (W.alloc z) := h.call ((Below.refl _ _).alloc (Nat.le_refl _) _)
theorem IRow.drew {g N : Nat} {F : Nat → Int} {W : World} (h : IRow g N F W) : IRow g N F W.drew := h.call (Below.refl _ _).drew
theorem IRow.two {p q g N : Nat} {F : Nat → Int} {W w1 : World} (h : IRow g N F W) (hT : Two p q W w1) (h1 : g ≠ p) (h2 : g ≠ q) : IRow g N F w1 :=
 ⟨Nat.lt_of_lt_of_le h.1 hT.size, fun t ht => ⟨(hT.cell (r := ⟨g, t, none⟩) h.1 h1 h2).trans (h.2 t ht).1, (hT.frozen (r := ⟨g, t, none⟩) h.1 h1 h2).trans (h.2 t ht).2⟩⟩
set_option maxRecDepth 100000 in
set_option maxHeartbeats 4000000 in
theorem number_any7 (A B C x y : Int) (w : World) (hl : latI A B C) (hv : celB A C (x, y) = true) :
  Calls Tryz.prog 66 #[.agg #[.int .i64 A, .int .i64 B, .int .i64 C], .agg #[.int .i64 x, .int .i64 y]] w fun e w' => e = .returned (.int .i64 ((nb C (x, y) : Nat) : Int)) ∧ Below w.heap.size w w' := by
 have h1 := nb_lt hl hv
 have h2 := nb_int hl hv
 dsimp only at h1 h2
 have EA := Lib.hid h2
 have L0 : Kt w.heap.size A B C ((w.alloc (.cells #[.int .i64 A, .int .i64 B, .int .i64 C] 32)).alloc (.cells #[.int .i64 x, .int .i64 y] 55)) := Kt.alloc (Kt.at _ rfl) _
 have V0 : Kg (w.heap.size + 1) x y ((w.alloc (.cells #[.int .i64 A, .int .i64 B, .int .i64 C] 32)).alloc (.cells #[.int .i64 x, .int .i64 y] 55)) := Kg.at2 _ (by simp)
 have B0 : Below w.heap.size w ((w.alloc (.cells #[.int .i64 A, .int .i64 B, .int .i64 C] 32)).alloc (.cells #[.int .i64 x, .int .i64 y] 55)) := ((Below.refl _ _).alloc (Nat.le_refl _) _).alloc (by simp) _
 have L0c := L0.cells
 have V0c := V0.cells
 have hc := celB_iff.1 hv
 dsimp only at hc
 have hb := latI_bd hl
 clear hl hv h2
 go_enter Tryz.func66, Tryz.ntmps66
 go_wp2
 all_goals
  go_ret
  exact ⟨ret_int EA.out.symm, by repeat (first | with_reducible assumption | with_reducible exact Below.refl _ _ | with_reducible refine Below.drew ?_ | with_reducible refine below_drewN ?_ _ | with_reducible refine Below.alloc ?_ (by first | omega | (simp <;> omega)) _ | with_reducible refine bstep ?_ (by with_reducible assumption))⟩

def JAns (A B C : Int) (G : List M6) (c : Int) (bi bj : Nat) (J : Nat → Bool) (I : Nat → Int) (u : V2) (W : World) (e : Ending) (W' : World) : Prop :=
 e = .returned (.tuple #[]) ∧ ∃ J' I', JPost A B C G c J I u J' I' ∧ ARI bi I' W' ∧ BRow bj 64 J' W' ∧ Two bi bj W W'
structure JFix (A B C c : Int) (G : List M6) (bl bc bm bf gm cap : Nat) (fv : Value) (W : World) : Prop where
 l : Kt bl A B C W
 c : K1 bc (.int .i64 c) W
 m : K1 bm (.slice (some ⟨gm, 0, none⟩) G.length cap) W
 f : K1 bf fv W
 g : IRow gm (G.length * 6) (fm G) W
theorem JFix.call {A B C c : Int} {G : List M6} {bl bc bm bf gm cap : Nat} {fv : Value} {W w1 : World} (h : JFix A B C c G bl bc bm bf gm cap fv W) (hb : Below W.heap.size W w1) : JFix A B C c G bl bc bm bf gm cap fv w1 := ⟨h.l.call hb, h.c.call hb, h.m.call hb, h.f.call hb, h.g.call hb⟩
theorem JFix.two {A B C c : Int} {G : List M6} {bl bc bm bf gm cap bi bj : Nat} {fv : Value} {W w1 : World} (h : JFix A B C c G bl bc bm bf gm cap fv W) (hT : Two bi bj W w1) (hne : bl ≠ bi ∧ bl ≠ bj ∧ bc ≠ bi ∧ bc ≠ bj ∧ bm ≠ bi ∧ bm ≠ bj ∧ bf ≠ bi ∧ bf ≠ bj ∧ bi ≠ bj ∧ gm ≠ bi ∧ gm ≠ bj) : JFix A B C c G bl bc bm bf gm cap fv w1 := by
 obtain ⟨h1, h2, h3, h4, h5, h6, h7, h8, _, h9, h10⟩ := hne
 exact ⟨h.l.two hT h1 h2, h.c.two hT h3 h4, h.m.two hT h5 h6, h.f.two hT h7 h8, h.g.two hT h9 h10⟩
set_option maxRecDepth 100000 in
set_option maxHeartbeats 8000000 in
theorem join_yes {A B C c x0 y0 : Int} {G : List M6} {bl bc bm bf gm cap bi bj : Nat} {J : Nat → Bool} {I : Nat → Int} {W : World} (hl : latI A B C) (hu : celB A C (x0, y0) = true) (hx : JFix A B C c G bl bc bm bf gm cap (.func (.func 91) #[] #[.pointer (some ⟨bl, 0, none⟩), .pointer (some ⟨bj, 0, none⟩), .pointer (some ⟨bc, 0, none⟩), .pointer (some ⟨bi, 0, none⟩), .pointer (some ⟨bm, 0, none⟩), .pointer (some ⟨bf, 0, none⟩)]) W) (hI : ARI bi I W) (hJ : BRow bj 64 J W) (hy : J (nb C (x0, y0)) = true) :
  Calls Tryz.prog 91 #[.agg #[.int .i64 x0, .int .i64 y0], .pointer (some ⟨bl, 0, none⟩), .pointer (some ⟨bj, 0, none⟩), .pointer (some ⟨bc, 0, none⟩), .pointer (some ⟨bi, 0, none⟩), .pointer (some ⟨bm, 0, none⟩), .pointer (some ⟨bf, 0, none⟩)] W (JAns A B C G c bi bj J I (x0, y0) W) := by
 have HY := Lib.hid hy
 have HP : Hid (JPost A B C G c J I (x0, y0) J I) := Lib.hid (JPost.same hy)
 have HI := Lib.hid hI
 have HJ := Lib.hid hJ
 have hk := nb_64 hl hu
 have CN := Lib.hid (fun W => number_any7 A B C x0 y0 W hl hu)
 have L1 := hx.l.alloc (.cells #[.int .i64 x0, .int .i64 y0] 55)
 have U1 : Kg W.heap.size x0 y0 (W.alloc (.cells #[.int .i64 x0, .int .i64 y0] 55)) := Kg.at2 _ rfl
 have B1 : Below W.heap.size W (W.alloc (.cells #[.int .i64 x0, .int .i64 y0] 55)) := (Below.refl _ _).alloc (Nat.le_refl _) _
 have L1c := L1.cells
 have U1c := U1.cells
 clear hl hu hx hI hJ hy
 generalize nb C (x0, y0) = k at HY CN hk
 have hk2 : (k : Int) < 64 := by omega
 have HK := Lib.hid hk
 go_enter Tryz.func91, Tryz.ntmps91
 go_wp2_with fail
 refine (CN.out _).mono ?_
 rintro e w2 ⟨rfl, hb2⟩
 have B2 := bstep B1 hb2
 have jc := (HJ.out.call B2).at k HK.out
 rw [HY.out] at jc
 clear hb2 B1 L1 U1 L1c U1c
 go_wp2
 go_end0
 exact ⟨rfl, J, I, HP.out, HI.out.call B2, HJ.out.call B2, .of B2⟩

def JCut (A B C c x0 y0 : Int) (G : List M6) (bl bc bm bf gm cap bi bj k ub : Nat) (fv : Value) (J : Nat → Bool) (I : Nat → Int) (W : World) (s8 : Value) (wx : World) : Prop :=
 s8 = .int .i64 (k : Int) ∧ ARI bi (fun n => if n = k then c else I n) wx ∧ BRow bj 64 (fun n => if n = k then true else J n) wx ∧ Two bi bj W wx ∧ Kg ub x0 y0 wx
set_option maxRecDepth 100000 in
set_option maxHeartbeats 16000000 in
theorem join_any {f A B C c : Int} {G : List M6} {bl bc bm bf gm cap bi bj : Nat} (hG : grpB f A B C G = true) (hne : bl ≠ bi ∧ bl ≠ bj ∧ bc ≠ bi ∧ bc ≠ bj ∧ bm ≠ bi ∧ bm ≠ bj ∧ bf ≠ bi ∧ bf ≠ bj ∧ bi ≠ bj ∧ gm ≠ bi ∧ gm ≠ bj) : ∀ (m : Nat) (J : Nat → Bool) (I : Nat → Int) (x0 y0 : Int) (W : World), unJ J ≤ m → celB A C (x0, y0) = true → JFix A B C c G bl bc bm bf gm cap (.func (.func 91) #[] #[.pointer (some ⟨bl, 0, none⟩), .pointer (some ⟨bj, 0, none⟩), .pointer (some ⟨bc, 0, none⟩), .pointer (some ⟨bi, 0, none⟩), .pointer (some ⟨bm, 0, none⟩), .pointer (some ⟨bf, 0, none⟩)]) W → ARI bi I W → BRow bj 64 J W →
  Calls Tryz.prog 91 #[.agg #[.int .i64 x0, .int .i64 y0], .pointer (some ⟨bl, 0, none⟩), .pointer (some ⟨bj, 0, none⟩), .pointer (some ⟨bc, 0, none⟩), .pointer (some ⟨bi, 0, none⟩), .pointer (some ⟨bm, 0, none⟩), .pointer (some ⟨bf, 0, none⟩)] W (JAns A B C G c bi bj J I (x0, y0) W) := by
 intro m
 induction m with
 | zero =>
  intro J I x0 y0 W hm hu hx hI hJ
  have hl := (grp_good hG).1
  rcases hy : J (nb C (x0, y0)) with _ | _
  ·have := unJ_set (nb_64 hl hu) hy
   omega
  ·exact join_yes hl hu hx hI hJ hy
 | succ m ih =>
  intro J I x0 y0 W hm hu hx hI hJ
  have hl := (grp_good hG).1
  rcases hy : J (nb C (x0, y0)) with _ | _
  case true => exact join_yes hl hu hx hI hJ hy
  have hun := unJ_set (nb_64 hl hu) hy
  have HGR := Lib.hid hG
  have HNE := Lib.hid hne
  have HL := Lib.hid hl
  have HU := Lib.hid hu
  have HX := Lib.hid hx
  have HS := Lib.hid (JMid.start (B := B) hG (c := c) (I := I) hu hy)
  have H768 := Lib.hid (grp_len hG)
  have h7 : (G.length : Int) ≤ 768 := by have := grp_len hG; omega
  have IH : Hid (∀ (J' : Nat → Bool) (I' : Nat → Int) (x1 y1 : Int) (W' : World), (∀ n, J n = true → J' n = true) → J' (nb C (x0, y0)) = true → celB A C (x1, y1) = true → JFix A B C c G bl bc bm bf gm cap (.func (.func 91) #[] #[.pointer (some ⟨bl, 0, none⟩), .pointer (some ⟨bj, 0, none⟩), .pointer (some ⟨bc, 0, none⟩), .pointer (some ⟨bi, 0, none⟩), .pointer (some ⟨bm, 0, none⟩), .pointer (some ⟨bf, 0, none⟩)]) W' → ARI bi I' W' → BRow bj 64 J' W' → Calls Tryz.prog 91 #[.agg #[.int .i64 x1, .int .i64 y1], .pointer (some ⟨bl, 0, none⟩), .pointer (some ⟨bj, 0, none⟩), .pointer (some ⟨bc, 0, none⟩), .pointer (some ⟨bi, 0, none⟩), .pointer (some ⟨bm, 0, none⟩), .pointer (some ⟨bf, 0, none⟩)] W' (JAns A B C G c bi bj J' I' (x1, y1) W')) := Lib.hid (fun J' I' x1 y1 W' h1 h2 h3 h4 h5 h6 => ih J' I' x1 y1 W' (by
   have := unJ_mono (J := fun n => if n = nb C (x0, y0) then true else J n) (J' := J') (fun n hn => by
    by_cases e : n = nb C (x0, y0)
    ·rw [e]; exact h2
    ·rw [if_neg e] at hn; exact h1 n hn)
   omega) h3 h4 h5 h6)
  have hk := nb_64 hl hu
  have CN := Lib.hid (fun W => number_any7 A B C x0 y0 W hl hu)
  have L1 := hx.l.alloc (.cells #[.int .i64 x0, .int .i64 y0] 55)
  have U1 : Kg W.heap.size x0 y0 (W.alloc (.cells #[.int .i64 x0, .int .i64 y0] 55)) := Kg.at2 _ rfl
  have B1 : Below W.heap.size W (W.alloc (.cells #[.int .i64 x0, .int .i64 y0] 55)) := (Below.refl _ _).alloc (Nat.le_refl _) _
  have hbi := hI.lt
  have hbj := hJ.1
  have HI := Lib.hid hI
  have HJ := Lib.hid hJ
  have L1c := L1.cells
  have U1c := U1.cells
  obtain ⟨_, _, e3, e4, _, _, _, _, e9, _, _⟩ := id hne
  clear hG hne ih hm hu hx hI hJ hl hun
  have HKN : Hid (∀ J' : Nat → Bool, J' (nb C (x0, y0)) = J' (nb C (x0, y0))) := Lib.hid (fun _ => rfl)
  generalize hkk : nb C (x0, y0) = k at *
  have hk2 : (k : Int) < 64 := by omega
  have HK := Lib.hid hk
  have HKK := Lib.hid hkk
  have HY := Lib.hid hy
  clear hkk hy HKN
  go_enter Tryz.func91, Tryz.ntmps91
  go_wp2_with fail
  refine (CN.out _).mono ?_
  rintro e w2 ⟨rfl, hb2⟩
  have B2 := bstep B1 hb2
  have U2 := U1.call hb2
  have T2 : Two bi bj W w2 := .of B2
  have I2 := HI.out.call B2
  have J2 := HJ.out.call B2
  have C2 := HX.out.c.call B2
  have z2 := B2.size
  have jc := J2.at k HK.out
  rw [HY.out] at jc
  have jf := J2.free k HK.out
  have ic := I2.at k HK.out
  have iff := I2.free k
  have C2c := C2.c
  clear hb2 B1 L1 U1 L1c U1c CN
  go_upto_region 1 with fail
  go_cut [8] (fun s8 wx => JCut A B C c x0 y0 G bl bc bm bf gm cap bi bj k W.heap.size (.func (.func 91) #[] #[.pointer (some ⟨bl, 0, none⟩), .pointer (some ⟨bj, 0, none⟩), .pointer (some ⟨bc, 0, none⟩), .pointer (some ⟨bi, 0, none⟩), .pointer (some ⟨bm, 0, none⟩), .pointer (some ⟨bf, 0, none⟩)]) J I W s8 wx)
  case first =>
   go_region_held3 (fun W => W.cell? ⟨bc, 0, none⟩ = some (.int .i64 c)) ((refine K1.c ?_) <;> repeat (first | with_reducible assumption | with_reducible refine K1.drew ?_ | with_reducible refine K1.alloc ?_ _ | with_reducible refine K1.call ?_ (by with_reducible assumption) | ((with_reducible refine K1.far ?_ ?_); (first | omega | (dsimp only; omega))))) (fail)
   all_goals
    go_wp2_with fail
    go_meet
    exact ⟨rfl, by repeat (first | with_reducible assumption | with_reducible refine ARI.drew ?_ | ((with_reducible refine ARI.far ?_ ?_); (first | omega | (dsimp only; omega))) | (with_reducible refine ARI.put ?_ _ _)), by repeat (first | with_reducible assumption | with_reducible refine BRow.drew ?_ | ((with_reducible refine BRow.far ?_ ?_); (first | omega | (dsimp only; omega))) | (with_reducible refine BRow.put ?_ _ (by omega) _)), by repeat (first | with_reducible assumption | with_reducible refine Two.drew ?_ | with_reducible refine Two.put ?_ (by first | exact Or.inl rfl | exact Or.inr rfl) _ | with_reducible refine Two.call ?_ (by with_reducible assumption)), by repeat (first | with_reducible assumption | with_reducible refine Kg.drew ?_ | ((with_reducible refine Kg.far ?_ ?_); (first | omega | (dsimp only; omega))))⟩
  case rest =>
   obtain ⟨rfl, I3, J3, T3, U3⟩ := hcut
   obtain ⟨w3, hw3⟩ : ∃ z, z = wc := ⟨_, rfl⟩
   subst hw3
   have X3 := HX.out.two T3 HNE.out
   have X3m := X3.m
   have m3c := X3m.c
   have U3l := kg_lt7 U3
   clear T2 I2 J2 C2 jc jf ic iff C2c B2 U2 X3m
   go_wp2_with fail
   go_loopw [24] (fun s24 W' => ∃ (i : Nat) (J' : Nat → Bool) (I' : Nat → Int), s24 = .int .i64 (i : Int) ∧ i ≤ G.length ∧ JMid A B C G c J I (x0, y0) i J' I' ∧ ARI bi I' W' ∧ BRow bj 64 J' W' ∧ JFix A B C c G bl bc bm bf gm cap (.func (.func 91) #[] #[.pointer (some ⟨bl, 0, none⟩), .pointer (some ⟨bj, 0, none⟩), .pointer (some ⟨bc, 0, none⟩), .pointer (some ⟨bi, 0, none⟩), .pointer (some ⟨bm, 0, none⟩), .pointer (some ⟨bf, 0, none⟩)]) W' ∧ Kg W.heap.size x0 y0 W' ∧ Two bi bj W W') (fun s24 _ => G.length - (intOf s24).toNat)
   case atStart => exact ⟨0, _, _, rfl, by omega, HS.out, I3, J3, X3, U3, T3⟩
   case round =>
    clear I3 J3 X3 U3 T3 m3c
    obtain ⟨i, J', I', rfl, hi, hM, hI, hJ, hX, hU, hT⟩ := hrel
    by_cases hi1 : i < G.length
    ·have hi2 : (i : Int) < (G.length : Int) := by omega
     have hi3 : (i : Int) ≤ 768 := by omega
     have q1 := hX.g.mo i hi1
     have hmem := (grp_ok HGR.out).2.1 G[i] (List.getElem_mem hi1)
     have HNX : Hid (∀ J2 I2, JPost A B C G c J' I' (mv A B C G[i] (x0, y0)) J2 I2 → JMid A B C G c J I (x0, y0) (i + 1) J2 I2) := Lib.hid (fun J2 I2 h => JMid.next HGR.out hi1 hM h)
     have HJM := Lib.hid (And.intro hM.sub hM.me)
     have HCL := Lib.hid (mv_cel (B := B) HL.out G[i] (x0, y0))
     have HIK := Lib.hid hi1
     clear hi hM
     generalize G[i] = mm at q1 hmem HNX HCL
     clear hi1
     obtain ⟨a, b, cc, d, x, y⟩ := mm
     dsimp only at q1
     obtain ⟨hl, hli, hv, hp, hxx, hyy⟩ := mv_mid hmem.1 hmem.2 HU.out
     have CT : Hid (∀ W, Calls Tryz.prog 92 #[.agg #[.int .i64 A, .int .i64 B, .int .i64 C], .agg #[.int .i64 a, .int .i64 b, .int .i64 cc, .int .i64 d, .int .i64 x, .int .i64 y], .agg #[.int .i64 x0, .int .i64 y0]] W fun e w' => e = .returned (.agg #[.int .i64 (redX A B C (a * x0 + b * y0 + x) (cc * x0 + d * y0 + y)), .int .i64 (redY C (cc * x0 + d * y0 + y))]) ∧ Below W.heap.size W w') := Lib.hid (fun W => taken_any A B C a b cc d x y x0 y0 W hl hli hv hp hxx hyy)
     have HMV : Hid (mv A B C (a, b, cc, d, x, y) (x0, y0) = (redX A B C (a * x0 + b * y0 + x) (cc * x0 + d * y0 + y), redY C (cc * x0 + d * y0 + y))) := Lib.hid rfl
     clear hl hli hv hp hxx hyy hmem
     generalize redX A B C (a * x0 + b * y0 + x) (cc * x0 + d * y0 + y) = rx at CT HMV
     generalize redY C (cc * x0 + d * y0 + y) = ry at CT HMV
     rw [HMV.out] at HNX HCL
     clear HMV
     have CJ : Hid (∀ W', JFix A B C c G bl bc bm bf gm cap (.func (.func 91) #[] #[.pointer (some ⟨bl, 0, none⟩), .pointer (some ⟨bj, 0, none⟩), .pointer (some ⟨bc, 0, none⟩), .pointer (some ⟨bi, 0, none⟩), .pointer (some ⟨bm, 0, none⟩), .pointer (some ⟨bf, 0, none⟩)]) W' → ARI bi I' W' → BRow bj 64 J' W' → Calls Tryz.prog 91 #[.agg #[.int .i64 rx, .int .i64 ry], .pointer (some ⟨bl, 0, none⟩), .pointer (some ⟨bj, 0, none⟩), .pointer (some ⟨bc, 0, none⟩), .pointer (some ⟨bi, 0, none⟩), .pointer (some ⟨bm, 0, none⟩), .pointer (some ⟨bf, 0, none⟩)] W' (JAns A B C G c bi bj J' I' (rx, ry) W')) := Lib.hid (fun W' h4 h5 h6 => IH.out J' I' rx ry W' HJM.out.1 (by have := HJM.out.2; rw [HKK.out] at this; exact this) HCL.out h4 h5 h6)
     have hgl := ko_lt q1
     have hTs := hT.size
     have hbi2 := hI.lt
     have hbj2 := hJ.1
     have M3 : Km wr.heap.size a b cc d x y (wr.alloc (.cells #[.int .i64 a, .int .i64 b, .int .i64 cc, .int .i64 d, .int .i64 x, .int .i64 y] 136)) := Km.at _ rfl
     have B3 : Below wr.heap.size wr (wr.alloc (.cells #[.int .i64 a, .int .i64 b, .int .i64 cc, .int .i64 d, .int .i64 x, .int .i64 y] 136)) := (Below.refl _ _).alloc (Nat.le_refl _) _
     have X3 := hX.call B3
     have I3 := hI.call B3
     have J3 := hJ.call B3
     have U3 := hU.call B3
     have T3 := hT.call B3
     have L3 := X3.l
     have F3 := X3.f
     have m3c := hX.m.c
     have q1c := q1.cells
     have L3c := L3.cells
     have U3c := U3.cells
     have M3c := M3.cells
     have F3c := F3.c
     go_wp2_with fail
     go_region_held3 (fun V => (V.cell? ⟨bl, 0, none⟩ = some (.int .i64 A) ∧ V.cell? ⟨bl, 1, none⟩ = some (.int .i64 B) ∧ V.cell? ⟨bl, 2, none⟩ = some (.int .i64 C)) ∧ (V.cell? ⟨W.heap.size, 0, none⟩ = some (.int .i64 x0) ∧ V.cell? ⟨W.heap.size, 1, none⟩ = some (.int .i64 y0)) ∧ (V.cell? ⟨wr.heap.size, 0, none⟩ = some (.int .i64 a) ∧ V.cell? ⟨wr.heap.size, 1, none⟩ = some (.int .i64 b) ∧ V.cell? ⟨wr.heap.size, 2, none⟩ = some (.int .i64 cc) ∧ V.cell? ⟨wr.heap.size, 3, none⟩ = some (.int .i64 d) ∧ V.cell? ⟨wr.heap.size, 4, none⟩ = some (.int .i64 x) ∧ V.cell? ⟨wr.heap.size, 5, none⟩ = some (.int .i64 y)) ∧ V.cell? ⟨bf, 0, none⟩ = some (.func (.func 91) #[] #[.pointer (some ⟨bl, 0, none⟩), .pointer (some ⟨bj, 0, none⟩), .pointer (some ⟨bc, 0, none⟩), .pointer (some ⟨bi, 0, none⟩), .pointer (some ⟨bm, 0, none⟩), .pointer (some ⟨bf, 0, none⟩)])) ((refine ⟨Kt.cells ?_, Kg.cells ?_, Km.cells ?_, K1.c ?_⟩) <;> with_reducible repeat (first | assumption | refine Kt.drew ?_ | refine Kt.alloc ?_ _ | refine Kt.call ?_ (by assumption) | refine Kg.drew ?_ | refine Kg.alloc ?_ _ | refine Kg.call ?_ (by assumption) | refine Km.drew ?_ | refine Km.alloc ?_ _ | refine Km.call ?_ (by assumption) | refine K1.drew ?_ | refine K1.alloc ?_ _ | refine K1.call ?_ (by assumption)))
      (first
       | (go_at_call 92; with_reducible refine (CT.out _).mono ?_; rintro e u5 ⟨rfl, hb5⟩; have L5 : Kt bl A B C u5 := (by with_reducible repeat (first | assumption | refine Kt.drew ?_ | refine Kt.alloc ?_ _ | refine Kt.call ?_ (by assumption) | refine Kg.drew ?_ | refine Kg.alloc ?_ _ | refine Kg.call ?_ (by assumption) | refine Km.drew ?_ | refine Km.alloc ?_ _ | refine Km.call ?_ (by assumption) | refine K1.drew ?_ | refine K1.alloc ?_ _ | refine K1.call ?_ (by assumption))); have U5 : Kg W.heap.size x0 y0 u5 := (by with_reducible repeat (first | assumption | refine Kt.drew ?_ | refine Kt.alloc ?_ _ | refine Kt.call ?_ (by assumption) | refine Kg.drew ?_ | refine Kg.alloc ?_ _ | refine Kg.call ?_ (by assumption) | refine Km.drew ?_ | refine Km.alloc ?_ _ | refine Km.call ?_ (by assumption) | refine K1.drew ?_ | refine K1.alloc ?_ _ | refine K1.call ?_ (by assumption))); have M5 : Km wr.heap.size a b cc d x y u5 := (by with_reducible repeat (first | assumption | refine Kt.drew ?_ | refine Kt.alloc ?_ _ | refine Kt.call ?_ (by assumption) | refine Kg.drew ?_ | refine Kg.alloc ?_ _ | refine Kg.call ?_ (by assumption) | refine Km.drew ?_ | refine Km.alloc ?_ _ | refine Km.call ?_ (by assumption) | refine K1.drew ?_ | refine K1.alloc ?_ _ | refine K1.call ?_ (by assumption))); have F5 : K1 bf (.func (.func 91) #[] #[.pointer (some ⟨bl, 0, none⟩), .pointer (some ⟨bj, 0, none⟩), .pointer (some ⟨bc, 0, none⟩), .pointer (some ⟨bi, 0, none⟩), .pointer (some ⟨bm, 0, none⟩), .pointer (some ⟨bf, 0, none⟩)]) u5 := (by with_reducible repeat (first | assumption | refine Kt.drew ?_ | refine Kt.alloc ?_ _ | refine Kt.call ?_ (by assumption) | refine Kg.drew ?_ | refine Kg.alloc ?_ _ | refine Kg.call ?_ (by assumption) | refine Km.drew ?_ | refine Km.alloc ?_ _ | refine Km.call ?_ (by assumption) | refine K1.drew ?_ | refine K1.alloc ?_ _ | refine K1.call ?_ (by assumption))); have B5 : Below wr.heap.size wr u5 := (by repeat (first | with_reducible assumption | with_reducible exact Below.refl _ _ | with_reducible refine Below.drew ?_ | with_reducible refine below_drewN ?_ _ | with_reducible refine Below.alloc ?_ (by first | omega | (simp <;> omega)) _ | with_reducible refine bstep ?_ (by with_reducible assumption))))
       | (go_at_call 91; with_reducible refine (CJ.out _ (JFix.call hX (by repeat (first | with_reducible assumption | with_reducible exact Below.refl _ _ | with_reducible refine Below.drew ?_ | with_reducible refine below_drewN ?_ _ | with_reducible refine Below.alloc ?_ (by first | omega | (simp <;> omega)) _ | with_reducible refine bstep ?_ (by with_reducible assumption)))) (ARI.call hI (by repeat (first | with_reducible assumption | with_reducible exact Below.refl _ _ | with_reducible refine Below.drew ?_ | with_reducible refine below_drewN ?_ _ | with_reducible refine Below.alloc ?_ (by first | omega | (simp <;> omega)) _ | with_reducible refine bstep ?_ (by with_reducible assumption)))) (BRow.call hJ (by repeat (first | with_reducible assumption | with_reducible exact Below.refl _ _ | with_reducible refine Below.drew ?_ | with_reducible refine below_drewN ?_ _ | with_reducible refine Below.alloc ?_ (by first | omega | (simp <;> omega)) _ | with_reducible refine bstep ?_ (by with_reducible assumption))))).mono ?_; rintro e u6 hh; unfold JAns at hh; obtain ⟨rfl, J2, I2, hp2, hI2, hJ2, hT2⟩ := hh; have L6 : Kt bl A B C u6 := Kt.two (by with_reducible repeat (first | assumption | refine Kt.drew ?_ | refine Kt.alloc ?_ _ | refine Kt.call ?_ (by assumption) | refine Kg.drew ?_ | refine Kg.alloc ?_ _ | refine Kg.call ?_ (by assumption) | refine Km.drew ?_ | refine Km.alloc ?_ _ | refine Km.call ?_ (by assumption) | refine K1.drew ?_ | refine K1.alloc ?_ _ | refine K1.call ?_ (by assumption))) hT2 HNE.out.1 HNE.out.2.1; have U6 : Kg W.heap.size x0 y0 u6 := Kg.two (by with_reducible repeat (first | assumption | refine Kt.drew ?_ | refine Kt.alloc ?_ _ | refine Kt.call ?_ (by assumption) | refine Kg.drew ?_ | refine Kg.alloc ?_ _ | refine Kg.call ?_ (by assumption) | refine Km.drew ?_ | refine Km.alloc ?_ _ | refine Km.call ?_ (by assumption) | refine K1.drew ?_ | refine K1.alloc ?_ _ | refine K1.call ?_ (by assumption))) hT2 (by omega) (by omega); have M6' : Km wr.heap.size a b cc d x y u6 := Km.two (by with_reducible repeat (first | assumption | refine Kt.drew ?_ | refine Kt.alloc ?_ _ | refine Kt.call ?_ (by assumption) | refine Kg.drew ?_ | refine Kg.alloc ?_ _ | refine Kg.call ?_ (by assumption) | refine Km.drew ?_ | refine Km.alloc ?_ _ | refine Km.call ?_ (by assumption) | refine K1.drew ?_ | refine K1.alloc ?_ _ | refine K1.call ?_ (by assumption))) hT2 (by omega) (by omega); have F6 : K1 bf (.func (.func 91) #[] #[.pointer (some ⟨bl, 0, none⟩), .pointer (some ⟨bj, 0, none⟩), .pointer (some ⟨bc, 0, none⟩), .pointer (some ⟨bi, 0, none⟩), .pointer (some ⟨bm, 0, none⟩), .pointer (some ⟨bf, 0, none⟩)]) u6 := K1.two (by with_reducible repeat (first | assumption | refine Kt.drew ?_ | refine Kt.alloc ?_ _ | refine Kt.call ?_ (by assumption) | refine Kg.drew ?_ | refine Kg.alloc ?_ _ | refine Kg.call ?_ (by assumption) | refine Km.drew ?_ | refine Km.alloc ?_ _ | refine Km.call ?_ (by assumption) | refine K1.drew ?_ | refine K1.alloc ?_ _ | refine K1.call ?_ (by assumption))) hT2 HNE.out.2.2.2.2.2.2.1 HNE.out.2.2.2.2.2.2.2.1; have T6 : Two bi bj W u6 := (Two.call hT (show Below wr.heap.size wr _ from by repeat (first | with_reducible assumption | with_reducible exact Below.refl _ _ | with_reducible refine Below.drew ?_ | with_reducible refine below_drewN ?_ _ | with_reducible refine Below.alloc ?_ (by first | omega | (simp <;> omega)) _ | with_reducible refine bstep ?_ (by with_reducible assumption)))).trans hT2; have X6 : JFix A B C c G bl bc bm bf gm cap (.func (.func 91) #[] #[.pointer (some ⟨bl, 0, none⟩), .pointer (some ⟨bj, 0, none⟩), .pointer (some ⟨bc, 0, none⟩), .pointer (some ⟨bi, 0, none⟩), .pointer (some ⟨bm, 0, none⟩), .pointer (some ⟨bf, 0, none⟩)]) u6 := JFix.two (JFix.call hX (by repeat (first | with_reducible assumption | with_reducible exact Below.refl _ _ | with_reducible refine Below.drew ?_ | with_reducible refine below_drewN ?_ _ | with_reducible refine Below.alloc ?_ (by first | omega | (simp <;> omega)) _ | with_reducible refine bstep ?_ (by with_reducible assumption)))) hT2 HNE.out))
     all_goals
      clear hX hI hJ hU hT M3 B3 X3 I3 J3 U3 T3 L3 F3 m3c q1 q1c L3c U3c M3c F3c L5 U5 M5 F5 B5 L6 M6' F6 hb5
      have HN2 := Lib.hid (HNX.out J2 I2 hp2)
      go_wp2
      go_roundw
      case rel => exact ⟨i + 1, J2, I2, by go_num, by have := HIK.out; omega, HN2.out, hI2, hJ2, X6, U6, T6⟩
      case measure => (have := HIK.out); first | (simp [intOf]; done) | (simp [intOf]; omega)
    ·obtain rfl : i = G.length := by omega
     go_wp2
     go_end0
     exact ⟨rfl, J', I', hM.fin, hI, hJ, hT⟩
end
end Go.Proofs.YtdgophfembpniaaGreatDoor

namespace Go.Proofs.YtdgophfembpniaaGreatDoor
section
open Go.RowKit Go.Shelf
attribute [local go_sem] Oper.semAt_some
set_option linter.unusedSimpArgs false
set_option linter.unusedVariables false

/- the first cells of the orbits, in the order in which they are met -/
def fstF (A B C : Int) (G : List M6) (F : List V2) (v : V2) : List V2 := if ∃ u ∈ F, Orb A B C G u v then F else F ++ [v]
def fstL (A B C : Int) (G : List M6) (vs : List V2) : List V2 := vs.foldl (fstF A B C G) []
theorem fstL_snoc (A B C : Int) (G : List M6) (vs : List V2) (v : V2) : fstL A B C G (vs ++ [v]) = fstF A B C G (fstL A B C G vs) v := by simp [fstL, List.foldl_append]
theorem fstL_len (A B C : Int) (G : List M6) (vs : List V2) : (fstL A B C G vs).length ≤ vs.length := by
 unfold fstL
 have : ∀ (vs F : List V2), (vs.foldl (fstF A B C G) F).length ≤ F.length + vs.length := by
  intro vs
  induction vs with
  | nil => intro F; simp
  | cons v vs ih =>
   intro F
   have h1 := ih (fstF A B C G F v)
   have h2 : (fstF A B C G F v).length ≤ F.length + 1 := by
    unfold fstF
    split <;> simp
   simp only [List.foldl_cons, List.length_cons]
   omega
 have := this vs []
 simpa using this
structure TMid (A B C : Int) (G : List M6) (F : List V2) (J : Nat → Bool) (I : Nat → Int) : Prop where
 j : ∀ v, celB A C v = true → (J (nb C v) = true ↔ ∃ u ∈ F, Orb A B C G u v)
 i : ∀ v, celB A C v = true → ∀ k (h : k < F.length), Orb A B C G F[k] v → I (nb C v) = (k : Int)
 cel : ∀ u ∈ F, celB A C u = true
theorem TMid.start (A B C : Int) (G : List M6) : TMid A B C G [] (fun _ => false) (fun _ => 0) := ⟨fun v _ => by simp, fun v _ k h => absurd h (by simp), fun u h => absurd h (by simp)⟩
theorem TMid.skip {A B C : Int} {G : List M6} {F : List V2} {J : Nat → Bool} {I : Nat → Int} (h : TMid A B C G F J I) {u : V2} (hu : celB A C u = true) (hy : J (nb C u) = true) : fstF A B C G F u = F := if_pos ((h.j u hu).1 hy)
theorem TMid.join {f A B C : Int} {G : List M6} (hG : grpB f A B C G = true) {F : List V2} {J J' : Nat → Bool} {I I' : Nat → Int} (h : TMid A B C G F J I) {u : V2} (hu : celB A C u = true) (hy : J (nb C u) = false) (hp : JPost A B C G (F.length : Int) J I u J' I') :
  fstF A B C G F u = F ++ [u] ∧ TMid A B C G (F ++ [u]) J' I' := by
 have hl := (grp_good hG).1
 have hno : ¬ ∃ u' ∈ F, Orb A B C G u' u := fun e => by
  have := (h.j u hu).2 e
  rw [hy] at this; cases this
 have hcase : ∀ v, celB A C v = true → Orb A B C G u v → J (nb C v) = false := fun v hv ho => by
  rcases hj : J (nb C v) with _ | _
  ·rfl
  ·obtain ⟨u', hu', ho'⟩ := (h.j v hv).1 hj
   exact absurd ⟨u', hu', orb_trans hG ho' (orb_symm hG hu ho)⟩ hno
 refine ⟨if_neg hno, fun v hv => ⟨fun hj => ?_, fun he => ?_⟩, fun v hv k hk ho => ?_, fun x hx => ?_⟩
 ·rcases h1 : J (nb C v) with _ | _
  ·obtain ⟨v', hv', e, hr⟩ := hp.reach _ hj h1
   have := nb_inj hl hv' hv e
   subst this
   exact ⟨u, by simp, hr⟩
  ·obtain ⟨u', h2, h3⟩ := (h.j v hv).1 h1
   exact ⟨u', by simp [h2], h3⟩
 ·obtain ⟨u', h2, h3⟩ := he
  rcases List.mem_append.1 h2 with h4 | h4
  ·exact hp.sub _ ((h.j v hv).2 ⟨u', h4, h3⟩)
  ·have e : u' = u := by simpa using h4
   subst e
   obtain ⟨g, hg, rfl⟩ := h3
   exact hp.clos u' hu hp.me hy g hg
 ·rw [hp.idx]
  by_cases hkF : k < F.length
  ·have ho2 : Orb A B C G F[k] v := by rwa [List.getElem_append_left hkF] at ho
   have hj : J (nb C v) = true := (h.j v hv).2 ⟨F[k], List.getElem_mem hkF, ho2⟩
   rw [if_neg (by rintro ⟨_, h2⟩; rw [hj] at h2; cases h2)]
   exact h.i v hv k hkF ho2
  ·have ek : k = F.length := by simp at hk; omega
   subst ek
   have ho2 : Orb A B C G u v := by simpa using ho
   have h1 := hcase v hv ho2
   have h2 : J' (nb C v) = true := by
    obtain ⟨g, hg, rfl⟩ := ho2
    exact hp.clos u hu hp.me hy g hg
   rw [if_pos ⟨h2, h1⟩]
 ·rcases List.mem_append.1 hx with h4 | h4
  ·exact h.cel x h4
  ·have e : x = u := by simpa using h4
   rw [e]; exact hu
/- blocks of cells stay behind what an iterator writes -/
theorem cells_of7 {W : World} {g i : Nat} {v : Value} (h : W.cell? ⟨g, i, none⟩ = some v) : ∃ o : Obj, W.heap[g]? = some o ∧ o.isCells = true := by
 rcases ho : W.heap[g]? with _ | o
 ·simp [World.cell?, ho] at h
 ·refine ⟨o, rfl, ?_⟩
  rcases o <;> simp_all [World.cell?, Obj.isCells]
theorem own_blk {W X : World} {row : Option Nat} {b : Nat} {o : Obj} (h : W.heap[b]? = some o) (ho : o.isCells = true) (hg : W.grownBy X row) (hr : ∀ r, row = some r → ∃ o : Obj, W.heap[r]? = some o ∧ o.isCells = false) : X.heap[b]? = W.heap[b]? :=
 hg.block b (Array.getElem?_eq_some_iff.1 h).1 (fun e => by obtain ⟨o', h1, h2⟩ := hr b e.symm; rw [h] at h1; cases h1; rw [ho] at h2; cases h2)
theorem BRow.same {g N : Nat} {F : Nat → Bool} {W X : World} (h : BRow g N F W) (hs : W.heap.size ≤ X.heap.size) (e : X.heap[g]? = W.heap[g]?) : BRow g N F X :=
 ⟨Nat.lt_of_lt_of_le h.1 hs, fun t ht => ⟨(World.cell?_of_block (w := W) e).trans (h.2 t ht).1, (World.frozen?_of_block (w := W) e).trans (h.2 t ht).2⟩⟩
theorem keepsF_two {W W' : World} {bi bj : Nat} (B : Nat) (hT : Two bi bj W W') (hi : ∃ o : Obj, W.heap[bi]? = some o ∧ o.isCells = true) (hj : ∃ o : Obj, W.heap[bj]? = some o ∧ o.isCells = true) : KeepsFrom B W W' :=
 ⟨hT.size, fun k o _ hk ho => (hT.block k (Array.getElem?_eq_some_iff.1 hk).1 (fun e => by subst e; obtain ⟨o', h1, h2⟩ := hi; rw [hk] at h1; cases h1; rw [h2] at ho; cases ho) (fun e => by subst e; obtain ⟨o', h1, h2⟩ := hj; rw [hk] at h1; cases h1; rw [h2] at ho; cases ho)).trans hk⟩
theorem brow_new {g : Nat} {T : TypeId} {W : World} (h : W.heap[g]? = some (.cells #[.bool false, .bool false, .bool false, .bool false, .bool false, .bool false, .bool false, .bool false, .bool false, .bool false, .bool false, .bool false, .bool false, .bool false, .bool false, .bool false, .bool false, .bool false, .bool false, .bool false, .bool false, .bool false, .bool false, .bool false, .bool false, .bool false, .bool false, .bool false, .bool false, .bool false, .bool false, .bool false, .bool false, .bool false, .bool false, .bool false, .bool false, .bool false, .bool false, .bool false, .bool false, .bool false, .bool false, .bool false, .bool false, .bool false, .bool false, .bool false, .bool false, .bool false, .bool false, .bool false, .bool false, .bool false, .bool false, .bool false, .bool false, .bool false, .bool false, .bool false, .bool false, .bool false, .bool false, .bool false] T (0, 0))) : BRow g 64 (fun _ => false) W := by
 have e : (#[.bool false, .bool false, .bool false, .bool false, .bool false, .bool false, .bool false, .bool false, .bool false, .bool false, .bool false, .bool false, .bool false, .bool false, .bool false, .bool false, .bool false, .bool false, .bool false, .bool false, .bool false, .bool false, .bool false, .bool false, .bool false, .bool false, .bool false, .bool false, .bool false, .bool false, .bool false, .bool false, .bool false, .bool false, .bool false, .bool false, .bool false, .bool false, .bool false, .bool false, .bool false, .bool false, .bool false, .bool false, .bool false, .bool false, .bool false, .bool false, .bool false, .bool false, .bool false, .bool false, .bool false, .bool false, .bool false, .bool false, .bool false, .bool false, .bool false, .bool false, .bool false, .bool false, .bool false, .bool false] : Array Value) = ((List.range 64).map fun _ => Value.bool false).toArray := by rfl
 rw [e] at h
 refine ⟨(Array.getElem?_eq_some_iff.1 h).1, fun t ht => ⟨?_, by simp [World.frozen?, h]⟩⟩
 simp [World.cell?, h, ht]
theorem new7 {X : World} {z z' : Obj} {k : Nat} (hk : k = X.heap.size) (hz : z = z') : (X.alloc z).heap[k]? = some z' := by
 subst hk hz
 exact World.alloc_heap_new X z
/- the whole block read and written -/
theorem load64 {g : Nat} {I : Nat → Int} {W : World} {T : TypeId} (h : W.heap[g]? = some (.cells (rowI I) T (0, 0))) : (loadCellsFrom ⟨g, 0, none⟩ 0 64 #[]).run Tryz.prog W = .ok (rowI I) W := by
 have := run_loadCells_list (P := Tryz.prog) W ⟨g, 0, none⟩ (rowI I).toList (fun j v hv => by
  have hadd : (⟨g, 0, none⟩ : Addr).add j = ⟨g, j, none⟩ := by unfold Addr.add; split <;> simp_all
  rw [hadd, cell_of_row _ _ j _ T (0, 0) h]
  simpa using hv)
 simpa [loadCells, rowI_size] using this
theorem wpIn_load64 {F : Fence} {n : Nat} {o : Oper} {a : Act} {w : World} {K : Act → World → Prop} {Q : Exit → Act → World → Prop} (hro : F.round = none) (x : Operand) (ho : o.op = .load 100 x) (g : Nat) (I : Nat → Int) (hx : a.eval x = .pointer (some ⟨g, 0, none⟩)) (hg : ARI g I w) (h : K (a.put o.dst (.agg (rowI I))) w) : o.wpIn F n Tryz.prog a w K Q := by
 have hinf : (Tryz.prog.info? 100).map (·.size) = some 64 := by kernel_rfl
 unfold Oper.wpIn
 refine ⟨fun f hf => by simp [Oper.about, ho] at hf, ?_⟩
 rw [hro, Oper.semAt_none]
 unfold execOp
 simp only [ho, hx, Instr.loadAt, Instr.sureAddr, Sem.run_bind, Sem.run_pure, Result.andThen_ok, run_loadVar_row w g _ _ (rowI I) (0, 0) _ hg Tryz.underlying100 rfl (by rw [rowI_size]; exact hinf)]
 exact h
theorem wpIn_store64 {F : Fence} {n : Nat} {o : Oper} {a : Act} {w : World} {K : Act → World → Prop} {Q : Exit → Act → World → Prop} (hro : F.round = none) (x y : Operand) (ho : o.op = .store 100 x y) (g : Nat) (I I0 : Nat → Int) (hx : a.eval x = .pointer (some ⟨g, 0, none⟩)) (hy : a.eval y = .agg (rowI I)) (hg : ARI g I0 w) (h : K (a.put o.dst undef) (w.setRow g (rowI I))) : o.wpIn F n Tryz.prog a w K Q := by
 have hinf : (Tryz.prog.info? 100).map (·.size) = some 64 := by kernel_rfl
 unfold Oper.wpIn
 refine ⟨fun f hf => by simp [Oper.about, ho] at hf, ?_⟩
 rw [hro, Oper.semAt_none]
 unfold execOp
 simp only [ho, hx, hy, Instr.storeAt, Instr.sureAddr, Sem.run_bind, Sem.run_pure, Result.andThen_ok, run_storeVar_row w g _ _ _ (rowI I) hg (by rw [rowI_size]; exact hinf) (by rw [rowI_size, rowI_size]) (by simp [rowI, Value.oneCell'])]
 exact h
theorem below_row {B g : Nat} {a W : World} (h : Below B a W) (hg : B ≤ g) (cs : Array Value) : Below B a (W.setRow g cs) :=
 h.trans ⟨rfl, rfl, rfl, by simp [World.setRow], fun k hk => setRow_other W g k cs (by omega)⟩
theorem store64 {g : Nat} {I I0 : Nat → Int} {W : World} {T : TypeId} (h : W.heap[g]? = some (.cells (rowI I0) T (0, 0))) : (storeCells ⟨g, 0, none⟩ (rowI I).toList 0).run Tryz.prog W = .ok () (W.setRow g (rowI I)) := by
 have := run_storeCells_from (P := Tryz.prog) g T (rowI I).toList 0 (rowI I0) W h (by simp [rowI_size]) (fun v hv => by
  simp [rowI] at hv
  obtain ⟨n, _, rfl⟩ := hv
  rfl)
 simpa using this
/- what holds between the rounds -/
structure TInv (p q : Nat) (B : Int) (G : List M6) (bi bj bc bn : Nat) (Bs : List Nat) (W0 : World) (F : List V2) (W : World) : Prop where
 st : ∃ J I, TMid (p : Int) B (q : Int) G F J I ∧ ARI bi I W ∧ BRow bj 64 J W
 ct : W.heap[bc]? = some (.cells #[.int .i64 (F.length : Nat)] 2 (0, 0))
 nt : W.heap[bn]? = some (.cells #[.int .i64 (p : Int), .int .i64 B, .int .i64 (q : Int)] 32 (0, 0))
 bs : ∀ b ∈ Bs, W.heap[b]? = W0.heap[b]? ∧ ∃ o : Obj, W0.heap[b]? = some o ∧ o.isCells = true
theorem TInv.call {p q : Nat} {B : Int} {G : List M6} {bi bj bc bn : Nat} {Bs : List Nat} {W0 W w1 : World} {F : List V2} (h : TInv p q B G bi bj bc bn Bs W0 F W) (hb : Below W.heap.size W w1) : TInv p q B G bi bj bc bn Bs W0 F w1 := by
 obtain ⟨⟨J, I, h1, h2, h3⟩, h4, h5, h6⟩ := h
 refine ⟨⟨J, I, h1, h2.call hb, h3.call hb⟩, (hb.block _ (Array.getElem?_eq_some_iff.1 h4).1).trans h4, (hb.block _ (Array.getElem?_eq_some_iff.1 h5).1).trans h5, fun b hm => ?_⟩
 obtain ⟨e, o, k1, k2⟩ := h6 b hm
 exact ⟨(hb.block _ (by rw [k1] at e; exact (Array.getElem?_eq_some_iff.1 e).1)).trans e, o, k1, k2⟩
theorem TInv.own {p q : Nat} {B : Int} {G : List M6} {bi bj bc bn : Nat} {Bs : List Nat} {W0 : World} {β : Type} (Fs : β → List V2) (Bx : Nat) : OwnFrom Bx (fun s W => TInv p q B G bi bj bc bn Bs W0 (Fs s) W) := fun s W X row h hg hr => by
 have hr2 : ∀ r, row = some r → ∃ o : Obj, W.heap[r]? = some o ∧ o.isCells = false := fun r e => (hr r e).2
 obtain ⟨⟨J, I, h1, h2, h3⟩, h4, h5, h6⟩ := h
 obtain ⟨oj, j1, j2⟩ := cells_of7 (h3.at 0 (by omega))
 refine ⟨⟨J, I, h1, (own_blk h2 rfl hg hr2).trans h2, h3.same hg.size (own_blk j1 j2 hg hr2)⟩, (own_blk h4 rfl hg hr2).trans h4, (own_blk h5 rfl hg hr2).trans h5, fun b hm => ?_⟩
 obtain ⟨e, o, k1, k2⟩ := h6 b hm
 exact ⟨(own_blk (e.trans k1) k2 hg hr2).trans e, o, k1, k2⟩
def orbF (p q : Nat) (B : Int) (G : List M6) : List V2 := fstL (p : Int) B (q : Int) G (cellP q p)
def OrbAns (p q : Nat) (B : Int) (G : List M6) (w : World) (e : Ending) (w' : World) : Prop :=
 ∃ J I, e = .returned (.tuple #[.agg (rowI I), .int .i64 ((orbF p q B G).length : Nat)]) ∧ TMid (p : Int) B (q : Int) G (orbF p q B G) J I ∧ Below w.heap.size w w'
set_option maxRecDepth 100000 in
set_option maxHeartbeats 16000000 in
theorem orbI_any {f : Int} {p q : Nat} {B : Int} {G : List M6} {gm cap : Nat} {w : World} (hG : grpB f (p : Int) B (q : Int) G = true) (hg : IRow gm (G.length * 6) (fm G) w) :
  Calls Tryz.prog 59 #[.agg #[.int .i64 ((p : Int)), .int .i64 B, .int .i64 ((q : Int))], .slice (some ⟨gm, 0, none⟩) G.length cap] w (OrbAns p q B G w) := by
 have hl := (grp_good hG).1
 obtain ⟨hpb, hqb⟩ := latI_bd hl
 have hpq : p * q ≤ 64 := by have := latI_prod hl; exact_mod_cast this
 have HG := Lib.hid hG
 have HR := Lib.hid hg
 have HL := Lib.hid hl
 have HB := Lib.hid (show (p : Int) ≤ 64 ∧ (q : Int) ≤ 64 ∧ p * q ≤ 64 from ⟨hpb, hqb, hpq⟩)
 have hgm := hg.1
 clear hG hg hl hpb hqb hpq
 refine (callsIn_wide (n := 3)).1 ?_
 refine callsIn_of_wp_marks Tryz.func59 rfl trivial ?_ rfl
 simp only [Tryz.ntmps59, List.size_toArray, List.length_cons, List.length_nil, Nat.reduceAdd, Nat.reduceSub, Array.replicate_succ, Array.replicate_zero, List.push_toArray, List.append_toArray, List.nil_append, List.cons_append]
 gi_wp2_with (first
  | (refine ⟨trivial, ?_⟩; gi_at_call 76; refine (cellsS_in Fence.wide _ trivial rfl _ _ _ _).mono ?_; rintro e w4 ⟨rfl, rfl⟩))
 obtain ⟨W0, hW0⟩ : ∃ W0, ((((((((w.alloc (.cells #[.int .i64 (p : Int), .int .i64 B, .int .i64 (q : Int)] 32)).alloc (.cells #[.slice (some ⟨gm, 0, none⟩) G.length cap] 86)).alloc (.cells #[.int .i64 0, .int .i64 0, .int .i64 0, .int .i64 0, .int .i64 0, .int .i64 0, .int .i64 0, .int .i64 0, .int .i64 0, .int .i64 0, .int .i64 0, .int .i64 0, .int .i64 0, .int .i64 0, .int .i64 0, .int .i64 0, .int .i64 0, .int .i64 0, .int .i64 0, .int .i64 0, .int .i64 0, .int .i64 0, .int .i64 0, .int .i64 0, .int .i64 0, .int .i64 0, .int .i64 0, .int .i64 0, .int .i64 0, .int .i64 0, .int .i64 0, .int .i64 0, .int .i64 0, .int .i64 0, .int .i64 0, .int .i64 0, .int .i64 0, .int .i64 0, .int .i64 0, .int .i64 0, .int .i64 0, .int .i64 0, .int .i64 0, .int .i64 0, .int .i64 0, .int .i64 0, .int .i64 0, .int .i64 0, .int .i64 0, .int .i64 0, .int .i64 0, .int .i64 0, .int .i64 0, .int .i64 0, .int .i64 0, .int .i64 0, .int .i64 0, .int .i64 0, .int .i64 0, .int .i64 0, .int .i64 0, .int .i64 0, .int .i64 0, .int .i64 0] 100)).alloc (.cells #[.int .i64 0, .int .i64 0, .int .i64 0, .int .i64 0, .int .i64 0, .int .i64 0, .int .i64 0, .int .i64 0, .int .i64 0, .int .i64 0, .int .i64 0, .int .i64 0, .int .i64 0, .int .i64 0, .int .i64 0, .int .i64 0, .int .i64 0, .int .i64 0, .int .i64 0, .int .i64 0, .int .i64 0, .int .i64 0, .int .i64 0, .int .i64 0, .int .i64 0, .int .i64 0, .int .i64 0, .int .i64 0, .int .i64 0, .int .i64 0, .int .i64 0, .int .i64 0, .int .i64 0, .int .i64 0, .int .i64 0, .int .i64 0, .int .i64 0, .int .i64 0, .int .i64 0, .int .i64 0, .int .i64 0, .int .i64 0, .int .i64 0, .int .i64 0, .int .i64 0, .int .i64 0, .int .i64 0, .int .i64 0, .int .i64 0, .int .i64 0, .int .i64 0, .int .i64 0, .int .i64 0, .int .i64 0, .int .i64 0, .int .i64 0, .int .i64 0, .int .i64 0, .int .i64 0, .int .i64 0, .int .i64 0, .int .i64 0, .int .i64 0, .int .i64 0] 100)).alloc (.cells #[.bool false, .bool false, .bool false, .bool false, .bool false, .bool false, .bool false, .bool false, .bool false, .bool false, .bool false, .bool false, .bool false, .bool false, .bool false, .bool false, .bool false, .bool false, .bool false, .bool false, .bool false, .bool false, .bool false, .bool false, .bool false, .bool false, .bool false, .bool false, .bool false, .bool false, .bool false, .bool false, .bool false, .bool false, .bool false, .bool false, .bool false, .bool false, .bool false, .bool false, .bool false, .bool false, .bool false, .bool false, .bool false, .bool false, .bool false, .bool false, .bool false, .bool false, .bool false, .bool false, .bool false, .bool false, .bool false, .bool false, .bool false, .bool false, .bool false, .bool false, .bool false, .bool false, .bool false, .bool false] 140)).alloc (.cells #[.int .i64 0] 2)).alloc (.cells #[(.func (.func 91) #[] #[.pointer (some ⟨w.heap.size, 0, none⟩), .pointer (some ⟨w.heap.size + 1 + 1 + 1 + 1, 0, none⟩), .pointer (some ⟨w.heap.size + 1 + 1 + 1 + 1 + 1, 0, none⟩), .pointer (some ⟨w.heap.size + 1 + 1 + 1, 0, none⟩), .pointer (some ⟨w.heap.size + 1, 0, none⟩), .pointer (some ⟨w.heap.size + 1 + 1 + 1 + 1 + 1 + 1, 0, none⟩)])] 141)).alloc (.cells #[.int .i64 (p : Int), .int .i64 B, .int .i64 (q : Int)] 32)) = W0 := ⟨_, rfl⟩
 have hsz : W0.heap.size = w.heap.size + 1 + 1 + 1 + 1 + 1 + 1 + 1 + 1 := by rw [← hW0]; simp
 have BW : Below w.heap.size w W0 := by
  rw [← hW0]
  exact (((((((((Below.refl _ _).alloc (Nat.le_refl _) _).alloc (by simp) _).alloc (by simp; omega) _).alloc (by simp; omega) _).alloc (by simp; omega) _).alloc (by simp; omega) _).alloc (by simp; omega) _).alloc (by simp; omega) _)
 have hN : ∀ (X : World) (z : Obj), (X.alloc z).heap[X.heap.size]? = some z := fun X z => World.alloc_heap_new X z
 have b0 : W0.heap[w.heap.size]? = some (.cells #[.int .i64 (p : Int), .int .i64 B, .int .i64 (q : Int)] 32 (0, 0)) := by rw [← hW0]; refine (Below.heap_alloc _ _ _ (by simp <;> omega)).trans ?_; refine (Below.heap_alloc _ _ _ (by simp <;> omega)).trans ?_; refine (Below.heap_alloc _ _ _ (by simp <;> omega)).trans ?_; refine (Below.heap_alloc _ _ _ (by simp <;> omega)).trans ?_; refine (Below.heap_alloc _ _ _ (by simp <;> omega)).trans ?_; refine (Below.heap_alloc _ _ _ (by simp <;> omega)).trans ?_; refine (Below.heap_alloc _ _ _ (by simp <;> omega)).trans ?_; exact new7 (by simp) rfl
 have b1 : W0.heap[w.heap.size + 1]? = some (.cells #[.slice (some ⟨gm, 0, none⟩) G.length cap] 86 (0, 0)) := by rw [← hW0]; refine (Below.heap_alloc _ _ _ (by simp <;> omega)).trans ?_; refine (Below.heap_alloc _ _ _ (by simp <;> omega)).trans ?_; refine (Below.heap_alloc _ _ _ (by simp <;> omega)).trans ?_; refine (Below.heap_alloc _ _ _ (by simp <;> omega)).trans ?_; refine (Below.heap_alloc _ _ _ (by simp <;> omega)).trans ?_; refine (Below.heap_alloc _ _ _ (by simp <;> omega)).trans ?_; exact new7 (by simp) rfl
 have b2 : ARI (w.heap.size + 1 + 1) (fun _ => 0) W0 := by unfold ARI; rw [← hW0]; refine (Below.heap_alloc _ _ _ (by simp <;> omega)).trans ?_; refine (Below.heap_alloc _ _ _ (by simp <;> omega)).trans ?_; refine (Below.heap_alloc _ _ _ (by simp <;> omega)).trans ?_; refine (Below.heap_alloc _ _ _ (by simp <;> omega)).trans ?_; refine (Below.heap_alloc _ _ _ (by simp <;> omega)).trans ?_; exact new7 (by simp) rfl
 have b3 : ARI (w.heap.size + 1 + 1 + 1) (fun _ => 0) W0 := by unfold ARI; rw [← hW0]; refine (Below.heap_alloc _ _ _ (by simp <;> omega)).trans ?_; refine (Below.heap_alloc _ _ _ (by simp <;> omega)).trans ?_; refine (Below.heap_alloc _ _ _ (by simp <;> omega)).trans ?_; refine (Below.heap_alloc _ _ _ (by simp <;> omega)).trans ?_; exact new7 (by simp) rfl
 have b4 : W0.heap[w.heap.size + 1 + 1 + 1 + 1]? = some (.cells #[.bool false, .bool false, .bool false, .bool false, .bool false, .bool false, .bool false, .bool false, .bool false, .bool false, .bool false, .bool false, .bool false, .bool false, .bool false, .bool false, .bool false, .bool false, .bool false, .bool false, .bool false, .bool false, .bool false, .bool false, .bool false, .bool false, .bool false, .bool false, .bool false, .bool false, .bool false, .bool false, .bool false, .bool false, .bool false, .bool false, .bool false, .bool false, .bool false, .bool false, .bool false, .bool false, .bool false, .bool false, .bool false, .bool false, .bool false, .bool false, .bool false, .bool false, .bool false, .bool false, .bool false, .bool false, .bool false, .bool false, .bool false, .bool false, .bool false, .bool false, .bool false, .bool false, .bool false, .bool false] 140 (0, 0)) := by rw [← hW0]; refine (Below.heap_alloc _ _ _ (by simp <;> omega)).trans ?_; refine (Below.heap_alloc _ _ _ (by simp <;> omega)).trans ?_; refine (Below.heap_alloc _ _ _ (by simp <;> omega)).trans ?_; exact new7 (by simp) rfl
 have b5 : W0.heap[w.heap.size + 1 + 1 + 1 + 1 + 1]? = some (.cells #[.int .i64 (((fstL (p : Int) B (q : Int) G (([] : List (CV p q)).map Subtype.val)).length : Nat) : Int)] 2 (0, 0)) := by rw [← hW0]; refine (Below.heap_alloc _ _ _ (by simp <;> omega)).trans ?_; refine (Below.heap_alloc _ _ _ (by simp <;> omega)).trans ?_; exact new7 (by simp) rfl
 have b6 : W0.heap[w.heap.size + 1 + 1 + 1 + 1 + 1 + 1]? = some (.cells #[(.func (.func 91) #[] #[.pointer (some ⟨w.heap.size, 0, none⟩), .pointer (some ⟨w.heap.size + 1 + 1 + 1 + 1, 0, none⟩), .pointer (some ⟨w.heap.size + 1 + 1 + 1 + 1 + 1, 0, none⟩), .pointer (some ⟨w.heap.size + 1 + 1 + 1, 0, none⟩), .pointer (some ⟨w.heap.size + 1, 0, none⟩), .pointer (some ⟨w.heap.size + 1 + 1 + 1 + 1 + 1 + 1, 0, none⟩)])] 141 (0, 0)) := by rw [← hW0]; refine (Below.heap_alloc _ _ _ (by simp <;> omega)).trans ?_; exact new7 (by simp) rfl
 have b7 : W0.heap[w.heap.size + 1 + 1 + 1 + 1 + 1 + 1 + 1]? = some (.cells #[.int .i64 (p : Int), .int .i64 B, .int .i64 (q : Int)] 32 (0, 0)) := by rw [← hW0]; exact new7 (by simp) rfl
 have T0 : TInv p q B G (w.heap.size + 1 + 1 + 1) (w.heap.size + 1 + 1 + 1 + 1) (w.heap.size + 1 + 1 + 1 + 1 + 1) (w.heap.size + 1 + 1 + 1 + 1 + 1 + 1 + 1) [w.heap.size, w.heap.size + 1, w.heap.size + 1 + 1 + 1 + 1 + 1 + 1] W0 (fstL (p : Int) B (q : Int) G (([] : List (CV p q)).map Subtype.val)) W0 := by
  refine ⟨⟨fun _ => false, fun _ => 0, TMid.start _ _ _ _, b3, brow_new b4⟩, b5, b7, fun b hb => ⟨rfl, ?_⟩⟩
  simp only [List.mem_cons, List.not_mem_nil, or_false] at hb
  rcases hb with rfl | rfl | rfl
  ·exact ⟨_, b0, rfl⟩
  ·exact ⟨_, b1, rfl⟩
  ·exact ⟨_, b6, rfl⟩
 have cA : W0.cell? ⟨w.heap.size + 1 + 1 + 1 + 1 + 1 + 1 + 1, 0, none⟩ = some (.int .i64 (p : Int)) := by simp [World.cell?, b7]
 have cC : W0.cell? ⟨w.heap.size + 1 + 1 + 1 + 1 + 1 + 1 + 1, 2, none⟩ = some (.int .i64 (q : Int)) := by simp [World.cell?, b7]
 have HB0 := Lib.hid b0
 have HB1 := Lib.hid b1
 have HB2 := Lib.hid b2
 have HB6 := Lib.hid b6
 rw [hW0]
 clear hW0 b0 b1 b2 b3 b4 b5 b6 b7 hN
 have hz := BW.size
 refine wpIn_rangeFunc_ownH rfl (by omega) (gf := 111) (lb := #[.pointer (some ⟨w.heap.size + 1 + 1 + 1 + 1 + 1 + 1 + 1, 0, none⟩)]) rfl trivial (enters_of Tryz.func111 (by kernel_rfl) rfl)
  (cellsS_stops Fence.wide (3 - 1) trivial rfl (by omega) (w.heap.size + 1 + 1 + 1 + 1 + 1 + 1 + 1) p q (by have := HB.out.1; omega) (by have := HB.out.2.1; omega) W0 (by omega) cA cC) (fun h k => Eq.trans k h) (keepC_b (by omega)) (Below.refl _ _) (fun _ => rfl)
  (fun pre W => (TInv p q B G (w.heap.size + 1 + 1 + 1) (w.heap.size + 1 + 1 + 1 + 1) (w.heap.size + 1 + 1 + 1 + 1 + 1) (w.heap.size + 1 + 1 + 1 + 1 + 1 + 1 + 1) [w.heap.size, w.heap.size + 1, w.heap.size + 1 + 1 + 1 + 1 + 1 + 1] W0 (fstL (p : Int) B (q : Int) G (pre.map Subtype.val)) W ∧ W.heap[w.heap.size + 1 + 1]? = W0.heap[w.heap.size + 1 + 1]?) ∧ Below w.heap.size w W)
  (fun _ _ _ => False)
  (OwnFrom.and (OwnFrom.and (TInv.own (fun pre : List (CV p q) => fstL (p : Int) B (q : Int) G (pre.map Subtype.val)) _) (fun s W X row (h : W.heap[w.heap.size + 1 + 1]? = W0.heap[w.heap.size + 1 + 1]?) hg hr => (own_blk (h.trans HB2.out) rfl hg (fun r e => (hr r e).2)).trans h)) (ownFrom_below (Nat.le_refl _) hz))
  (fun _ _ _ _ _ hs _ _ => hs)
  ⟨⟨T0, rfl⟩, BW⟩
  (fun xx a' W => ∃ Bx, w.heap.size + 1 + 1 + 1 + 1 + 1 + 1 + 1 < Bx ∧ W.heap[Bx]? = some (.cells #[.int .i64 xx.1.1, .int .i64 xx.1.2] 55 (0, 0)) ∧ a' = { tmps := #[.agg #[.int .i64 ((p : Int)), .int .i64 B, .int .i64 ((q : Int))], .slice (some ⟨gm, 0, none⟩) G.length cap, .pointer (some ⟨w.heap.size, 0, none⟩), .pointer (some ⟨w.heap.size + 1, 0, none⟩), .pointer (some ⟨w.heap.size + 1 + 1, 0, none⟩), .int .i64 0, .pointer (some ⟨w.heap.size + 1 + 1 + 1, 0, none⟩), .pointer (some ⟨w.heap.size + 1 + 1 + 1 + 1, 0, none⟩), .pointer (some ⟨w.heap.size + 1 + 1 + 1 + 1 + 1, 0, none⟩), .pointer (some ⟨w.heap.size + 1 + 1 + 1 + 1 + 1 + 1, 0, none⟩), .pointer (some ⟨Bx, 0, none⟩), .func (.func 91) #[] #[.pointer (some ⟨w.heap.size, 0, none⟩), .pointer (some ⟨w.heap.size + 1 + 1 + 1 + 1, 0, none⟩), .pointer (some ⟨w.heap.size + 1 + 1 + 1 + 1 + 1, 0, none⟩), .pointer (some ⟨w.heap.size + 1 + 1 + 1, 0, none⟩), .pointer (some ⟨w.heap.size + 1, 0, none⟩), .pointer (some ⟨w.heap.size + 1 + 1 + 1 + 1 + 1 + 1, 0, none⟩)], .agg #[.int .i64 ((p : Int)), .int .i64 B, .int .i64 ((q : Int))], .func (.func 111) #[] #[.pointer (some ⟨w.heap.size + 1 + 1 + 1 + 1 + 1 + 1 + 1, 0, none⟩)], .agg #[.int .i64 xx.1.1, .int .i64 xx.1.2], undef, undef, undef, undef, undef, undef, undef, undef, undef, undef, undef, undef, undef], defers := [] })
  (fun x a' _ X Y row hs hg hr => by obtain ⟨Bx, h1, h2, h3⟩ := hs; exact ⟨Bx, h1, at_ownC Bx _ rfl () X Y row h2 hg (fun r e => (hr r e).2), h3⟩)
  ?assign ?body ?done ?stop
 case assign =>
  rintro l pre xx W K ⟨⟨hT, hR⟩, hB1⟩ hK
  gi_wp2
  have hltN := (Array.getElem?_eq_some_iff.1 hT.nt).1
  have hBA : Below W.heap.size W (W.alloc (.cells #[.int .i64 xx.1.1, .int .i64 xx.1.2] 55)) := (Below.refl _ _).alloc (Nat.le_refl _) _
  refine hK _ _ ((KeepsOthers.alloc _ _).from _) (hBA.block _ hltN) ⟨⟨hT.call hBA, (hBA.block _ (by rw [HB2.out] at hR; exact (Array.getElem?_eq_some_iff.1 hR).1)).trans hR⟩, hB1.alloc hB1.size _⟩ ⟨W.heap.size, hltN, World.alloc_heap_new W _, rfl⟩
 case body =>
  rintro l pre xx a' W hl ⟨r, hr⟩ ⟨⟨hT, hR⟩, hB1⟩ ⟨Bx, hBx, bX, rfl⟩ hlt
  obtain ⟨⟨x0, x1⟩, hx⟩ := xx
  dsimp only at bX
  have hTT := Lib.hid hT
  obtain ⟨⟨J, I, hM, hI, hJ⟩, hC, hN, hS⟩ := hT
  have hcel : celB (p : Int) (q : Int) (x0, x1) = true := celB_iff.2 hx
  obtain ⟨s0, _⟩ := hS (w.heap.size) (by simp)
  obtain ⟨s1, _⟩ := hS (w.heap.size + 1) (by simp)
  obtain ⟨s2, _⟩ := hS (w.heap.size + 1 + 1 + 1 + 1 + 1 + 1) (by simp)
  rw [HB0.out] at s0
  rw [HB1.out] at s1
  rw [HB6.out] at s2
  have lX := (Array.getElem?_eq_some_iff.1 bX).1
  have lN := (Array.getElem?_eq_some_iff.1 hN).1
  have lC := (Array.getElem?_eq_some_iff.1 hC).1
  have KL : Kt (w.heap.size) (p : Int) B (q : Int) W := ⟨(Array.getElem?_eq_some_iff.1 s0).1, by simp [World.cell?, s0], by simp [World.cell?, s0], by simp [World.cell?, s0]⟩
  have KM : K1 (w.heap.size + 1) (.slice (some ⟨gm, 0, none⟩) G.length cap) W := ⟨(Array.getElem?_eq_some_iff.1 s1).1, by simp [World.cell?, s1]⟩
  have KF : K1 (w.heap.size + 1 + 1 + 1 + 1 + 1 + 1) (.func (.func 91) #[] #[.pointer (some ⟨w.heap.size, 0, none⟩), .pointer (some ⟨w.heap.size + 1 + 1 + 1 + 1, 0, none⟩), .pointer (some ⟨w.heap.size + 1 + 1 + 1 + 1 + 1, 0, none⟩), .pointer (some ⟨w.heap.size + 1 + 1 + 1, 0, none⟩), .pointer (some ⟨w.heap.size + 1, 0, none⟩), .pointer (some ⟨w.heap.size + 1 + 1 + 1 + 1 + 1 + 1, 0, none⟩)]) W := ⟨(Array.getElem?_eq_some_iff.1 s2).1, by simp [World.cell?, s2]⟩
  have KX : Kg Bx x0 x1 W := ⟨lX, by simp [World.cell?, bX], by simp [World.cell?, bX]⟩
  have KCc : K1 (w.heap.size + 1 + 1 + 1 + 1 + 1) (.int .i64 (((fstL (p : Int) B (q : Int) G (pre.map Subtype.val)).length : Nat) : Int)) W := ⟨lC, by simp [World.cell?, hC]⟩
  have kcf : W.frozen? ⟨w.heap.size + 1 + 1 + 1 + 1 + 1, 0, none⟩ = false := by simp [World.frozen?, hC]
  have KG : IRow gm (G.length * 6) (fm G) W := HR.out.grow hB1 hgm
  have hk := nb_64 HL.out hcel
  have CN := Lib.hid (fun W => number_any7 (p : Int) B (q : Int) x0 x1 W HL.out hcel)
  have hmp : ((pre ++ [(⟨(x0, x1), hx⟩ : CV p q)]).map Subtype.val) = pre.map Subtype.val ++ [(x0, x1)] := by simp
  have HSN := Lib.hid (show fstL (p : Int) B (q : Int) G ((pre ++ [(⟨(x0, x1), hx⟩ : CV p q)]).map Subtype.val) = fstF (p : Int) B (q : Int) G (fstL (p : Int) B (q : Int) G (pre.map Subtype.val)) (x0, x1) by rw [hmp, fstL_snoc])
  have HLN := Lib.hid (show (fstL (p : Int) B (q : Int) G (pre.map Subtype.val)).length ≤ 64 from Nat.le_trans (fstL_len _ _ _ _ _) (by rw [List.length_map]; have := HB.out.2.2; omega))
  have HCE := Lib.hid hcel
  have HMM := Lib.hid hM
  clear hmp s0 s1 s2 hS hM
  generalize fstL (p : Int) B (q : Int) G (pre.map Subtype.val) = Fp at *
  have hnn := HLN.out
  have HK := Lib.hid hk
  have HX7 := Lib.hid (show JFix (p : Int) B (q : Int) ((Fp.length : Nat) : Int) G (w.heap.size) (w.heap.size + 1 + 1 + 1 + 1 + 1) (w.heap.size + 1) (w.heap.size + 1 + 1 + 1 + 1 + 1 + 1) gm cap (.func (.func 91) #[] #[.pointer (some ⟨w.heap.size, 0, none⟩), .pointer (some ⟨w.heap.size + 1 + 1 + 1 + 1, 0, none⟩), .pointer (some ⟨w.heap.size + 1 + 1 + 1 + 1 + 1, 0, none⟩), .pointer (some ⟨w.heap.size + 1 + 1 + 1, 0, none⟩), .pointer (some ⟨w.heap.size + 1, 0, none⟩), .pointer (some ⟨w.heap.size + 1 + 1 + 1 + 1 + 1 + 1, 0, none⟩)]) W from ⟨KL, KCc, KM, KF, KG⟩)
  have HI7 := Lib.hid hI
  have HJ7 := Lib.hid hJ
  have HKX := Lib.hid KX
  have HC7 := Lib.hid hC
  have HR7 := Lib.hid hR
  obtain ⟨l0, l1, l2, l3⟩ := id KL
  obtain ⟨x00, x01, x02⟩ := id KX
  have kf := KF.c
  have hfo : Tryz.prog.follows Departure.mixedOrders = true := by kernel_rfl
  rcases hy : J (nb (q : Int) (x0, x1)) with _ | _
  ·have CJ : Hid (∀ W', JFix (p : Int) B (q : Int) ((Fp.length : Nat) : Int) G (w.heap.size) (w.heap.size + 1 + 1 + 1 + 1 + 1) (w.heap.size + 1) (w.heap.size + 1 + 1 + 1 + 1 + 1 + 1) gm cap (.func (.func 91) #[] #[.pointer (some ⟨w.heap.size, 0, none⟩), .pointer (some ⟨w.heap.size + 1 + 1 + 1 + 1, 0, none⟩), .pointer (some ⟨w.heap.size + 1 + 1 + 1 + 1 + 1, 0, none⟩), .pointer (some ⟨w.heap.size + 1 + 1 + 1, 0, none⟩), .pointer (some ⟨w.heap.size + 1, 0, none⟩), .pointer (some ⟨w.heap.size + 1 + 1 + 1 + 1 + 1 + 1, 0, none⟩)]) W' → ARI (w.heap.size + 1 + 1 + 1) I W' → BRow (w.heap.size + 1 + 1 + 1 + 1) 64 J W' → Calls Tryz.prog 91 #[.agg #[.int .i64 x0, .int .i64 x1], .pointer (some ⟨w.heap.size, 0, none⟩), .pointer (some ⟨w.heap.size + 1 + 1 + 1 + 1, 0, none⟩), .pointer (some ⟨w.heap.size + 1 + 1 + 1 + 1 + 1, 0, none⟩), .pointer (some ⟨w.heap.size + 1 + 1 + 1, 0, none⟩), .pointer (some ⟨w.heap.size + 1, 0, none⟩), .pointer (some ⟨w.heap.size + 1 + 1 + 1 + 1 + 1 + 1, 0, none⟩)] W' (JAns (p : Int) B (q : Int) G ((Fp.length : Nat) : Int) (w.heap.size + 1 + 1 + 1) (w.heap.size + 1 + 1 + 1 + 1) J I (x0, x1) W')) := Lib.hid (fun W' h1 h2 h3 => join_any HG.out (by omega) _ J I x0 x1 W' (Nat.le_refl _) HCE.out h1 h2 h3)
   have HJN : Hid (∀ J2 I2, JPost (p : Int) B (q : Int) G ((Fp.length : Nat) : Int) J I (x0, x1) J2 I2 → fstF (p : Int) B (q : Int) G Fp (x0, x1) = Fp ++ [(x0, x1)] ∧ TMid (p : Int) B (q : Int) G (Fp ++ [(x0, x1)]) J2 I2) := Lib.hid (fun J2 I2 h => TMid.join HG.out HMM.out HCE.out hy h)
   generalize nb (q : Int) (x0, x1) = k at *
   have jc := HJ7.out.at k HK.out
   rw [hy] at jc
   clear hI hJ hr hlt hl hcel hy KL KM KF KX KCc KG bX
   have hk2 : (k : Int) < 64 := by have := HK.out; omega
   gi_wp2_with (first
    | (refine ⟨trivial, ?_⟩; gi_at_call 66; refine (CallsIn.inRound l (callsIn_wide.2 (CN.out _))).mono ?_; rintro e w5 ⟨rfl, hb5⟩; have jc5 : w5.cell? ⟨w.heap.size + 1 + 1 + 1 + 1, k, none⟩ = some (.bool false) := (hb5.cell (p := ⟨w.heap.size + 1 + 1 + 1 + 1, k, none⟩) HJ7.out.1).trans jc; have kf5 : w5.cell? ⟨w.heap.size + 1 + 1 + 1 + 1 + 1 + 1, 0, none⟩ = some (.func (.func 91) #[] #[.pointer (some ⟨w.heap.size, 0, none⟩), .pointer (some ⟨w.heap.size + 1 + 1 + 1 + 1, 0, none⟩), .pointer (some ⟨w.heap.size + 1 + 1 + 1 + 1 + 1, 0, none⟩), .pointer (some ⟨w.heap.size + 1 + 1 + 1, 0, none⟩), .pointer (some ⟨w.heap.size + 1, 0, none⟩), .pointer (some ⟨w.heap.size + 1 + 1 + 1 + 1 + 1 + 1, 0, none⟩)]) := (hb5.cell (p := ⟨w.heap.size + 1 + 1 + 1 + 1 + 1 + 1, 0, none⟩) HX7.out.f.1).trans kf; have x51 : w5.cell? ⟨Bx, 0, none⟩ = some (.int .i64 x0) := (hb5.cell (p := ⟨Bx, 0, none⟩) x00).trans x01; have x52 : w5.cell? ⟨Bx, 1, none⟩ = some (.int .i64 x1) := (hb5.cell (p := ⟨Bx, 1, none⟩) x00).trans x02)
    | (refine ⟨trivial, ?_⟩; gi_at_call 91; refine (CallsIn.inRound l (callsIn_wide.2 (CJ.out _ (HX7.out.call hb5) (HI7.out.call hb5) (HJ7.out.call hb5)))).mono ?_; rintro e w6 hh; unfold JAns at hh; obtain ⟨rfl, J2, I2, hp2, hI2, hJ2, hT2⟩ := hh; have hC6 : w6.heap[w.heap.size + 1 + 1 + 1 + 1 + 1]? = some (.cells #[.int .i64 ((Fp.length : Nat) : Int)] 2 (0, 0)) := (hT2.block _ (Nat.lt_of_lt_of_le lC hb5.size) (by omega) (by omega)).trans ((hb5.block _ lC).trans HC7.out); have kc6 : w6.cell? ⟨w.heap.size + 1 + 1 + 1 + 1 + 1, 0, none⟩ = some (.int .i64 ((Fp.length : Nat) : Int)) := (by simp [World.cell?, hC6]); have kf6 : w6.frozen? ⟨w.heap.size + 1 + 1 + 1 + 1 + 1, 0, none⟩ = false := (by simp [World.frozen?, hC6])))
   all_goals
    gi_wp2
    have z5 := hb5.size
    have z6 := hT2.size
    obtain ⟨hF2, hM2⟩ := HJN.out J2 I2 hp2
    have hI5 := HI7.out.call hb5
    have hJ5 := HJ7.out.call hb5
    have bq5 : Boxed w6 (w.heap.size + 1 + 1 + 1 + 1 + 1) 2 (.int .i64 ((Fp.length : Nat) : Int)) := hC6
    have e6 := bq5.set (.int .i64 (((Fp.length : Nat) : Int) + 1))
    have hBT : Below w.heap.size w w6 := Two.below hT2 (hB1.trans (hb5.mono hB1.size)) (Nat.le_refl _) (by omega) (by omega)
    have lR : w.heap.size + 1 + 1 < W.heap.size := by rw [HB2.out] at hR; exact (Array.getElem?_eq_some_iff.1 hR).1
    refine ⟨((keepsF_below _ hb5).trans (keepsF_two _ hT2 ⟨_, hI5, rfl⟩ (cells_of7 (hJ5.at 0 (by omega))))).trans ((KeepsOthers.setCell w6 ⟨w.heap.size + 1 + 1 + 1 + 1 + 1, 0, none⟩ _).from _), (Below.heap_setCell w6 ⟨w.heap.size + 1 + 1 + 1 + 1 + 1, 0, none⟩ _ (w.heap.size + 1 + 1 + 1 + 1 + 1 + 1 + 1) (by dsimp only; omega)).trans ((hT2.block _ (by omega) (by omega) (by omega)).trans (hb5.block _ lN)), ⟨⟨?_, (Below.heap_setCell w6 ⟨w.heap.size + 1 + 1 + 1 + 1 + 1, 0, none⟩ _ (w.heap.size + 1 + 1) (by dsimp only; omega)).trans ((hT2.block _ (by omega) (by omega) (by omega)).trans ((hb5.block _ lR).trans hR))⟩, hBT.setCell (by dsimp only; omega) _⟩⟩
    rw [HSN.out, hF2]
    refine ⟨⟨J2, I2, hM2, ARI.far (by dsimp only; omega) hI2, BRow.far (by dsimp only; omega) hJ2⟩, ?_, (Below.heap_setCell w6 ⟨w.heap.size + 1 + 1 + 1 + 1 + 1, 0, none⟩ _ (w.heap.size + 1 + 1 + 1 + 1 + 1 + 1 + 1) (by dsimp only; omega)).trans ((hT2.block _ (by omega) (by omega) (by omega)).trans ((hb5.block _ lN).trans hN)), fun b hb => ?_⟩
    ·simpa [Boxed] using e6
    ·obtain ⟨e, o, k1, k2⟩ := hTT.out.bs b hb
     have lb : b < W.heap.size := by rw [k1] at e; exact (Array.getElem?_eq_some_iff.1 e).1
     have hbb : b = w.heap.size ∨ b = w.heap.size + 1 ∨ b = w.heap.size + 1 + 1 + 1 + 1 + 1 + 1 := by simpa using hb
     refine ⟨?_, o, k1, k2⟩
     exact (Below.heap_setCell w6 ⟨w.heap.size + 1 + 1 + 1 + 1 + 1, 0, none⟩ _ b (by dsimp only; omega)).trans ((hT2.block _ (by omega) (by omega) (by omega)).trans ((hb5.block _ lb).trans e))
  ·have HSK := Lib.hid (TMid.skip HMM.out HCE.out hy)
   generalize nb (q : Int) (x0, x1) = k at *
   have jc := HJ7.out.at k HK.out
   rw [hy] at jc
   clear hI hJ hr hlt hl hcel hy KL KM KF KX KCc KG bX
   have hk2 : (k : Int) < 64 := by have := HK.out; omega
   gi_wp2_with (refine ⟨trivial, ?_⟩; gi_at_call 66; refine (CallsIn.inRound l (callsIn_wide.2 (CN.out _))).mono ?_; rintro e w5 ⟨rfl, hb5⟩; have jc5 : w5.cell? ⟨w.heap.size + 1 + 1 + 1 + 1, k, none⟩ = some (.bool true) := (hb5.cell (p := ⟨w.heap.size + 1 + 1 + 1 + 1, k, none⟩) HJ7.out.1).trans jc)
   refine ⟨keepsF_below _ hb5, hb5.block _ lN, ⟨⟨?_, (hb5.block _ (by rw [HB2.out] at hR; exact (Array.getElem?_eq_some_iff.1 hR).1)).trans hR⟩, hB1.trans (hb5.mono hB1.size)⟩⟩
   rw [HSN.out, HSK.out]
   exact hTT.out.call hb5
 case done =>
  rintro D zs W hD hzs ⟨⟨hT, hR⟩, hB1⟩ hKD
  obtain ⟨⟨J, I, hM, hI, hJ⟩, hC, hN, hS⟩ := hT
  rw [hzs] at hM hC
  rw [HB2.out] at hR
  have hfo : Tryz.prog.follows Departure.mixedOrders = true := by kernel_rfl
  have hl1 : (loadCellsFrom ⟨w.heap.size + 1 + 1 + 1, 0, none⟩ 0 64 #[]).run Tryz.prog W.drew = .ok (rowI I) W.drew := load64 (W := W.drew) hI
  have hs1 : (storeCells ⟨w.heap.size + 1 + 1, 0, none⟩ (rowI I).toList 0).run Tryz.prog W.drew = .ok () (W.drew.setRow (w.heap.size + 1 + 1) (rowI I)) := store64 (W := W.drew) hR
  have hRR : (W.drew.setRow (w.heap.size + 1 + 1) (rowI I)).heap[w.heap.size + 1 + 1]? = some (.cells (rowI I) 100 (0, 0)) := setRow_heap W.drew _ _ _ _ _ hR
  have hl2 : (loadCellsFrom ⟨w.heap.size + 1 + 1, 0, none⟩ 0 64 #[]).run Tryz.prog (W.drew.setRow (w.heap.size + 1 + 1) (rowI I)) = .ok (rowI I) (W.drew.setRow (w.heap.size + 1 + 1) (rowI I)) := load64 hRR
  have kc1 : W.cell? ⟨w.heap.size + 1 + 1 + 1 + 1 + 1, 0, none⟩ = some (.int .i64 ((fstL (p : Int) B (q : Int) G (cellP q p)).length : Nat)) := by simp [World.cell?, hC]
  have kc2 : (W.drew.setRow (w.heap.size + 1 + 1) (rowI I)).cell? ⟨w.heap.size + 1 + 1 + 1 + 1 + 1, 0, none⟩ = some (.int .i64 ((fstL (p : Int) B (q : Int) G (cellP q p)).length : Nat)) := by rw [cell_setRow_other _ _ _ _ (by dsimp only; omega)]; exact kc1
  have hIW : ARI (w.heap.size + 1 + 1 + 1) I W.drew := hI
  have hRW : ARI (w.heap.size + 1 + 1) (fun _ => 0) W.drew := hR
  have kcd : W.drew.cell? ⟨w.heap.size + 1 + 1 + 1 + 1 + 1, 0, none⟩ = some (.int .i64 ((fstL (p : Int) B (q : Int) G (cellP q p)).length : Nat)) := kc1
  gi_wp2_with fail
  refine wpIn_region_any (by assumption) ?_
  try (change wpAnyIn _ _ _ _ _ _ _ _ _ (World.drew _))
  refine wpAnyIn_ready (rs := [0, 1]) (by kernel_rfl) (by simp) ?_
  refine AllReadyIn.cons rfl (fun K hK => ?_) ?_
  ·rw [if_pos (by rfl)]
   refine wpIn_load64 rfl (.tmp 6) rfl _ I rfl hIW ?_
   refine hK _ _ ?_
   clear hK K
   refine wpAnyIn_ready (rs := [1, 2]) (by kernel_rfl) (by simp) ?_
   refine AllReadyIn.cons rfl (fun K hK => ?_) ?_
   ·go_simp
    refine hK _ _ ?_
    clear hK K
    refine wpAnyIn_ready (rs := [2]) (by kernel_rfl) (by simp) ?_
    refine AllReadyIn.cons rfl (fun K hK => ?_) ?_
    ·rw [if_pos (by rfl)]
     refine wpIn_store64 rfl (.tmp 4) (.tmp 26) rfl _ I _ rfl rfl hRW ?_
     refine hK _ _ ?_
     clear hK K
     refine wpAnyIn_ready (rs := [3]) (by kernel_rfl) (by simp) ?_
     refine AllReadyIn.cons rfl (fun K hK => ?_) ?_
     ·go_simp
      refine hK _ _ ?_
      clear hK K
      refine wpAnyIn_done (by kernel_rfl) ?_ _
      gi_wp2
      have hDne : D ≠ w.heap.size + 1 + 1 := fun e => by
       rw [e, hR] at hKD
       cases hKD
      have hKD2 : (W.drew.setRow (w.heap.size + 1 + 1) (rowI I)).heap[D]? = some (.deferred (some [])) := (setRow_other W.drew _ _ _ hDne).trans hKD
      have hRD : ((W.drew.setRow (w.heap.size + 1 + 1) (rowI I)).putObj D (.deferred none)).heap[w.heap.size + 1 + 1]? = some (.cells (rowI I) 100 (0, 0)) := (World.putObj_heap_other (fun e => hDne e.symm)).trans hRR
      have hld := run_loadVar_row (P := Tryz.prog) _ (w.heap.size + 1 + 1) _ 100 (rowI I) (0, 0) _ hRD Tryz.underlying100 rfl (by rw [rowI_size]; kernel_rfl)
      refine ⟨by simp, .inl ⟨_, _, rfl, run_takeDeferred hKD2, ?_⟩⟩
      refine ⟨.tuple #[.agg (rowI I), .int .i64 ((fstL (p : Int) B (q : Int) G (cellP q p)).length : Nat)], ?_, J, I, rfl, hM, ?_⟩
      ·rw [results_cell_tmp rfl]
       simp [asAddr, Result.andThen, hld]
      ·exact (below_row hB1.drew (by omega) _).trans (belowK_b (w := w) (Nat.le_refl _) _ D _ _ (by omega) hKD2 rfl rfl)
     exact AllReadyIn.nil
    exact AllReadyIn.nil
   refine AllReadyIn.cons rfl (fun K hK => ?_) ?_
   ·rw [if_pos (by rfl)]
    refine wpIn_store64 rfl (.tmp 4) (.tmp 26) rfl _ I _ rfl rfl hRW ?_
    refine hK _ _ ?_
    clear hK K
    refine wpAnyIn_ready (rs := [1]) (by kernel_rfl) (by simp) ?_
    refine AllReadyIn.cons rfl (fun K hK => ?_) ?_
    ·go_simp
     refine hK _ _ ?_
     clear hK K
     refine wpAnyIn_ready (rs := [3]) (by kernel_rfl) (by simp) ?_
     refine AllReadyIn.cons rfl (fun K hK => ?_) ?_
     ·go_simp
      refine hK _ _ ?_
      clear hK K
      refine wpAnyIn_done (by kernel_rfl) ?_ _
      gi_wp2
      have hDne : D ≠ w.heap.size + 1 + 1 := fun e => by
       rw [e, hR] at hKD
       cases hKD
      have hKD2 : (W.drew.setRow (w.heap.size + 1 + 1) (rowI I)).heap[D]? = some (.deferred (some [])) := (setRow_other W.drew _ _ _ hDne).trans hKD
      have hRD : ((W.drew.setRow (w.heap.size + 1 + 1) (rowI I)).putObj D (.deferred none)).heap[w.heap.size + 1 + 1]? = some (.cells (rowI I) 100 (0, 0)) := (World.putObj_heap_other (fun e => hDne e.symm)).trans hRR
      have hld := run_loadVar_row (P := Tryz.prog) _ (w.heap.size + 1 + 1) _ 100 (rowI I) (0, 0) _ hRD Tryz.underlying100 rfl (by rw [rowI_size]; kernel_rfl)
      refine ⟨by simp, .inl ⟨_, _, rfl, run_takeDeferred hKD2, ?_⟩⟩
      refine ⟨.tuple #[.agg (rowI I), .int .i64 ((fstL (p : Int) B (q : Int) G (cellP q p)).length : Nat)], ?_, J, I, rfl, hM, ?_⟩
      ·rw [results_cell_tmp rfl]
       simp [asAddr, Result.andThen, hld]
      ·exact (below_row hB1.drew (by omega) _).trans (belowK_b (w := w) (Nat.le_refl _) _ D _ _ (by omega) hKD2 rfl rfl)
     exact AllReadyIn.nil
    exact AllReadyIn.nil
   exact AllReadyIn.nil
  refine AllReadyIn.cons rfl (fun K hK => ?_) ?_
  ·go_simp
   refine hK _ _ ?_
   clear hK K
   refine wpAnyIn_ready (rs := [0]) (by kernel_rfl) (by simp) ?_
   refine AllReadyIn.cons rfl (fun K hK => ?_) ?_
   ·rw [if_pos (by rfl)]
    refine wpIn_load64 rfl (.tmp 6) rfl _ I rfl hIW ?_
    refine hK _ _ ?_
    clear hK K
    refine wpAnyIn_ready (rs := [2]) (by kernel_rfl) (by simp) ?_
    refine AllReadyIn.cons rfl (fun K hK => ?_) ?_
    ·rw [if_pos (by rfl)]
     refine wpIn_store64 rfl (.tmp 4) (.tmp 26) rfl _ I _ rfl rfl hRW ?_
     refine hK _ _ ?_
     clear hK K
     refine wpAnyIn_ready (rs := [3]) (by kernel_rfl) (by simp) ?_
     refine AllReadyIn.cons rfl (fun K hK => ?_) ?_
     ·go_simp
      refine hK _ _ ?_
      clear hK K
      refine wpAnyIn_done (by kernel_rfl) ?_ _
      gi_wp2
      have hDne : D ≠ w.heap.size + 1 + 1 := fun e => by
       rw [e, hR] at hKD
       cases hKD
      have hKD2 : (W.drew.setRow (w.heap.size + 1 + 1) (rowI I)).heap[D]? = some (.deferred (some [])) := (setRow_other W.drew _ _ _ hDne).trans hKD
      have hRD : ((W.drew.setRow (w.heap.size + 1 + 1) (rowI I)).putObj D (.deferred none)).heap[w.heap.size + 1 + 1]? = some (.cells (rowI I) 100 (0, 0)) := (World.putObj_heap_other (fun e => hDne e.symm)).trans hRR
      have hld := run_loadVar_row (P := Tryz.prog) _ (w.heap.size + 1 + 1) _ 100 (rowI I) (0, 0) _ hRD Tryz.underlying100 rfl (by rw [rowI_size]; kernel_rfl)
      refine ⟨by simp, .inl ⟨_, _, rfl, run_takeDeferred hKD2, ?_⟩⟩
      refine ⟨.tuple #[.agg (rowI I), .int .i64 ((fstL (p : Int) B (q : Int) G (cellP q p)).length : Nat)], ?_, J, I, rfl, hM, ?_⟩
      ·rw [results_cell_tmp rfl]
       simp [asAddr, Result.andThen, hld]
      ·exact (below_row hB1.drew (by omega) _).trans (belowK_b (w := w) (Nat.le_refl _) _ D _ _ (by omega) hKD2 rfl rfl)
     exact AllReadyIn.nil
    exact AllReadyIn.nil
   exact AllReadyIn.nil
  exact AllReadyIn.nil
 case stop =>
  rintro D c pre W _ _ h _
  exact h.elim
end
end Go.Proofs.YtdgophfembpniaaGreatDoor

namespace Go.Proofs.YtdgophfembpniaaGreatDoor
section
open Go.RowKit
set_option linter.unusedSimpArgs false
set_option linter.unusedVariables false

def ltV (m n : V2) : Bool := decide (m.1 < n.1 ∨ m.1 = n.1 ∧ m.2 < n.2)
theorem ltV_irrefl (m : V2) : ltV m m = false := by simp [ltV]
theorem ltV_trans {m n k : V2} (h : ltV m n = true) (h' : ltV n k = true) : ltV m k = true := by
 simp only [ltV, decide_eq_true_eq] at *; omega
theorem ltV_total {m n : V2} (h : ltV m n = false) (h' : ltV n m = false) : m = n := by
 obtain ⟨x, y⟩ := m
 obtain ⟨x', y'⟩ := n
 simp only [ltV, decide_eq_false_iff_not] at h h'
 have : x = x' ∧ y = y' := by omega
 obtain ⟨rfl, rfl⟩ := this
 rfl
abbrev UpV (L : List V2) : Prop := L.Pairwise fun m n => ltV m n = true
theorem UpV.nodup {L : List V2} (h : UpV L) : L.Nodup := h.imp fun {a b} hab e => by subst e; rw [ltV_irrefl] at hab; cases hab
def plV (L : List V2) (m : V2) : Nat := (L.filter fun n => ltV n m).length
theorem plV_le (L : List V2) (m : V2) : plV L m ≤ L.length := List.length_filter_le _ _
theorem plV_iff (m : V2) : ∀ (L : List V2), UpV L → ∀ (i : Nat) (h : i < L.length), ltV L[i] m = true ↔ i < plV L m
 | [], _, i, h => absurd h (by simp)
 | a :: L, hU, i, h => by
  have h1 := List.pairwise_cons.1 hU
  have ih := plV_iff m L h1.2
  rcases ha : ltV a m with _ | _
  ·have hz : L.filter (fun n => ltV n m) = [] := by
    refine List.filter_eq_nil_iff.2 fun n hn hnm => ?_
    have := ltV_trans (h1.1 n hn) hnm
    rw [ha] at this; cases this
   have e : plV (a :: L) m = 0 := by simp [plV, ha, hz]
   rw [e]
   refine ⟨fun h' => ?_, fun h' => absurd h' (by omega)⟩
   cases i with
   | zero => simp only [List.getElem_cons_zero] at h'; rw [ha] at h'; cases h'
   | succ i =>
    simp only [List.getElem_cons_succ] at h'
    have := ltV_trans (h1.1 _ (List.getElem_mem (by simpa using h))) h'
    rw [ha] at this; cases this
  ·have e : plV (a :: L) m = plV L m + 1 := by simp [plV, ha]
   rw [e]
   cases i with
   | zero => simp only [List.getElem_cons_zero]; exact ⟨fun _ => by omega, fun _ => ha⟩
   | succ i =>
    simp only [List.getElem_cons_succ]
    rw [ih i (by simpa using h)]
    omega
theorem plV_at {L : List V2} {m : V2} (hU : UpV L) (hm : m ∈ L) : ∃ h : plV L m < L.length, L[plV L m] = m := by
 obtain ⟨i, hi, rfl⟩ := List.mem_iff_getElem.1 hm
 have h1 : ¬ i < plV L L[i] := fun h => by
  have := (plV_iff L[i] L hU i hi).2 h
  rw [ltV_irrefl] at this; cases this
 have h2 : ¬ plV L L[i] < i := fun h => by
  have hlt : plV L L[i] < L.length := by omega
  have h3 := List.pairwise_iff_getElem.1 hU _ _ hlt hi h
  have := (plV_iff L[i] L hU _ hlt).1 h3
  omega
 have e : plV L L[i] = i := by omega
 exact ⟨by omega, by simp only [e]⟩
def insV (L : List V2) (m : V2) : List V2 := L.take (plV L m) ++ m :: L.drop (plV L m)
theorem insV_mem {L : List V2} {m n : V2} : n ∈ insV L m ↔ n = m ∨ n ∈ L := by
 unfold insV
 have : n ∈ L ↔ n ∈ L.take (plV L m) ∨ n ∈ L.drop (plV L m) := by
  rw [← List.mem_append, List.take_append_drop]
 rw [List.mem_append, List.mem_cons, this]
 constructor
 ·rintro (h | h | h)
  ·exact .inr (.inl h)
  ·exact .inl h
  ·exact .inr (.inr h)
 ·rintro (h | h | h)
  ·exact .inr (.inl h)
  ·exact .inl h
  ·exact .inr (.inr h)
theorem insV_up {L : List V2} {m : V2} (hU : UpV L) (hm : m ∉ L) : UpV (insV L m) := by
 have hp := plV_iff m L hU
 have h1 : ∀ a ∈ L.take (plV L m), ltV a m = true := by
  intro a ha
  obtain ⟨i, hi, rfl⟩ := List.mem_iff_getElem.1 ha
  have hi2 : i < plV L m ∧ i < L.length := by rw [List.length_take] at hi; omega
  rw [List.getElem_take]
  exact (hp i hi2.2).2 hi2.1
 have h2 : ∀ a ∈ L.drop (plV L m), ltV m a = true := by
  intro a ha
  have hmem := List.mem_of_mem_drop ha
  obtain ⟨i, hi, rfl⟩ := List.mem_iff_getElem.1 ha
  rw [List.length_drop] at hi
  have hi2 : plV L m + i < L.length := by omega
  rw [List.getElem_drop] at hmem ⊢
  rcases hc : ltV m L[plV L m + i] with _ | _
  ·exfalso
   have hn : ltV L[plV L m + i] m = false := by
    rcases hc2 : ltV L[plV L m + i] m with _ | _
    ·rfl
    ·have := (hp _ hi2).1 hc2
     omega
   have := ltV_total hc hn
   exact hm (this ▸ hmem)
  ·rfl
 unfold insV
 refine List.pairwise_append.2 ⟨hU.sublist (List.take_sublist _ _), List.pairwise_cons.2 ⟨h2, hU.sublist (List.drop_sublist _ _)⟩, fun a ha b hb => ?_⟩
 rcases List.mem_cons.1 hb with rfl | hb
 ·exact h1 a ha
 ·exact ltV_trans (h1 a ha) (h2 b hb)
def putV (L : List V2) (m : V2) : List V2 := if m ∈ L then L else insV L m
theorem putV_mem {L : List V2} {m n : V2} : n ∈ putV L m ↔ n = m ∨ n ∈ L := by
 unfold putV
 split
 ·rename_i h
  exact ⟨.inr, fun h' => h'.elim (fun e => e ▸ h) id⟩
 ·exact insV_mem
theorem putV_up {L : List V2} {m : V2} (hU : UpV L) : UpV (putV L m) := by
 unfold putV
 split
 ·exact hU
 ·rename_i h; exact insV_up hU h
def putAllV (L : List V2) : List V2 := L.foldl putV []
theorem putAllV_snoc (L : List V2) (m : V2) : putAllV (L ++ [m]) = putV (putAllV L) m := by simp [putAllV, List.foldl_append]
theorem putAllV_facts : ∀ (L L0 : List V2), UpV L0 → UpV (L.foldl putV L0) ∧ ∀ m, m ∈ L.foldl putV L0 ↔ m ∈ L0 ∨ m ∈ L
 | [], L0, h => ⟨h, by simp⟩
 | a :: L, L0, h => by
  obtain ⟨h1, h2⟩ := putAllV_facts L (putV L0 a) (putV_up h)
  refine ⟨h1, fun m => (h2 m).trans ?_⟩
  rw [putV_mem, List.mem_cons]
  constructor
  ·rintro ((h | h) | h)
   ·exact .inr (.inl h)
   ·exact .inl h
   ·exact .inr (.inr h)
  ·rintro (h | h | h)
   ·exact .inl (.inr h)
   ·exact .inl (.inl h)
   ·exact .inr h
theorem putAllV_up (L : List V2) : UpV (putAllV L) := (putAllV_facts L [] List.Pairwise.nil).1
theorem putAllV_mem (L : List V2) (m : V2) : m ∈ putAllV L ↔ m ∈ L := by rw [putAllV, (putAllV_facts L [] List.Pairwise.nil).2]; simp
theorem putAllV_len (L : List V2) : (putAllV L).length ≤ L.length := nodup_len _ _ (putAllV_up L).nodup fun m hm => (putAllV_mem L m).1 hm
theorem hasV_yes {L : List V2} {m : V2} (hU : UpV L) (h : plV L m < L.length) : decide (L[plV L m] = m) = decide (m ∈ L) := by
 rw [decide_eq_decide]
 exact ⟨fun e => by rw [← e]; exact List.getElem_mem h, fun hm => (plV_at hU hm).2⟩
theorem hasV_no {L : List V2} {m : V2} (hU : UpV L) (h : ¬ plV L m < L.length) : decide (m ∈ L) = false := decide_eq_false fun hm => h (plV_at hU hm).1
theorem putV_old {L : List V2} {m : V2} (hU : UpV L) (h : decide (m ∈ L) = true) : putV L m = L := by simp [putV, of_decide_eq_true h]
theorem putV_new {L : List V2} {m : V2} (hU : UpV L) (h : decide (m ∈ L) = false) : putV L m = L.take (plV L m) ++ [m] ++ L.drop (plV L m) := by
 have := of_decide_eq_false h
 simp [putV, this, insV]
theorem cells2_app7 (xs ys : List V2) : cells2 (xs ++ ys) = cells2 xs ++ cells2 ys := by simp [cells2]
theorem cells2_take (L : List V2) (n j : Nat) (u : Value) (h : (cells2 (L.take n))[j]? = some u) : (cells2 L)[j]? = some u := by
 have e : cells2 L = cells2 (L.take n) ++ cells2 (L.drop n) := by rw [← cells2_app7, List.take_append_drop]
 have hj : j < (cells2 (L.take n)).length := (List.getElem?_eq_some_iff.1 h).1
 rw [e, List.getElem?_append_left hj]; exact h
theorem cells2_drop (L : List V2) (n j : Nat) (u : Value) (hn : n ≤ L.length) (h : (cells2 (L.drop n))[j]? = some u) : (cells2 L)[n * 2 + j]? = some u := by
 have e : cells2 L = cells2 (L.take n) ++ cells2 (L.drop n) := by rw [← cells2_app7, List.take_append_drop]
 have hl : (cells2 (L.take n)).length = n * 2 := by rw [cells2_len, List.length_take]; congr 1; omega
 rw [e, List.getElem?_append_right (by omega), hl]
 rw [show n * 2 + j - n * 2 = j by omega]; exact h
theorem cells2_one (L : List V2) : ∀ u ∈ cells2 L, u.oneCell' = true := by
 intro u hu
 obtain ⟨z, rfl⟩ := cells2_int L u hu
 rfl
theorem app_len2 (a b : List V2) : (a ++ b).length = a.length + b.length := List.length_append
def KO2 (g base cap : Nat) (T : TypeId) (Q : List V2) (W : World) : Prop := W.ownsRow base T 2 (.slice (some ⟨g, 0, none⟩) Q.length cap) Q.length (cells2 Q)
theorem KO2.call {g base cap : Nat} {T : TypeId} {Q : List V2} {W w1 : World} (h : KO2 g base cap T Q W) (hb : Below W.heap.size W w1) : KO2 g base cap T Q w1 := ownsRow_call h hb
theorem KO2.alloc {g base cap : Nat} {T : TypeId} {Q : List V2} {W : World} (h : KO2 g base cap T Q W) (o : Obj) : KO2 g base cap T Q (W.alloc o) := h.call ((Below.refl _ _).alloc (Nat.le_refl _) _)
theorem KO2.drew {g base cap : Nat} {T : TypeId} {Q : List V2} {W : World} (h : KO2 g base cap T Q W) : KO2 g base cap T Q W.drew := h.call (Below.refl _ _).drew
theorem KO2.lt {g base cap : Nat} {T : TypeId} {Q : List V2} {W : World} (h : KO2 g base cap T Q W) : base ≤ g ∧ g < W.heap.size := World.ownsRow.lt h g rfl
theorem KO2.kept {g base cap : Nat} {T : TypeId} {Q : List V2} {W w1 : World} {row : Option Nat} (h : KO2 g base cap T Q W) (hg : W.grownBy w1 row) (hne : some g ≠ row) : KO2 g base cap T Q w1 := World.ownsRow.kept h hg (.inr (fun e => hne (by rw [← e]; rfl)))
theorem KO2.vec {g base cap : Nat} {T : TypeId} {Q : List V2} {W : World} (h : KO2 g base cap T Q W) (hn : Q.length ≤ 1000000) (i : Nat) (hi : i < Q.length) : Ko2 g (i * 2) Q[i].1 Q[i].2 W := by
 have hs := SRow.of h (cells2_int _) hn
 obtain ⟨g', cap', e, _, _, r⟩ := hs.2.2.resolve_left (fun h => by omega)
 simp only [Value.slice.injEq, Option.some.injEq, Addr.mk.injEq, and_true, true_and] at e
 obtain ⟨rfl, _⟩ := e
 exact r.v27 i hi
theorem KO2.of {base : Nat} {T : TypeId} {v : Value} {Q : List V2} {W : World} (h : W.ownsRow base T 2 v Q.length (cells2 Q)) (hn : 0 < Q.length) : ∃ g cap, v = .slice (some ⟨g, 0, none⟩) Q.length cap ∧ KO2 g base cap T Q W := by
 rcases h.2 with ⟨_, h0⟩ | ⟨g, cap, cur, rfl, r⟩
 ·omega
 ·exact ⟨g, cap, rfl, h⟩
theorem KO2.put {g base cap : Nat} {T : TypeId} {Q : List V2} {W : World} {p : Addr} {u : Value} (hp : p.block ≠ g) (h : KO2 g base cap T Q W) : KO2 g base cap T Q (W.setCell p u) := by
 rcases h.2 with ⟨h0, _⟩ | ⟨g', cap', cur, he, r1, r2, r3⟩
 ·simp at h0
 ·simp only [Value.slice.injEq, Option.some.injEq, Addr.mk.injEq, and_true, true_and] at he
  obtain ⟨rfl, rfl⟩ := he
  exact ⟨h.1, .inr ⟨_, _, cur, rfl, r1, by rw [Below.heap_setCell _ _ _ _ (by omega)]; exact r2, r3⟩⟩
theorem Kg.grown8 {R : Nat} {a b : Int} {W w1 : World} {row : Option Nat} (h : Kg R a b W) (hg : W.grownBy w1 row) (hne : some R ≠ row) : Kg R a b w1 :=
 ⟨Nat.lt_of_lt_of_le h.1 hg.size, hg.cell h.2.1 hne, hg.cell h.2.2 hne⟩
def KOV2 (base : Nat) (T : TypeId) (v : Value) (L : List V2) (w : World) : Prop := w.ownsRow base T 2 v L.length (cells2 L)
theorem KOV2.call {base : Nat} {T : TypeId} {v : Value} {L : List V2} {W w1 : World} (h : KOV2 base T v L W) (hb : Below W.heap.size W w1) : KOV2 base T v L w1 := ownsRow_call h hb
theorem KOV2.alloc {base : Nat} {T : TypeId} {v : Value} {L : List V2} {W : World} (h : KOV2 base T v L W) (z : Obj) : KOV2 base T v L (W.alloc z) := h.call ((Below.refl _ _).alloc (Nat.le_refl _) _)
theorem KOV2.drew {base : Nat} {T : TypeId} {v : Value} {L : List V2} {W : World} (h : KOV2 base T v L W) : KOV2 base T v L W.drew := h.call (Below.refl _ _).drew
theorem KO2.cap_le {g base cap : Nat} {T : TypeId} {L : List V2} {W : World} (h : KO2 g base cap T L W) : L.length ≤ cap := by
 rcases h.2 with ⟨h', _⟩ | ⟨g', cap', cur, h', _, hg, hc, _⟩
 ·cases h'
 ·simp only [Value.slice.injEq] at h'
  omega
theorem add_zero2 (g o j : Nat) : (⟨g, o, none⟩ : Addr).add j = ⟨g, o + j, none⟩ := by
 unfold Addr.add
 split
 ·rename_i h; subst h; rfl
 ·rfl
theorem ko2_take {g base cap n : Nat} {T : TypeId} {L : List V2} {W : World} (h : KO2 g base cap T L W) : ∀ (j : Nat) (u : Value), (cells2 (L.take n))[j]? = some u → W.cell? ((⟨g, 0, none⟩ : Addr).add j) = some u := by
 intro j u hj
 have h1 := cells2_take L n j u hj
 have hlt : j < (cells2 L).length := (List.getElem?_eq_some_iff.1 h1).1
 rw [add_zero2, Nat.zero_add, World.ownsRow.cellAt h j (by rw [cells2_len] at hlt; exact hlt)]
 exact h1
theorem ko2_drop {g base cap n : Nat} {T : TypeId} {L : List V2} {W : World} (h : KO2 g base cap T L W) (hn : n ≤ L.length) : ∀ (j : Nat) (u : Value), (cells2 (L.drop n))[j]? = some u → W.cell? ((⟨g, n * 2, none⟩ : Addr).add j) = some u := by
 intro j u hj
 have h1 := cells2_drop L n j u hn hj
 have hlt : n * 2 + j < (cells2 L).length := (List.getElem?_eq_some_iff.1 h1).1
 rw [add_zero2, World.ownsRow.cellAt h (n * 2 + j) (by rw [cells2_len] at hlt; exact hlt)]
 exact h1
theorem lit2 {base : Nat} {T : TypeId} (W : World) (g : Nat) (hg : g = W.heap.size) (hb : base ≤ W.heap.size) : KOV2 base T (.slice (some ⟨g, 0, none⟩) 0 0) [] (W.alloc (.cells #[] T)) := by
 subst hg
 have h := World.ownsRow_lit (base := base) (e := T) (size := 2) W #[] 0 hb (by unfold maxLen; omega) rfl
 exact h
theorem take2_len {L : List V2} {n : Nat} (h : n ≤ L.length) : (cells2 (L.take n)).length = n * 2 := by rw [cells2_len, List.length_take, Nat.min_eq_left h]
theorem drop2_len {L : List V2} {n : Nat} (h : n ≤ L.length) : (cells2 (L.drop n)).length = (L.length - n) * 2 := by rw [cells2_len, List.length_drop]
theorem kg_two8 {g : Nat} {x y : Int} {W : World} (h : Kg g x y W) : ∀ (j : Nat) (u : Value), [Value.int .i64 x, .int .i64 y][j]? = some u → W.cell? ((⟨g, 0, none⟩ : Addr).add j) = some u := by
 intro j u hj
 obtain ⟨_, h0, h1⟩ := h
 rw [add_zero2, Nat.zero_add]
 match j, hj with
 | 0, e => cases e; exact h0
 | 1, e => cases e; exact h1
 | j + 2, e => simp at e
attribute [local go_sem ↓] eqVe7
theorem infoVe7 : (Tryz.prog.info? 55).map (fun i => (i.zero, i.size, i.bytes)) = some (some (.agg #[.int .i64 0, .int .i64 0]), 2, 16) := by kernel_rfl
set_option maxRecDepth 100000 in
set_option maxHeartbeats 8000000 in
theorem l01Insert_any {base : Nat} {v : Value} {L : List V2} {w : World} (x y : Int) (hK : w.ownsRow base 55 2 v L.length (cells2 L)) (hv : ∃ g cap, v = .slice (some ⟨g, 0, none⟩) L.length cap) (hbase : base ≤ w.heap.size) (hU : UpV L) (hn : L.length ≤ 100000) :
  Calls Tryz.prog 96 #[v, .agg #[.int .i64 x, .int .i64 y]] w fun e w' => ∃ g cap, e = .returned (.slice (some ⟨g, 0, none⟩) (putV L (x, y)).length cap) ∧ KO2 g base cap 55 (putV L (x, y)) w' ∧ Below w.heap.size w w' := by
 obtain ⟨i0, hinf, hz0, hz1, hz2⟩ := info_parts infoVe7
 obtain ⟨g, cap, rfl⟩ := hv
 have HUP := Lib.hid hU
 have HOW0 := Lib.hid (show KOV2 base 55 (.slice (some ⟨g, 0, none⟩) L.length cap) L w from hK)
 have HGW := Lib.hid (show KO2 g base cap 55 L w from hK)
 have HBS := Lib.hid hbase
 have HN1 := Lib.hid hn
 have HPOS := Lib.hid (show 0 < (putV L (x, y)).length from List.length_pos_of_mem (putV_mem.2 (.inl rfl)))
 have HIFF := Lib.hid (plV_iff (x, y) L hU)
 have HPLE := Lib.hid (plV_le L (x, y))
 have HY := Lib.hid (fun hp => hasV_yes (m := (x, y)) hU hp)
 have HO := Lib.hid (fun hp => hasV_no (m := (x, y)) hU hp)
 have X0 : Kg w.heap.size x y (w.alloc (.cells #[.int .i64 x, .int .i64 y] 55)) := Kg.at2 _ rfl
 have B0 : Below w.heap.size w (w.alloc (.cells #[.int .i64 x, .int .i64 y] 55)) := (Below.refl _ _).alloc (Nat.le_refl _) _
 have hn2 : (L.length : Int) ≤ 100000 := by omega
 have HS := trivial
 clear hK hbase hU hn
 generalize hp : plV L (x, y) = p at HIFF HPLE HY HO
 have HPE := Lib.hid hp
 have HP := Lib.hid (show p ≤ L.length ∧ L.length ≤ 100000 from ⟨HPLE.out, HN1.out⟩)
 clear hp
 go_enter Tryz.func96, Tryz.ntmps96
 go_wp2_with fail
 go_loopw [5] (fun s5 W => ∃ k : Nat, s5 = .int .i64 (k : Int) ∧ k ≤ L.length ∧ k ≤ p ∧ Kg w.heap.size x y W ∧ Below w.heap.size w W) (fun s5 _ => L.length - (intOf s5).toNat)
 case atStart => exact ⟨0, rfl, by omega, by omega, X0, B0⟩
 case round =>
  clear X0 B0
  obtain ⟨k, rfl, hk, hkp, X0, B0⟩ := hrel
  by_cases hk1 : k < L.length
  ·have hk2 : (k : Int) < (L.length : Int) := by omega
   have hk3 : (k : Int) ≤ 100000 := by omega
   have q1 := (HGW.out.call B0).vec (by have := HN1.out; omega) k hk1
   have HK := Lib.hid hk1
   have hiff := HIFF.out k hk1
   have HYK := Lib.hid (show p = k → decide (L[k] = (x, y)) = decide ((x, y) ∈ L) from fun e => by subst e; exact HY.out hk1)
   generalize L[k] = m at q1 hiff HYK
   obtain ⟨a, b⟩ := m
   dsimp only at q1
   have CL := Lib.hid (fun W => lex2_any a b x y W)
   have hlx : lex2 a b x y = ltV (a, b) (x, y) := rfl
   rw [hlx] at CL
   clear hlx
   have q1c := q1.cells
   have X0c := X0.cells
   have HKP := Lib.hid hkp
   clear hk hk1 hkp
   rcases hlt : ltV (a, b) (x, y) with _ | _
   all_goals
    rw [hlt] at CL hiff
    have HI2 := Lib.hid hiff
    clear hiff hlt
    go_wp2_with fail
    go_region_held3 (fun W => (W.cell? ⟨w.heap.size, 0, none⟩ = some (.int .i64 x) ∧ W.cell? ⟨w.heap.size, 1, none⟩ = some (.int .i64 y)) ∧ (W.cell? ⟨g, k * 2, none⟩ = some (.int .i64 a) ∧ W.cell? ⟨g, k * 2 + 1, none⟩ = some (.int .i64 b))) ((refine And.intro (Kg.cells ?_) (Ko2.cells ?_)) <;> with_reducible repeat (first | assumption | refine Kg.drew ?_ | refine Kg.alloc ?_ _ | refine Kg.call ?_ (by assumption) | refine Ko2.drew ?_ | refine Ko2.alloc ?_ _ | refine Ko2.call ?_ (by assumption)))
     (first
      | (go_at_call 126; with_reducible refine (CL.out _).mono ?_; rintro e w1 ⟨rfl, hb1⟩; have X1 : Kg w.heap.size x y w1 := (by with_reducible repeat (first | assumption | refine Kg.drew ?_ | refine Kg.alloc ?_ _ | refine Kg.call ?_ (by assumption) | refine Ko2.drew ?_ | refine Ko2.alloc ?_ _ | refine Ko2.call ?_ (by assumption))); have q2 : Ko2 g (k * 2) a b w1 := (by with_reducible repeat (first | assumption | refine Kg.drew ?_ | refine Kg.alloc ?_ _ | refine Kg.call ?_ (by assumption) | refine Ko2.drew ?_ | refine Ko2.alloc ?_ _ | refine Ko2.call ?_ (by assumption))); have B1 : Below w.heap.size w w1 := (by repeat (first | with_reducible assumption | with_reducible exact Below.refl _ _ | with_reducible refine Below.alloc ?_ (by first | omega | (simp <;> omega)) _ | with_reducible refine bstep ?_ (by with_reducible assumption) | with_reducible refine Below.drew ?_))))
   ·have hpk : p = k := by have h3 : ¬ k < p := (fun h => by have h4 := HI2.out.2 h; cases h4); have h2 := HKP.out; omega
    have HE := Lib.hid (eqV2_dec (a, b) (x, y))
    dsimp only at HE
    have HDD := Lib.hid (HYK.out hpk)
    have hgl : g < w.heap.size := (KO2.lt HGW.out).2
    have HK8 := Lib.hid HK.out
    subst hpk
    have hpl : p < L.length := HK8.out
    clear q1 q1c X0 X0c B0 hb1 HI2 HYK CL HY HO
    have q1 := q2
    clear q2
    have q1c := q1.cells
    have X1c := X1.cells
    have X1l := kg_lt7 X1
    have hp3 : (p : Int) ≤ 100000 := by omega
    rcases hd : decide (((a, b) : V2) = (x, y)) with _ | _
    ·have he : eqV2 a b x y = false := HE.out.trans hd
     have HF := Lib.hid (HDD.out.symm.trans hd)
     clear HE HDD hd
     go_wp2_with fail
     go_quiet (fail)
     go_wp2_with fail
     have XX : Kg w.heap.size x y (w1.drewN nq) := Kg.call X1 (below_drewN (Below.refl _ _) _)
     have GG : KO2 g base cap 55 L (w1.drewN nq) := KO2.call (KO2.call (show KO2 g base cap 55 L w from HOW0.out) B1) (below_drewN (Below.refl _ _) _)
     have BB : Below w.heap.size w (w1.drewN nq) := below_drewN B1 _
     have zB := B1.size
     have zW : (w1.drewN nq).heap.size = w1.heap.size := rfl
     clear X1 X1c q1 q1c B1 HS
     generalize w1.drewN nq = W0 at *
     rw [← zW] at zB X1l
     have hcl := KO2.cap_le GG
     clear zW
     have hpL : p ≤ L.length := by omega
     have hcp : ¬ cap = p := by omega
     have HLEN := Lib.hid (show (L.take p ++ [(x, y)]).length = p + 1 by rw [List.length_append, List.length_take, Nat.min_eq_left hpL]; rfl)
     have HL := Lib.hid (putV_new HUP.out HF.out)
     rw [HPE.out] at HL
     have Xc := XX.cells
     have hpc : p ≤ cap := by omega
     go_region_held3 (fun W => (W.cell? ⟨w.heap.size, 0, none⟩ = some (.int .i64 x) ∧ W.cell? ⟨w.heap.size, 1, none⟩ = some (.int .i64 y))) ((refine Kg.cells ?_) <;> with_reducible repeat (first | assumption | refine Kg.drew ?_ | refine Kg.alloc ?_ _ | refine Kg.call ?_ (by assumption) | refine KO2.drew ?_ | refine KO2.alloc ?_ _ | refine KO2.call ?_ (by assumption)))
      (first
       | (rw [if_pos (by rfl)]; refine wp_append_own _ _ _ 72 rfl (w.heap.size + 1) 55 i0 (.agg #[.int .i64 0, .int .i64 0]) 2 16 Tryz.underlying72 hinf hz0 hz1 hz2 rfl (by decide) _ 0 [] rfl (by first | exact (lit2 W0 W0.heap.size rfl (by omega)) | exact KOV2.drew (lit2 W0 W0.heap.size rfl (by omega)) | exact KOV2.alloc (lit2 W0 W0.heap.size rfl (by omega)) _ | exact KOV2.drew (KOV2.alloc (lit2 W0 W0.heap.size rfl (by omega)) _) | exact KOV2.drew (KOV2.alloc (KOV2.drew (lit2 W0 W0.heap.size rfl (by omega))) _) | exact (lit2 _ (W0.heap.size + 1) (by simp) (by simp; omega)) | exact KOV2.drew (lit2 _ (W0.heap.size + 1) (by simp) (by simp; omega))) ⟨g, 0, none⟩ p _ (cells2 (L.take p)) rfl (take2_len hpL) (ko2_take (show KO2 g base cap 55 L _ from by with_reducible repeat (first | assumption | refine Kg.drew ?_ | refine Kg.alloc ?_ _ | refine Kg.call ?_ (by assumption) | refine KO2.drew ?_ | refine KO2.alloc ?_ _ | refine KO2.call ?_ (by assumption)))) (cells2_one _) (by unfold maxLen; omega) (by omega) (by first | omega | (simp <;> omega)) ?_; intro v26 w26 hown26 hgr26 _; have O26 : KOV2 (w.heap.size + 1) 55 v26 (L.take p) w26 := (by have h := hown26; unfold KOV2; rw [List.length_take, Nat.min_eq_left hpL]; simpa using h); have G26 : KO2 g base cap 55 L w26 := KO2.kept (show KO2 g base cap 55 L _ from by with_reducible repeat (first | assumption | refine Kg.drew ?_ | refine Kg.alloc ?_ _ | refine Kg.call ?_ (by assumption) | refine KO2.drew ?_ | refine KO2.alloc ?_ _ | refine KO2.call ?_ (by assumption))) hgr26 (fun e => by have e2 := Option.some.inj e; first | omega | (simp at e2; done) | (simp at e2; omega)); have X26 : Kg w.heap.size x y w26 := Kg.grown8 (show Kg w.heap.size x y _ from by with_reducible repeat (first | assumption | refine Kg.drew ?_ | refine Kg.alloc ?_ _ | refine Kg.call ?_ (by assumption) | refine KO2.drew ?_ | refine KO2.alloc ?_ _ | refine KO2.call ?_ (by assumption))) hgr26 (fun e => by have e2 := Option.some.inj e; first | omega | (simp at e2; done) | (simp at e2; omega)); (first | have S26 := Kg.grown8 (Kg.at2 (W0.heap.size + 1) (by simp)) hgr26 (fun e => by have e2 := Option.some.inj e; first | omega | (simp at e2; done) | (simp at e2; omega)) | have S26 := Kg.grown8 (Kg.drew (Kg.at2 (W0.heap.size + 1) (by simp))) hgr26 (fun e => by have e2 := Option.some.inj e; first | omega | (simp at e2; done) | (simp at e2; omega)) | have S26 := Kg.grown8 (Kg.alloc (Kg.at2 W0.heap.size rfl) _) hgr26 (fun e => by have e2 := Option.some.inj e; first | omega | (simp at e2; done) | (simp at e2; omega)) | have S26 := Kg.grown8 (Kg.drew (Kg.alloc (Kg.at2 W0.heap.size rfl) _)) hgr26 (fun e => by have e2 := Option.some.inj e; first | omega | (simp at e2; done) | (simp at e2; omega)) | have S26 := Kg.grown8 (Kg.alloc (Kg.drew (Kg.at2 W0.heap.size rfl)) _) hgr26 (fun e => by have e2 := Option.some.inj e; first | omega | (simp at e2; done) | (simp at e2; omega)) | have S26 := Kg.grown8 (Kg.drew (Kg.alloc (Kg.drew (Kg.at2 W0.heap.size rfl)) _)) hgr26 (fun e => by have e2 := Option.some.inj e; first | omega | (simp at e2; done) | (simp at e2; omega)) | have S26 := trivial); have B26 : Below w.heap.size w w26 := Below.grown (show Below w.heap.size w _ from by repeat (first | with_reducible assumption | with_reducible refine Below.drew ?_ | with_reducible refine Below.alloc ?_ (by first | omega | (simp <;> omega)) _ | with_reducible refine bstep ?_ (by with_reducible assumption))) hgr26 (by first | omega | (simp <;> omega)) (fun r hr => by have e2 := Option.some.inj hr; first | omega | (simp at e2; omega)); have z26 : w.heap.size + 1 ≤ w26.heap.size := kg_lt7 X26)
       | (rw [if_pos (by rfl)]; refine wp_append_own _ _ _ 72 rfl (w.heap.size + 1) 55 i0 (.agg #[.int .i64 0, .int .i64 0]) 2 16 Tryz.underlying72 hinf hz0 hz1 hz2 rfl (by decide) _ (L.take p).length (cells2 (L.take p)) rfl (show KOV2 (w.heap.size + 1) 55 v26 (L.take p) _ from by with_reducible repeat (first | assumption | refine KOV2.drew ?_ | refine KOV2.alloc ?_ _)) _ 1 1 [.int .i64 x, .int .i64 y] rfl rfl (by first | exact kg_two8 S26 | exact kg_two8 (Kg.drew S26) | exact kg_two8 (Kg.at2 _ rfl) | exact kg_two8 (Kg.drew (Kg.at2 _ rfl))) one_two (by have hh := take2_len hpL; rw [cells2_len] at hh; unfold maxLen; omega) (by have hh := take2_len hpL; rw [cells2_len] at hh; omega) (by first | omega | (simp <;> omega)) ?_; intro v29 w29 hown29 hgr29 _; have O29 : KOV2 (w.heap.size + 1) 55 v29 (L.take p ++ [(x, y)]) w29 := own_next2 hown29; have G29 : KO2 g base cap 55 L w29 := KO2.kept (show KO2 g base cap 55 L _ from by with_reducible repeat (first | assumption | refine Kg.drew ?_ | refine Kg.alloc ?_ _ | refine Kg.call ?_ (by assumption) | refine KO2.drew ?_ | refine KO2.alloc ?_ _ | refine KO2.call ?_ (by assumption))) hgr29 (fun e => by have := (World.ownsRow.lt O26 _ e.symm).1; omega); have X29 : Kg w.heap.size x y w29 := Kg.grown8 (show Kg w.heap.size x y _ from by with_reducible repeat (first | assumption | refine Kg.drew ?_ | refine Kg.alloc ?_ _ | refine Kg.call ?_ (by assumption) | refine KO2.drew ?_ | refine KO2.alloc ?_ _ | refine KO2.call ?_ (by assumption))) hgr29 (fun e => by have := (World.ownsRow.lt O26 _ e.symm).1; omega); have B29 : Below w.heap.size w w29 := Below.grown (show Below w.heap.size w _ from by repeat (first | with_reducible assumption | with_reducible refine Below.drew ?_ | with_reducible refine Below.alloc ?_ (by first | omega | (simp <;> omega)) _ | with_reducible refine bstep ?_ (by with_reducible assumption))) hgr29 (by first | omega | (simp <;> omega)) (fun r hr => by have := (World.ownsRow.lt O26 _ hr).1; omega); have z29 : w.heap.size + 1 ≤ w29.heap.size := kg_lt7 X29)
       | (rw [if_pos (by rfl)]; refine wp_append_own _ _ _ 72 rfl (w.heap.size + 1) 55 i0 (.agg #[.int .i64 0, .int .i64 0]) 2 16 Tryz.underlying72 hinf hz0 hz1 hz2 rfl (by decide) _ (L.take p ++ [(x, y)]).length (cells2 (L.take p ++ [(x, y)])) rfl (show KOV2 (w.heap.size + 1) 55 v29 (L.take p ++ [(x, y)]) _ from by with_reducible repeat (first | assumption | refine KOV2.drew ?_ | refine KOV2.alloc ?_ _)) _ (L.length - p) _ (cells2 (L.drop p)) rfl (drop2_len hpL) (ko2_drop (show KO2 g base cap 55 L _ from by with_reducible repeat (first | assumption | refine Kg.drew ?_ | refine Kg.alloc ?_ _ | refine Kg.call ?_ (by assumption) | refine KO2.drew ?_ | refine KO2.alloc ?_ _ | refine KO2.call ?_ (by assumption))) hpL) (cells2_one _) (by have hh := HLEN.out; unfold maxLen; omega) (by have hh := HLEN.out; omega) (by first | omega | (simp <;> omega)) ?_; intro v33 w33 hown33 hgr33 _; have O33 : KOV2 (w.heap.size + 1) 55 v33 (L.take p ++ [(x, y)] ++ L.drop p) w33 := (by have h := hown33; unfold KOV2; rw [cells2_app7 (L.take p ++ [(x, y)]) (L.drop p), app_len2 (L.take p ++ [(x, y)]) (L.drop p), List.length_drop]; exact h); have X33 : Kg w.heap.size x y w33 := Kg.grown8 (show Kg w.heap.size x y _ from by with_reducible repeat (first | assumption | refine Kg.drew ?_ | refine Kg.alloc ?_ _ | refine Kg.call ?_ (by assumption) | refine KO2.drew ?_ | refine KO2.alloc ?_ _ | refine KO2.call ?_ (by assumption))) hgr33 (fun e => by have := (World.ownsRow.lt O29 _ e.symm).1; omega); have B33 : Below w.heap.size w w33 := Below.grown (show Below w.heap.size w _ from by repeat (first | with_reducible assumption | with_reducible refine Below.drew ?_ | with_reducible refine Below.alloc ?_ (by first | omega | (simp <;> omega)) _ | with_reducible refine bstep ?_ (by with_reducible assumption))) hgr33 (by first | omega | (simp <;> omega)) (fun r hr => by have := (World.ownsRow.lt O29 _ hr).1; omega)))
     all_goals
      rw [← HL.out] at O33
      obtain ⟨g9, cap9, rfl, K9⟩ := KO2.of O33 (by have := HPOS.out; omega)
      go_wp2
      go_ret
      exact ⟨g9, cap9, rfl, ownsRow_lower K9 (by have := HBS.out; omega), B33⟩
    ·have he : eqV2 a b x y = true := HE.out.trans hd
     have HF := Lib.hid (HDD.out.symm.trans hd)
     clear HE HDD hd
     go_wp2_with fail
     go_quiet (fail)
     go_wp2
     go_ret
     have hl : putV L (x, y) = L := putV_old HUP.out HF.out
     exact ⟨g, cap, by rw [hl]; rfl, by rw [hl]; exact KO2.call HOW0.out (by repeat (first | with_reducible assumption | with_reducible exact Below.refl _ _ | with_reducible refine Below.alloc ?_ (by first | omega | (simp <;> omega)) _ | with_reducible refine bstep ?_ (by with_reducible assumption) | with_reducible refine Below.drew ?_ | with_reducible refine below_drewN ?_ _)), by repeat (first | with_reducible assumption | with_reducible exact Below.refl _ _ | with_reducible refine Below.alloc ?_ (by first | omega | (simp <;> omega)) _ | with_reducible refine bstep ?_ (by with_reducible assumption) | with_reducible refine Below.drew ?_ | with_reducible refine below_drewN ?_ _)⟩
   ·have hkp2 : k < p := HI2.out.1 (by first | rfl | trivial)
    clear q1 q1c X0 X0c B0 hb1 HI2 HYK CL
    go_wp2
    go_roundw
    case rel => exact ⟨k + 1, by go_num, by have := HK.out; omega, by omega, X1, B1⟩
    case measure => (have := HK.out); first | (simp [intOf]; done) | (simp [intOf]; omega)
  ·have hpl : ¬ p < L.length := by omega
   have hpk : p = k := by have := HP.out.1; omega
   subst hpk
   have HF := Lib.hid (HO.out hpl)
   have hpe : (p : Int) = (L.length : Int) := by have := HP.out.1; omega
   have X0c := X0.cells
   clear hk hkp hk1
   go_wp2_with fail
   go_quiet (fail)
   go_wp2_with fail
   have X1 := Kg.call X0 (below_drewN (Below.refl _ _) nq)
   have B1 : Below w.heap.size w (wr.drewN nq) := below_drewN B0 _
   clear X0 X0c B0
   generalize wr.drewN nq = w1 at *
   have X1c := X1.cells
   have X1l := kg_lt7 X1
   clear HIFF HY HO hpe
   have hgl : g < w.heap.size := (KO2.lt (show KO2 g base cap 55 L w from HOW0.out)).2
   have hpL : p ≤ L.length := HP.out.1
   by_cases hcp : cap = p
   ·have hdn : L.drop p = [] := List.drop_eq_nil_of_le (by omega)
    go_wp2_with fail
    go_quiet (fail)
    go_wp2_with fail
    have XX : Kg w.heap.size x y (w1.drewN nq) := Kg.call X1 (below_drewN (Below.refl _ _) _)
    have GG : KO2 g base cap 55 L (w1.drewN nq) := KO2.call (KO2.call (show KO2 g base cap 55 L w from HOW0.out) B1) (below_drewN (Below.refl _ _) _)
    have BB : Below w.heap.size w (w1.drewN nq) := below_drewN B1 _
    have zB := B1.size
    have zW : (w1.drewN nq).heap.size = w1.heap.size := rfl
    clear X1 X1c  B1 HS
    generalize w1.drewN nq = W0 at *
    rw [← zW] at zB X1l
    have hcl := KO2.cap_le GG
    clear zW

    have HLEN := Lib.hid (show (L.take p ++ [(x, y)]).length = p + 1 by rw [List.length_append, List.length_take, Nat.min_eq_left hpL]; rfl)
    have HL := Lib.hid (putV_new HUP.out HF.out)
    rw [HPE.out] at HL
    have Xc := XX.cells
    have hpc : p ≤ cap := by omega
    go_region_held3 (fun W => (W.cell? ⟨w.heap.size, 0, none⟩ = some (.int .i64 x) ∧ W.cell? ⟨w.heap.size, 1, none⟩ = some (.int .i64 y))) ((refine Kg.cells ?_) <;> with_reducible repeat (first | assumption | refine Kg.drew ?_ | refine Kg.alloc ?_ _ | refine Kg.call ?_ (by assumption) | refine KO2.drew ?_ | refine KO2.alloc ?_ _ | refine KO2.call ?_ (by assumption)))
     (first
      | (rw [if_pos (by rfl)]; refine wp_append_own _ _ _ 72 rfl (w.heap.size + 1) 55 i0 (.agg #[.int .i64 0, .int .i64 0]) 2 16 Tryz.underlying72 hinf hz0 hz1 hz2 rfl (by decide) _ 0 [] rfl (by first | exact (lit2 W0 W0.heap.size rfl (by omega)) | exact KOV2.drew (lit2 W0 W0.heap.size rfl (by omega)) | exact KOV2.alloc (lit2 W0 W0.heap.size rfl (by omega)) _ | exact KOV2.drew (KOV2.alloc (lit2 W0 W0.heap.size rfl (by omega)) _) | exact KOV2.drew (KOV2.alloc (KOV2.drew (lit2 W0 W0.heap.size rfl (by omega))) _) | exact (lit2 _ (W0.heap.size + 1) (by simp) (by simp; omega)) | exact KOV2.drew (lit2 _ (W0.heap.size + 1) (by simp) (by simp; omega))) ⟨g, 0, none⟩ p _ (cells2 (L.take p)) rfl (take2_len hpL) (ko2_take (show KO2 g base cap 55 L _ from by with_reducible repeat (first | assumption | refine Kg.drew ?_ | refine Kg.alloc ?_ _ | refine Kg.call ?_ (by assumption) | refine KO2.drew ?_ | refine KO2.alloc ?_ _ | refine KO2.call ?_ (by assumption)))) (cells2_one _) (by unfold maxLen; omega) (by omega) (by first | omega | (simp <;> omega)) ?_; intro v26 w26 hown26 hgr26 _; have O26 : KOV2 (w.heap.size + 1) 55 v26 (L.take p) w26 := (by have h := hown26; unfold KOV2; rw [List.length_take, Nat.min_eq_left hpL]; simpa using h); have G26 : KO2 g base cap 55 L w26 := KO2.kept (show KO2 g base cap 55 L _ from by with_reducible repeat (first | assumption | refine Kg.drew ?_ | refine Kg.alloc ?_ _ | refine Kg.call ?_ (by assumption) | refine KO2.drew ?_ | refine KO2.alloc ?_ _ | refine KO2.call ?_ (by assumption))) hgr26 (fun e => by have e2 := Option.some.inj e; first | omega | (simp at e2; done) | (simp at e2; omega)); have X26 : Kg w.heap.size x y w26 := Kg.grown8 (show Kg w.heap.size x y _ from by with_reducible repeat (first | assumption | refine Kg.drew ?_ | refine Kg.alloc ?_ _ | refine Kg.call ?_ (by assumption) | refine KO2.drew ?_ | refine KO2.alloc ?_ _ | refine KO2.call ?_ (by assumption))) hgr26 (fun e => by have e2 := Option.some.inj e; first | omega | (simp at e2; done) | (simp at e2; omega)); (first | have S26 := Kg.grown8 (Kg.at2 (W0.heap.size + 1) (by simp)) hgr26 (fun e => by have e2 := Option.some.inj e; first | omega | (simp at e2; done) | (simp at e2; omega)) | have S26 := Kg.grown8 (Kg.drew (Kg.at2 (W0.heap.size + 1) (by simp))) hgr26 (fun e => by have e2 := Option.some.inj e; first | omega | (simp at e2; done) | (simp at e2; omega)) | have S26 := Kg.grown8 (Kg.alloc (Kg.at2 W0.heap.size rfl) _) hgr26 (fun e => by have e2 := Option.some.inj e; first | omega | (simp at e2; done) | (simp at e2; omega)) | have S26 := Kg.grown8 (Kg.drew (Kg.alloc (Kg.at2 W0.heap.size rfl) _)) hgr26 (fun e => by have e2 := Option.some.inj e; first | omega | (simp at e2; done) | (simp at e2; omega)) | have S26 := Kg.grown8 (Kg.alloc (Kg.drew (Kg.at2 W0.heap.size rfl)) _) hgr26 (fun e => by have e2 := Option.some.inj e; first | omega | (simp at e2; done) | (simp at e2; omega)) | have S26 := Kg.grown8 (Kg.drew (Kg.alloc (Kg.drew (Kg.at2 W0.heap.size rfl)) _)) hgr26 (fun e => by have e2 := Option.some.inj e; first | omega | (simp at e2; done) | (simp at e2; omega)) | have S26 := trivial); have B26 : Below w.heap.size w w26 := Below.grown (show Below w.heap.size w _ from by repeat (first | with_reducible assumption | with_reducible refine Below.drew ?_ | with_reducible refine Below.alloc ?_ (by first | omega | (simp <;> omega)) _ | with_reducible refine bstep ?_ (by with_reducible assumption))) hgr26 (by first | omega | (simp <;> omega)) (fun r hr => by have e2 := Option.some.inj hr; first | omega | (simp at e2; omega)); have z26 : w.heap.size + 1 ≤ w26.heap.size := kg_lt7 X26)
      | (rw [if_pos (by rfl)]; refine wp_append_own _ _ _ 72 rfl (w.heap.size + 1) 55 i0 (.agg #[.int .i64 0, .int .i64 0]) 2 16 Tryz.underlying72 hinf hz0 hz1 hz2 rfl (by decide) _ (L.take p).length (cells2 (L.take p)) rfl (show KOV2 (w.heap.size + 1) 55 v26 (L.take p) _ from by with_reducible repeat (first | assumption | refine KOV2.drew ?_ | refine KOV2.alloc ?_ _)) _ 1 1 [.int .i64 x, .int .i64 y] rfl rfl (by first | exact kg_two8 S26 | exact kg_two8 (Kg.drew S26) | exact kg_two8 (Kg.at2 _ rfl) | exact kg_two8 (Kg.drew (Kg.at2 _ rfl))) one_two (by have hh := take2_len hpL; rw [cells2_len] at hh; unfold maxLen; omega) (by have hh := take2_len hpL; rw [cells2_len] at hh; omega) (by first | omega | (simp <;> omega)) ?_; intro v29 w29 hown29 hgr29 _; have O29 : KOV2 (w.heap.size + 1) 55 v29 (L.take p ++ [(x, y)]) w29 := own_next2 hown29; have G29 : KO2 g base cap 55 L w29 := KO2.kept (show KO2 g base cap 55 L _ from by with_reducible repeat (first | assumption | refine Kg.drew ?_ | refine Kg.alloc ?_ _ | refine Kg.call ?_ (by assumption) | refine KO2.drew ?_ | refine KO2.alloc ?_ _ | refine KO2.call ?_ (by assumption))) hgr29 (fun e => by have := (World.ownsRow.lt O26 _ e.symm).1; omega); have X29 : Kg w.heap.size x y w29 := Kg.grown8 (show Kg w.heap.size x y _ from by with_reducible repeat (first | assumption | refine Kg.drew ?_ | refine Kg.alloc ?_ _ | refine Kg.call ?_ (by assumption) | refine KO2.drew ?_ | refine KO2.alloc ?_ _ | refine KO2.call ?_ (by assumption))) hgr29 (fun e => by have := (World.ownsRow.lt O26 _ e.symm).1; omega); have B29 : Below w.heap.size w w29 := Below.grown (show Below w.heap.size w _ from by repeat (first | with_reducible assumption | with_reducible refine Below.drew ?_ | with_reducible refine Below.alloc ?_ (by first | omega | (simp <;> omega)) _ | with_reducible refine bstep ?_ (by with_reducible assumption))) hgr29 (by first | omega | (simp <;> omega)) (fun r hr => by have := (World.ownsRow.lt O26 _ hr).1; omega); have z29 : w.heap.size + 1 ≤ w29.heap.size := kg_lt7 X29)
      | (rw [if_pos (by rfl)]; refine wp_append_own _ _ _ 72 rfl (w.heap.size + 1) 55 i0 (.agg #[.int .i64 0, .int .i64 0]) 2 16 Tryz.underlying72 hinf hz0 hz1 hz2 rfl (by decide) _ (L.take p ++ [(x, y)]).length (cells2 (L.take p ++ [(x, y)])) rfl (show KOV2 (w.heap.size + 1) 55 v29 (L.take p ++ [(x, y)]) _ from by with_reducible repeat (first | assumption | refine KOV2.drew ?_ | refine KOV2.alloc ?_ _)) _ (L.length - p) _ (cells2 (L.drop p)) rfl (drop2_len hpL) (by rw [hdn]; intro j u hj; simp [cells2] at hj) (cells2_one _) (by have hh := HLEN.out; unfold maxLen; omega) (by have hh := HLEN.out; omega) (by first | omega | (simp <;> omega)) ?_; intro v33 w33 hown33 hgr33 _; have O33 : KOV2 (w.heap.size + 1) 55 v33 (L.take p ++ [(x, y)] ++ L.drop p) w33 := (by have h := hown33; unfold KOV2; rw [cells2_app7 (L.take p ++ [(x, y)]) (L.drop p), app_len2 (L.take p ++ [(x, y)]) (L.drop p), List.length_drop]; exact h); have X33 : Kg w.heap.size x y w33 := Kg.grown8 (show Kg w.heap.size x y _ from by with_reducible repeat (first | assumption | refine Kg.drew ?_ | refine Kg.alloc ?_ _ | refine Kg.call ?_ (by assumption) | refine KO2.drew ?_ | refine KO2.alloc ?_ _ | refine KO2.call ?_ (by assumption))) hgr33 (fun e => by have := (World.ownsRow.lt O29 _ e.symm).1; omega); have B33 : Below w.heap.size w w33 := Below.grown (show Below w.heap.size w _ from by repeat (first | with_reducible assumption | with_reducible refine Below.drew ?_ | with_reducible refine Below.alloc ?_ (by first | omega | (simp <;> omega)) _ | with_reducible refine bstep ?_ (by with_reducible assumption))) hgr33 (by first | omega | (simp <;> omega)) (fun r hr => by have := (World.ownsRow.lt O29 _ hr).1; omega)))
    all_goals
     rw [← HL.out] at O33
     obtain ⟨g9, cap9, rfl, K9⟩ := KO2.of O33 (by have := HPOS.out; omega)
     go_wp2
     go_ret
     exact ⟨g9, cap9, rfl, ownsRow_lower K9 (by have := HBS.out; omega), B33⟩
   ·skip
    go_wp2_with fail
    go_quiet (fail)
    go_wp2_with fail
    have XX : Kg w.heap.size x y (w1.drewN nq) := Kg.call X1 (below_drewN (Below.refl _ _) _)
    have GG : KO2 g base cap 55 L (w1.drewN nq) := KO2.call (KO2.call (show KO2 g base cap 55 L w from HOW0.out) B1) (below_drewN (Below.refl _ _) _)
    have BB : Below w.heap.size w (w1.drewN nq) := below_drewN B1 _
    have zB := B1.size
    have zW : (w1.drewN nq).heap.size = w1.heap.size := rfl
    clear X1 X1c  B1 HS
    generalize w1.drewN nq = W0 at *
    rw [← zW] at zB X1l
    have hcl := KO2.cap_le GG
    clear zW

    have HLEN := Lib.hid (show (L.take p ++ [(x, y)]).length = p + 1 by rw [List.length_append, List.length_take, Nat.min_eq_left hpL]; rfl)
    have HL := Lib.hid (putV_new HUP.out HF.out)
    rw [HPE.out] at HL
    have Xc := XX.cells
    have hpc : p ≤ cap := by omega
    go_region_held3 (fun W => (W.cell? ⟨w.heap.size, 0, none⟩ = some (.int .i64 x) ∧ W.cell? ⟨w.heap.size, 1, none⟩ = some (.int .i64 y))) ((refine Kg.cells ?_) <;> with_reducible repeat (first | assumption | refine Kg.drew ?_ | refine Kg.alloc ?_ _ | refine Kg.call ?_ (by assumption) | refine KO2.drew ?_ | refine KO2.alloc ?_ _ | refine KO2.call ?_ (by assumption)))
     (first
      | (rw [if_pos (by rfl)]; refine wp_append_own _ _ _ 72 rfl (w.heap.size + 1) 55 i0 (.agg #[.int .i64 0, .int .i64 0]) 2 16 Tryz.underlying72 hinf hz0 hz1 hz2 rfl (by decide) _ 0 [] rfl (by first | exact (lit2 W0 W0.heap.size rfl (by omega)) | exact KOV2.drew (lit2 W0 W0.heap.size rfl (by omega)) | exact KOV2.alloc (lit2 W0 W0.heap.size rfl (by omega)) _ | exact KOV2.drew (KOV2.alloc (lit2 W0 W0.heap.size rfl (by omega)) _) | exact KOV2.drew (KOV2.alloc (KOV2.drew (lit2 W0 W0.heap.size rfl (by omega))) _) | exact (lit2 _ (W0.heap.size + 1) (by simp) (by simp; omega)) | exact KOV2.drew (lit2 _ (W0.heap.size + 1) (by simp) (by simp; omega))) ⟨g, 0, none⟩ p _ (cells2 (L.take p)) rfl (take2_len hpL) (ko2_take (show KO2 g base cap 55 L _ from by with_reducible repeat (first | assumption | refine Kg.drew ?_ | refine Kg.alloc ?_ _ | refine Kg.call ?_ (by assumption) | refine KO2.drew ?_ | refine KO2.alloc ?_ _ | refine KO2.call ?_ (by assumption)))) (cells2_one _) (by unfold maxLen; omega) (by omega) (by first | omega | (simp <;> omega)) ?_; intro v26 w26 hown26 hgr26 _; have O26 : KOV2 (w.heap.size + 1) 55 v26 (L.take p) w26 := (by have h := hown26; unfold KOV2; rw [List.length_take, Nat.min_eq_left hpL]; simpa using h); have G26 : KO2 g base cap 55 L w26 := KO2.kept (show KO2 g base cap 55 L _ from by with_reducible repeat (first | assumption | refine Kg.drew ?_ | refine Kg.alloc ?_ _ | refine Kg.call ?_ (by assumption) | refine KO2.drew ?_ | refine KO2.alloc ?_ _ | refine KO2.call ?_ (by assumption))) hgr26 (fun e => by have e2 := Option.some.inj e; first | omega | (simp at e2; done) | (simp at e2; omega)); have X26 : Kg w.heap.size x y w26 := Kg.grown8 (show Kg w.heap.size x y _ from by with_reducible repeat (first | assumption | refine Kg.drew ?_ | refine Kg.alloc ?_ _ | refine Kg.call ?_ (by assumption) | refine KO2.drew ?_ | refine KO2.alloc ?_ _ | refine KO2.call ?_ (by assumption))) hgr26 (fun e => by have e2 := Option.some.inj e; first | omega | (simp at e2; done) | (simp at e2; omega)); (first | have S26 := Kg.grown8 (Kg.at2 (W0.heap.size + 1) (by simp)) hgr26 (fun e => by have e2 := Option.some.inj e; first | omega | (simp at e2; done) | (simp at e2; omega)) | have S26 := Kg.grown8 (Kg.drew (Kg.at2 (W0.heap.size + 1) (by simp))) hgr26 (fun e => by have e2 := Option.some.inj e; first | omega | (simp at e2; done) | (simp at e2; omega)) | have S26 := Kg.grown8 (Kg.alloc (Kg.at2 W0.heap.size rfl) _) hgr26 (fun e => by have e2 := Option.some.inj e; first | omega | (simp at e2; done) | (simp at e2; omega)) | have S26 := Kg.grown8 (Kg.drew (Kg.alloc (Kg.at2 W0.heap.size rfl) _)) hgr26 (fun e => by have e2 := Option.some.inj e; first | omega | (simp at e2; done) | (simp at e2; omega)) | have S26 := Kg.grown8 (Kg.alloc (Kg.drew (Kg.at2 W0.heap.size rfl)) _) hgr26 (fun e => by have e2 := Option.some.inj e; first | omega | (simp at e2; done) | (simp at e2; omega)) | have S26 := Kg.grown8 (Kg.drew (Kg.alloc (Kg.drew (Kg.at2 W0.heap.size rfl)) _)) hgr26 (fun e => by have e2 := Option.some.inj e; first | omega | (simp at e2; done) | (simp at e2; omega)) | have S26 := trivial); have B26 : Below w.heap.size w w26 := Below.grown (show Below w.heap.size w _ from by repeat (first | with_reducible assumption | with_reducible refine Below.drew ?_ | with_reducible refine Below.alloc ?_ (by first | omega | (simp <;> omega)) _ | with_reducible refine bstep ?_ (by with_reducible assumption))) hgr26 (by first | omega | (simp <;> omega)) (fun r hr => by have e2 := Option.some.inj hr; first | omega | (simp at e2; omega)); have z26 : w.heap.size + 1 ≤ w26.heap.size := kg_lt7 X26)
      | (rw [if_pos (by rfl)]; refine wp_append_own _ _ _ 72 rfl (w.heap.size + 1) 55 i0 (.agg #[.int .i64 0, .int .i64 0]) 2 16 Tryz.underlying72 hinf hz0 hz1 hz2 rfl (by decide) _ (L.take p).length (cells2 (L.take p)) rfl (show KOV2 (w.heap.size + 1) 55 v26 (L.take p) _ from by with_reducible repeat (first | assumption | refine KOV2.drew ?_ | refine KOV2.alloc ?_ _)) _ 1 1 [.int .i64 x, .int .i64 y] rfl rfl (by first | exact kg_two8 S26 | exact kg_two8 (Kg.drew S26) | exact kg_two8 (Kg.at2 _ rfl) | exact kg_two8 (Kg.drew (Kg.at2 _ rfl))) one_two (by have hh := take2_len hpL; rw [cells2_len] at hh; unfold maxLen; omega) (by have hh := take2_len hpL; rw [cells2_len] at hh; omega) (by first | omega | (simp <;> omega)) ?_; intro v29 w29 hown29 hgr29 _; have O29 : KOV2 (w.heap.size + 1) 55 v29 (L.take p ++ [(x, y)]) w29 := own_next2 hown29; have G29 : KO2 g base cap 55 L w29 := KO2.kept (show KO2 g base cap 55 L _ from by with_reducible repeat (first | assumption | refine Kg.drew ?_ | refine Kg.alloc ?_ _ | refine Kg.call ?_ (by assumption) | refine KO2.drew ?_ | refine KO2.alloc ?_ _ | refine KO2.call ?_ (by assumption))) hgr29 (fun e => by have := (World.ownsRow.lt O26 _ e.symm).1; omega); have X29 : Kg w.heap.size x y w29 := Kg.grown8 (show Kg w.heap.size x y _ from by with_reducible repeat (first | assumption | refine Kg.drew ?_ | refine Kg.alloc ?_ _ | refine Kg.call ?_ (by assumption) | refine KO2.drew ?_ | refine KO2.alloc ?_ _ | refine KO2.call ?_ (by assumption))) hgr29 (fun e => by have := (World.ownsRow.lt O26 _ e.symm).1; omega); have B29 : Below w.heap.size w w29 := Below.grown (show Below w.heap.size w _ from by repeat (first | with_reducible assumption | with_reducible refine Below.drew ?_ | with_reducible refine Below.alloc ?_ (by first | omega | (simp <;> omega)) _ | with_reducible refine bstep ?_ (by with_reducible assumption))) hgr29 (by first | omega | (simp <;> omega)) (fun r hr => by have := (World.ownsRow.lt O26 _ hr).1; omega); have z29 : w.heap.size + 1 ≤ w29.heap.size := kg_lt7 X29)
      | (rw [if_pos (by rfl)]; refine wp_append_own _ _ _ 72 rfl (w.heap.size + 1) 55 i0 (.agg #[.int .i64 0, .int .i64 0]) 2 16 Tryz.underlying72 hinf hz0 hz1 hz2 rfl (by decide) _ (L.take p ++ [(x, y)]).length (cells2 (L.take p ++ [(x, y)])) rfl (show KOV2 (w.heap.size + 1) 55 v29 (L.take p ++ [(x, y)]) _ from by with_reducible repeat (first | assumption | refine KOV2.drew ?_ | refine KOV2.alloc ?_ _)) _ (L.length - p) _ (cells2 (L.drop p)) rfl (drop2_len hpL) (ko2_drop (show KO2 g base cap 55 L _ from by with_reducible repeat (first | assumption | refine Kg.drew ?_ | refine Kg.alloc ?_ _ | refine Kg.call ?_ (by assumption) | refine KO2.drew ?_ | refine KO2.alloc ?_ _ | refine KO2.call ?_ (by assumption))) hpL) (cells2_one _) (by have hh := HLEN.out; unfold maxLen; omega) (by have hh := HLEN.out; omega) (by first | omega | (simp <;> omega)) ?_; intro v33 w33 hown33 hgr33 _; have O33 : KOV2 (w.heap.size + 1) 55 v33 (L.take p ++ [(x, y)] ++ L.drop p) w33 := (by have h := hown33; unfold KOV2; rw [cells2_app7 (L.take p ++ [(x, y)]) (L.drop p), app_len2 (L.take p ++ [(x, y)]) (L.drop p), List.length_drop]; exact h); have X33 : Kg w.heap.size x y w33 := Kg.grown8 (show Kg w.heap.size x y _ from by with_reducible repeat (first | assumption | refine Kg.drew ?_ | refine Kg.alloc ?_ _ | refine Kg.call ?_ (by assumption) | refine KO2.drew ?_ | refine KO2.alloc ?_ _ | refine KO2.call ?_ (by assumption))) hgr33 (fun e => by have := (World.ownsRow.lt O29 _ e.symm).1; omega); have B33 : Below w.heap.size w w33 := Below.grown (show Below w.heap.size w _ from by repeat (first | with_reducible assumption | with_reducible refine Below.drew ?_ | with_reducible refine Below.alloc ?_ (by first | omega | (simp <;> omega)) _ | with_reducible refine bstep ?_ (by with_reducible assumption))) hgr33 (by first | omega | (simp <;> omega)) (fun r hr => by have := (World.ownsRow.lt O29 _ hr).1; omega)))
    all_goals
     rw [← HL.out] at O33
     obtain ⟨g9, cap9, rfl, K9⟩ := KO2.of O33 (by have := HPOS.out; omega)
     go_wp2
     go_ret
     exact ⟨g9, cap9, rfl, ownsRow_lower K9 (by have := HBS.out; omega), B33⟩
end
end Go.Proofs.YtdgophfembpniaaGreatDoor

namespace Go.Proofs.YtdgophfembpniaaGreatDoor
section
open Go.RowKit
set_option linter.unusedSimpArgs false
set_option linter.unusedVariables false

def orbL (A B C : Int) (G : List M6) (u : V2) : List V2 := putAllV (G.map fun g => mv A B C g u)
theorem orbL_mem {A B C : Int} {G : List M6} {u v : V2} : v ∈ orbL A B C G u ↔ Orb A B C G u v := by
 unfold orbL Orb
 rw [putAllV_mem, List.mem_map]
theorem orbL_len (A B C : Int) (G : List M6) (u : V2) : (orbL A B C G u).length ≤ G.length := Nat.le_trans (putAllV_len _) (by rw [List.length_map]; exact Nat.le_refl _)
theorem orbL_next {A B C : Int} {G : List M6} {u : V2} {k : Nat} (hk : k < G.length) : putAllV ((G.take (k + 1)).map fun g => mv A B C g u) = putV (putAllV ((G.take k).map fun g => mv A B C g u)) (mv A B C G[k] u) := by
 rw [List.take_succ_eq_append_getElem hk, List.map_append, List.map_cons, List.map_nil, putAllV_snoc]
/- the cells in their order -/
theorem cellP_mem7 {p q : Nat} {v : V2} : v ∈ cellP q p ↔ celB (p : Int) (q : Int) v = true := by
 unfold cellP cellR
 rw [celB_iff]
 simp only [List.mem_flatMap, List.mem_map, List.mem_range]
 constructor
 ·rintro ⟨a, ha, b, hb, rfl⟩
  simp only
  omega
 ·rintro ⟨⟨h1, h2⟩, h3, h4⟩
  obtain ⟨x, y⟩ := v
  simp only at h1 h2 h3 h4
  exact ⟨x.toNat, by omega, y.toNat, by omega, by simp only [Prod.mk.injEq]; omega⟩
/- the first of an orbit -/
def Cov (A B C : Int) (G : List M6) (pre F : List V2) : Prop := (∀ v ∈ pre, ∃ u ∈ F, Orb A B C G u v) ∧ ∀ u ∈ F, u ∈ pre
theorem cov_step {f A B C : Int} {G : List M6} (hG : grpB f A B C G = true) {pre F : List V2} {v : V2} (hv : celB A C v = true) (h : Cov A B C G pre F) : Cov A B C G (pre ++ [v]) (fstF A B C G F v) := by
 obtain ⟨h1, h2⟩ := h
 unfold fstF
 split
 ·rename_i he
  refine ⟨fun x hx => ?_, fun u hu => by simp [h2 u hu]⟩
  rcases List.mem_append.1 hx with hx | hx
  ·exact h1 x hx
  ·have e : x = v := by simpa using hx
   rw [e]; exact he
 ·refine ⟨fun x hx => ?_, fun u hu => ?_⟩
  ·rcases List.mem_append.1 hx with hx | hx
   ·obtain ⟨u, k1, k2⟩ := h1 x hx
    exact ⟨u, by simp [k1], k2⟩
   ·have e : x = v := by simpa using hx
    rw [e]
    exact ⟨v, by simp, orb_refl hG hv⟩
  ·rcases List.mem_append.1 hu with hu | hu
   ·simp [h2 u hu]
   ·have e : u = v := by simpa using hu
    simp [e]
theorem cov_all {f A B C : Int} {G : List M6} (hG : grpB f A B C G = true) : ∀ (vs pre F : List V2), (∀ v ∈ vs, celB A C v = true) → Cov A B C G pre F → Cov A B C G (pre ++ vs) (vs.foldl (fstF A B C G) F)
 | [], pre, F, _, h => by simpa using h
 | v :: vs, pre, F, hc, h => by
  have h1 := cov_all hG vs (pre ++ [v]) (fstF A B C G F v) (fun x hx => hc x (by simp [hx])) (cov_step hG (hc v (by simp)) h)
  simpa using h1
theorem fst_cov {f A B C : Int} {G : List M6} (hG : grpB f A B C G = true) (vs : List V2) (hc : ∀ v ∈ vs, celB A C v = true) : (∀ v ∈ vs, ∃ u ∈ fstL A B C G vs, Orb A B C G u v) ∧ ∀ u ∈ fstL A B C G vs, u ∈ vs := by
 have h := cov_all hG vs [] [] hc ⟨fun v h => absurd h (by simp), fun u h => absurd h (by simp)⟩
 simpa [Cov, fstL] using h
theorem orb_fin (A B C : Int) (G : List M6) (u : V2) : putAllV ((G.take G.length).map fun g => mv A B C g u) = orbL A B C G u := by rw [List.take_length]; rfl
set_option maxRecDepth 100000 in
set_option maxHeartbeats 8000000 in
theorem l07Orbit_any {f A B C : Int} {lo hi : Nat} {v : Value} {G : List M6} {w : World} (p q : Int) (hG : grpB f A B C G = true) (hu : celB A C (p, q) = true) (h : SRow lo hi 6 v G.length (fm G) w) :
  Calls Tryz.prog 63 #[.agg #[.int .i64 A, .int .i64 B, .int .i64 C], v, .agg #[.int .i64 p, .int .i64 q]] w fun e w' => ∃ g cap, e = .returned (.slice (some ⟨g, 0, none⟩) (orbL A B C G (p, q)).length cap) ∧ KO2 g w.heap.size cap 55 (orbL A B C G (p, q)) w' ∧ Below w.heap.size w w' := by
 have HA := Lib.hid h
 have HGR := Lib.hid hG
 have HCL := Lib.hid hu
 have L0 : Kt w.heap.size A B C ((w.alloc (.cells #[.int .i64 A, .int .i64 B, .int .i64 C] 32)).alloc (.cells #[.int .i64 p, .int .i64 q] 55)) := Kt.alloc (Kt.at _ rfl) _
 have V0 : Kg (w.heap.size + 1) p q ((w.alloc (.cells #[.int .i64 A, .int .i64 B, .int .i64 C] 32)).alloc (.cells #[.int .i64 p, .int .i64 q] 55)) := Kg.at2 _ (by simp)
 have B0 : Below w.heap.size w ((w.alloc (.cells #[.int .i64 A, .int .i64 B, .int .i64 C] 32)).alloc (.cells #[.int .i64 p, .int .i64 q] 55)) := (((Below.refl _ _).alloc (Nat.le_refl _) _).alloc (by simp) _)
 obtain ⟨ao, cap, rfl⟩ := srow_shape h
 have H768 := Lib.hid (grp_len hG)
 have h7 : (G.length : Int) ≤ 768 := by have := grp_len hG; omega
 clear h hG hu
 have LQ := L0.alloc (.cells #[] 55)
 have VQ := V0.alloc (.cells #[] 55)
 have BR : Below w.heap.size w (((w.alloc (.cells #[.int .i64 A, .int .i64 B, .int .i64 C] 32)).alloc (.cells #[.int .i64 p, .int .i64 q] 55)).alloc (.cells #[] 55)) := B0.alloc (by simp; omega) _
 have OQ : KO2 (w.heap.size + 1 + 1) (w.heap.size + 1 + 1) 0 55 [] (((w.alloc (.cells #[.int .i64 A, .int .i64 B, .int .i64 C] 32)).alloc (.cells #[.int .i64 p, .int .i64 q] 55)).alloc (.cells #[] 55)) := lit2 _ _ (by simp) (by simp)
 clear L0 V0 B0
 go_enter Tryz.func63, Tryz.ntmps63
 go_wp2_with fail
 go_loopw [7, 8] (fun s7 s8 W => ∃ (k : Nat) (O : List V2) (go co : Nat), s8 = .int .i64 (k : Int) ∧ k ≤ G.length ∧ O = (putAllV ((G.take k).map fun g => mv A B C g (p, q))) ∧ s7 = .slice (some ⟨go, 0, none⟩) O.length co ∧ KO2 go (w.heap.size + 1 + 1) co 55 O W ∧ Kt w.heap.size A B C W ∧ Kg (w.heap.size + 1) p q W ∧ Below w.heap.size w W) (fun _ s8 _ => G.length - (intOf s8).toNat)
 case atStart => exact ⟨0, [], _, _, rfl, by omega, rfl, rfl, OQ, LQ, VQ, BR⟩
 case round =>
  clear OQ LQ VQ BR
  obtain ⟨k, O, go, co, rfl, hk, hOe, rfl, hO, hL, hV, hB⟩ := hrel
  by_cases hk1 : k < G.length
  ·have HOU := Lib.hid (show UpV O by rw [hOe]; exact putAllV_up _)
   have HOL := Lib.hid (show O.length ≤ 768 by
    rw [hOe]
    exact Nat.le_trans (putAllV_len _) (by rw [List.length_map, List.length_take]; have := H768.out; omega))
   have HNX := Lib.hid (show putAllV ((G.take (k + 1)).map fun g => mv A B C g (p, q)) = putV O (mv A B C G[k] (p, q)) by rw [hOe]; exact orbL_next hk1)
   have HMEM := Lib.hid ((grp_ok HGR.out).2.1 G[k] (List.getElem_mem hk1))
   have hk2 : (k : Int) < (G.length : Int) := by omega
   have hk3 : (k : Int) ≤ 768 := by omega
   have hres := HA.out.2.2.resolve_left (fun h => by omega)
   have hhi := HA.out.1
   obtain ⟨g, cap', e9, _, hg, RA⟩ := hres
   simp only [Value.slice.injEq, true_and] at e9
   obtain ⟨rfl, rfl⟩ := e9
   have q1 := (RA.grow hB (by omega)).mo k hk1
   have HT := Lib.hid (show G.take (k + 1) = G.take k ++ [G[k]] from List.take_succ_eq_append_getElem hk1)
   have HTL := Lib.hid (show (G.take k).length ≤ 768 by rw [List.length_take]; omega)
   have HK := Lib.hid hk1
   clear RA hg hhi hk
   generalize G[k] = m at q1 HT HNX HMEM
   clear hk1
   obtain ⟨a, b, c, d, x, y⟩ := m
   dsimp only at q1
   clear HT HTL hOe
   obtain ⟨hl, hli, hv, hp, hx, hy⟩ := mv_mid HMEM.out.1 HMEM.out.2 HCL.out
   have CT : Hid (∀ W, Calls Tryz.prog 97 #[.agg #[.int .i64 A, .int .i64 B, .int .i64 C], .agg #[.int .i64 a, .int .i64 b, .int .i64 c, .int .i64 d, .int .i64 x, .int .i64 y], .agg #[.int .i64 p, .int .i64 q]] W fun e w' => e = .returned (.agg #[.int .i64 (redX A B C (a * p + b * q + x) (c * p + d * q + y)), .int .i64 (redY C (c * p + d * q + y))]) ∧ Below W.heap.size W w') := Lib.hid (fun W => l07Move_any A B C a b c d x y p q W hl hli hv hp hx hy)
   have HMV : Hid (mv A B C (a, b, c, d, x, y) (p, q) = (redX A B C (a * p + b * q + x) (c * p + d * q + y), redY C (c * p + d * q + y))) := Lib.hid rfl
   clear hl hli hv hp hx hy HMEM
   generalize redX A B C (a * p + b * q + x) (c * p + d * q + y) = rx at CT HMV
   generalize redY C (c * p + d * q + y) = ry at CT HMV
   rw [HMV.out] at HNX
   clear HMV
   have CI : Hid (∀ W, KO2 go (w.heap.size + 1 + 1) co 55 O W → w.heap.size + 1 + 1 ≤ W.heap.size → Calls Tryz.prog 96 #[.slice (some ⟨go, 0, none⟩) O.length co, .agg #[.int .i64 rx, .int .i64 ry]] W fun e w' => ∃ g cap, e = .returned (.slice (some ⟨g, 0, none⟩) (putV O (rx, ry)).length cap) ∧ KO2 g (w.heap.size + 1 + 1) cap 55 (putV O (rx, ry)) w' ∧ Below W.heap.size W w') := Lib.hid (fun W hW hs => l01Insert_any rx ry hW ⟨_, _, rfl⟩ hs HOU.out (by have := HOL.out; omega))
   have hgl := ko_lt q1
   have hgo := (KO2.lt hO).2
   have hLl := kt_lt hL
   have hVl := kg_lt7 hV
   have q1c := q1.cells
   have hLc := hL.cells
   have hVc := hV.cells
   have zB := hB.size
   go_wp2_with fail
   go_region_held3 (fun W => (W.cell? ⟨w.heap.size, 0, none⟩ = some (.int .i64 A) ∧ W.cell? ⟨w.heap.size, 1, none⟩ = some (.int .i64 B) ∧ W.cell? ⟨w.heap.size, 2, none⟩ = some (.int .i64 C)) ∧ (W.cell? ⟨w.heap.size + 1, 0, none⟩ = some (.int .i64 p) ∧ W.cell? ⟨w.heap.size + 1, 1, none⟩ = some (.int .i64 q)) ∧ (W.cell? ⟨g, k * 6, none⟩ = some (.int .i64 a) ∧ W.cell? ⟨g, k * 6 + 1, none⟩ = some (.int .i64 b) ∧ W.cell? ⟨g, k * 6 + 2, none⟩ = some (.int .i64 c) ∧ W.cell? ⟨g, k * 6 + 3, none⟩ = some (.int .i64 d) ∧ W.cell? ⟨g, k * 6 + 4, none⟩ = some (.int .i64 x) ∧ W.cell? ⟨g, k * 6 + 5, none⟩ = some (.int .i64 y))) ((refine ⟨Kt.cells ?_, Kg.cells ?_, Ko6.cells ?_⟩) <;> with_reducible repeat (first | assumption | refine Kt.drew ?_ | refine Kt.alloc ?_ _ | refine Kt.call ?_ (by assumption) | refine Kg.drew ?_ | refine Kg.alloc ?_ _ | refine Kg.call ?_ (by assumption) | refine Ko6.drew ?_ | refine Ko6.alloc ?_ _ | refine Ko6.call ?_ (by assumption) | refine KO2.drew ?_ | refine KO2.alloc ?_ _ | refine KO2.call ?_ (by assumption)))
    (first
     | (go_at_call 97; with_reducible refine (CT.out _).mono ?_; rintro e u7 ⟨rfl, hb7⟩; have L7 : Kt w.heap.size A B C u7 := (by with_reducible repeat (first | assumption | refine Kt.drew ?_ | refine Kt.alloc ?_ _ | refine Kt.call ?_ (by assumption) | refine Kg.drew ?_ | refine Kg.alloc ?_ _ | refine Kg.call ?_ (by assumption) | refine Ko6.drew ?_ | refine Ko6.alloc ?_ _ | refine Ko6.call ?_ (by assumption) | refine KO2.drew ?_ | refine KO2.alloc ?_ _ | refine KO2.call ?_ (by assumption))); have V7 : Kg (w.heap.size + 1) p q u7 := (by with_reducible repeat (first | assumption | refine Kt.drew ?_ | refine Kt.alloc ?_ _ | refine Kt.call ?_ (by assumption) | refine Kg.drew ?_ | refine Kg.alloc ?_ _ | refine Kg.call ?_ (by assumption) | refine Ko6.drew ?_ | refine Ko6.alloc ?_ _ | refine Ko6.call ?_ (by assumption) | refine KO2.drew ?_ | refine KO2.alloc ?_ _ | refine KO2.call ?_ (by assumption))); have Q7 : Ko6 g (k * 6) a b c d x y u7 := (by with_reducible repeat (first | assumption | refine Kt.drew ?_ | refine Kt.alloc ?_ _ | refine Kt.call ?_ (by assumption) | refine Kg.drew ?_ | refine Kg.alloc ?_ _ | refine Kg.call ?_ (by assumption) | refine Ko6.drew ?_ | refine Ko6.alloc ?_ _ | refine Ko6.call ?_ (by assumption) | refine KO2.drew ?_ | refine KO2.alloc ?_ _ | refine KO2.call ?_ (by assumption))); have O7 : KO2 go (w.heap.size + 1 + 1) co 55 O u7 := (by with_reducible repeat (first | assumption | refine Kt.drew ?_ | refine Kt.alloc ?_ _ | refine Kt.call ?_ (by assumption) | refine Kg.drew ?_ | refine Kg.alloc ?_ _ | refine Kg.call ?_ (by assumption) | refine Ko6.drew ?_ | refine Ko6.alloc ?_ _ | refine Ko6.call ?_ (by assumption) | refine KO2.drew ?_ | refine KO2.alloc ?_ _ | refine KO2.call ?_ (by assumption))); have B7 : Below w.heap.size w u7 := (by repeat (first | with_reducible assumption | with_reducible exact Below.refl _ _ | with_reducible refine Below.alloc ?_ (by first | omega | (simp <;> omega)) _ | with_reducible refine bstep ?_ (by with_reducible assumption) | with_reducible refine Below.drew ?_)))
     | (go_at_call 96; with_reducible refine (CI.out _ (by with_reducible repeat (first | assumption | refine Kt.drew ?_ | refine Kt.alloc ?_ _ | refine Kt.call ?_ (by assumption) | refine Kg.drew ?_ | refine Kg.alloc ?_ _ | refine Kg.call ?_ (by assumption) | refine Ko6.drew ?_ | refine Ko6.alloc ?_ _ | refine Ko6.call ?_ (by assumption) | refine KO2.drew ?_ | refine KO2.alloc ?_ _ | refine KO2.call ?_ (by assumption))) (by have := kg_lt7 V7; first | omega | (simp; omega))).mono ?_; rintro e u8 ⟨g6, cap6, rfl, O8, hb8⟩; have L8 : Kt w.heap.size A B C u8 := (by with_reducible repeat (first | assumption | refine Kt.drew ?_ | refine Kt.alloc ?_ _ | refine Kt.call ?_ (by assumption) | refine Kg.drew ?_ | refine Kg.alloc ?_ _ | refine Kg.call ?_ (by assumption) | refine Ko6.drew ?_ | refine Ko6.alloc ?_ _ | refine Ko6.call ?_ (by assumption) | refine KO2.drew ?_ | refine KO2.alloc ?_ _ | refine KO2.call ?_ (by assumption))); have V8 : Kg (w.heap.size + 1) p q u8 := (by with_reducible repeat (first | assumption | refine Kt.drew ?_ | refine Kt.alloc ?_ _ | refine Kt.call ?_ (by assumption) | refine Kg.drew ?_ | refine Kg.alloc ?_ _ | refine Kg.call ?_ (by assumption) | refine Ko6.drew ?_ | refine Ko6.alloc ?_ _ | refine Ko6.call ?_ (by assumption) | refine KO2.drew ?_ | refine KO2.alloc ?_ _ | refine KO2.call ?_ (by assumption))); have Q8 : Ko6 g (k * 6) a b c d x y u8 := (by with_reducible repeat (first | assumption | refine Kt.drew ?_ | refine Kt.alloc ?_ _ | refine Kt.call ?_ (by assumption) | refine Kg.drew ?_ | refine Kg.alloc ?_ _ | refine Kg.call ?_ (by assumption) | refine Ko6.drew ?_ | refine Ko6.alloc ?_ _ | refine Ko6.call ?_ (by assumption) | refine KO2.drew ?_ | refine KO2.alloc ?_ _ | refine KO2.call ?_ (by assumption))); have B8 : Below w.heap.size w u8 := (by repeat (first | with_reducible assumption | with_reducible exact Below.refl _ _ | with_reducible refine Below.alloc ?_ (by first | omega | (simp <;> omega)) _ | with_reducible refine bstep ?_ (by with_reducible assumption) | with_reducible refine Below.drew ?_))))
   all_goals
    clear hL hV hO hB q1 q1c hLc hVc L7 V7 Q7 O7 B7 hb7 hb8 Q8
    go_wp2
    go_roundw
    case rel => exact ⟨k + 1, putV O (rx, ry), g6, cap6, by go_num, by have := HK.out; omega, HNX.out.symm, rfl, O8, L8, V8, B8⟩
    case measure => (have := HK.out); first | (simp [intOf]; done) | (simp [intOf]; omega)
  ·obtain rfl : k = G.length := by omega
   rw [orb_fin] at hOe
   subst hOe
   have K9 : KO2 go w.heap.size co 55 (orbL A B C G (p, q)) wr := ownsRow_lower hO (by omega)
   have HK9 := Lib.hid K9
   clear hk hk1 hO K9 hL hV
   go_wp2
   go_ret
   exact ⟨_, _, rfl, HK9.out, hB⟩
end
end Go.Proofs.YtdgophfembpniaaGreatDoor

namespace Go.Proofs.YtdgophfembpniaaGreatDoor
section
open Go.RowKit
set_option linter.unusedSimpArgs false
set_option linter.unusedVariables false

theorem own_ne7 {W : World} {b1 b2 K1 K2 g g' n n' cap cap' : Nat} {e1 e2 : TypeId} {xs ys : List Value} (h1 : W.ownsRow b1 e1 K1 (.slice (some ⟨g, 0, none⟩) n cap) n xs) (h2 : W.ownsRow b2 e2 K2 (.slice (some ⟨g', 0, none⟩) n' cap') n' ys) (he : e1 ≠ e2) : g ≠ g' := by
 rcases h1.2 with ⟨h, _⟩ | ⟨a, c, cur, e, _, hg, _⟩
 ·simp at h
 rcases h2.2 with ⟨h, _⟩ | ⟨a', c', cur', e', _, hg', _⟩
 ·simp at h
 simp only [Value.slice.injEq, Option.some.injEq, Addr.mk.injEq, and_true, true_and] at e e'
 obtain ⟨rfl, rfl⟩ := e
 obtain ⟨rfl, rfl⟩ := e'
 rintro rfl
 rw [hg] at hg'
 cases hg'
 exact he rfl
/- a row of values of one cell that the call owns, by its block -/
def KOs (g base cap : Nat) (T : TypeId) (vs : List Value) (W : World) : Prop := W.ownsRow base T 1 (.slice (some ⟨g, 0, none⟩) vs.length cap) vs.length vs
theorem KOs.call {g base cap : Nat} {T : TypeId} {vs : List Value} {W w1 : World} (h : KOs g base cap T vs W) (hb : Below W.heap.size W w1) : KOs g base cap T vs w1 := ownsRow_call h hb
theorem KOs.alloc {g base cap : Nat} {T : TypeId} {vs : List Value} {W : World} (h : KOs g base cap T vs W) (z : Obj) : KOs g base cap T vs (W.alloc z) := h.call ((Below.refl _ _).alloc (Nat.le_refl _) _)
theorem KOs.drew {g base cap : Nat} {T : TypeId} {vs : List Value} {W : World} (h : KOs g base cap T vs W) : KOs g base cap T vs W.drew := h.call (Below.refl _ _).drew
theorem KOs.lt {g base cap : Nat} {T : TypeId} {vs : List Value} {W : World} (h : KOs g base cap T vs W) : base ≤ g ∧ g < W.heap.size := World.ownsRow.lt h g rfl
theorem KOs.of {base : Nat} {T : TypeId} {v : Value} {vs : List Value} {W : World} (h : W.ownsRow base T 1 v vs.length vs) (hn : 0 < vs.length) : ∃ g cap, v = .slice (some ⟨g, 0, none⟩) vs.length cap ∧ KOs g base cap T vs W := by
 rcases h.2 with ⟨_, h0⟩ | ⟨g, cap, cur, rfl, r⟩
 ·omega
 ·exact ⟨g, cap, rfl, h⟩
/- the orbits of some first cells, each in a row of its own -/
def OrbV (A B C : Int) (G : List M6) (lo : Nat) (F : List V2) (vs : List Value) (W : World) : Prop :=
 vs.length = F.length ∧ ∀ k (h : k < F.length), ∃ g cap, vs[k]? = some (.slice (some ⟨g, 0, none⟩) (orbL A B C G F[k]).length cap) ∧ KO2 g lo cap 55 (orbL A B C G F[k]) W
theorem OrbV.call {A B C : Int} {G : List M6} {lo : Nat} {F : List V2} {vs : List Value} {W w1 : World} (h : OrbV A B C G lo F vs W) (hb : Below W.heap.size W w1) : OrbV A B C G lo F vs w1 :=
 ⟨h.1, fun k hk => by obtain ⟨g, cap, h1, h2⟩ := h.2 k hk; exact ⟨g, cap, h1, h2.call hb⟩⟩
theorem OrbV.alloc {A B C : Int} {G : List M6} {lo : Nat} {F : List V2} {vs : List Value} {W : World} (h : OrbV A B C G lo F vs W) (z : Obj) : OrbV A B C G lo F vs (W.alloc z) := h.call ((Below.refl _ _).alloc (Nat.le_refl _) _)
theorem OrbV.drew {A B C : Int} {G : List M6} {lo : Nat} {F : List V2} {vs : List Value} {W : World} (h : OrbV A B C G lo F vs W) : OrbV A B C G lo F vs W.drew := h.call (Below.refl _ _).drew
theorem OrbV.grown {A B C : Int} {G : List M6} {lo go base co : Nat} {F : List V2} {vs ws : List Value} {W w1 : World} (h : OrbV A B C G lo F vs W) (ho : KOs go base co 72 ws W) (hg : W.grownBy w1 (some go)) : OrbV A B C G lo F vs w1 :=
 ⟨h.1, fun k hk => by
  obtain ⟨g, cap, h1, h2⟩ := h.2 k hk
  exact ⟨g, cap, h1, h2.kept hg (fun e => own_ne7 h2 ho (by decide) (Option.some.inj e))⟩⟩
theorem OrbV.snoc {A B C : Int} {G : List M6} {lo g cap : Nat} {F : List V2} {u : V2} {vs : List Value} {W : World} (h : OrbV A B C G lo F vs W) (hk : KO2 g lo cap 55 (orbL A B C G u) W) : OrbV A B C G lo (F ++ [u]) (vs ++ [Value.slice (some ⟨g, 0, none⟩) (orbL A B C G u).length cap]) W := by
 refine ⟨by simp [h.1], fun k hk2 => ?_⟩
 by_cases e : k < F.length
 ·obtain ⟨g', cap', h1, h2⟩ := h.2 k e
  refine ⟨g', cap', ?_, ?_⟩
  ·rw [List.getElem?_append_left (by rw [h.1]; exact e), List.getElem_append_left e]; exact h1
  ·rw [List.getElem_append_left e]; exact h2
 ·have ek : k = F.length := by simp at hk2; omega
  subst ek
  refine ⟨g, cap, ?_, ?_⟩
  ·rw [List.getElem?_append_right (by rw [h.1]; omega), h.1]; simp
  ·simpa using hk
attribute [local go_sem ↓] eqVe7
end
end Go.Proofs.YtdgophfembpniaaGreatDoor

