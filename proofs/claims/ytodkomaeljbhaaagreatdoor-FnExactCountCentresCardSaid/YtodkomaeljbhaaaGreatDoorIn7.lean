/-
  The model's insertion of a vector into a sorted list of vectors, with what a fold of insertions keeps. Condition: a list of at most 100,000 vectors.
-/
import Derived.Test.YtodkomaeljbhaaaGreatDoorOrJ
import Derived.Deep.RegionHeld3
import Derived.IntWalk
namespace Go.Proofs.YtodkomaeljbhaaaGreatDoor
open Go.RowKit
set_option linter.unusedSimpArgs false
set_option linter.unusedVariables false

def ltV (m n : V2) : Bool := decide (m.1 < n.1 ∨ m.1 = n.1 ∧ m.2 < n.2)
theorem ltV_irrefl (m : V2) : ltV m m = false := by simp [ltV]
theorem ltV_trans {m n k : V2} (h : ltV m n = true) (h' : ltV n k = true) : ltV m k = true := by
  simp only [ltV, decide_eq_true_eq] at *; omega
theorem ltV_total {m n : V2} (h : ltV m n = false) (h' : ltV n m = false) : m = n := by
  obtain ⟨x, y⟩ := m
  obtain ⟨x', y'⟩ := n
  simp only [ltV, decide_eq_false_iff_not] at h h'
  have : x = x' ∧ y = y' := by omega
  obtain ⟨rfl, rfl⟩ := this
  rfl
theorem ltV_asymm {m n : V2} (h : ltV m n = true) : ltV n m = false := by
  rcases h' : ltV n m with _ | _
  · rfl
  · have := ltV_trans h h'
    rw [ltV_irrefl] at this; cases this
abbrev UpV (L : List V2) : Prop := L.Pairwise fun m n => ltV m n = true
theorem UpV.nodup {L : List V2} (h : UpV L) : L.Nodup := h.imp fun {a b} hab e => by subst e; rw [ltV_irrefl] at hab; cases hab
theorem upV_unique {L L' : List V2} (h : UpV L) (h' : UpV L') (hm : ∀ m, m ∈ L ↔ m ∈ L') : L = L' :=
  List.Perm.eq_of_pairwise (le := fun m n => ltV m n = true) (fun a b _ _ h1 h2 => by rw [ltV_asymm h1] at h2; cases h2) h h' ((List.perm_ext_iff_of_nodup h.nodup h'.nodup).2 hm)
def plV (L : List V2) (m : V2) : Nat := (L.filter fun n => ltV n m).length
theorem plV_le (L : List V2) (m : V2) : plV L m ≤ L.length := List.length_filter_le _ _
theorem plV_iff (m : V2) : ∀ (L : List V2), UpV L → ∀ (i : Nat) (h : i < L.length), ltV L[i] m = true ↔ i < plV L m
  | [], _, i, h => absurd h (by simp)
  | a :: L, hU, i, h => by
    have h1 := List.pairwise_cons.1 hU
    have ih := plV_iff m L h1.2
    rcases ha : ltV a m with _ | _
    · have hz : L.filter (fun n => ltV n m) = [] := by
        refine List.filter_eq_nil_iff.2 fun n hn hnm => ?_
        have := ltV_trans (h1.1 n hn) hnm
        rw [ha] at this; cases this
      have e : plV (a :: L) m = 0 := by simp [plV, ha, hz]
      rw [e]
      refine ⟨fun h' => ?_, fun h' => absurd h' (by omega)⟩
      cases i with
      | zero => simp only [List.getElem_cons_zero] at h'; rw [ha] at h'; cases h'
      | succ i =>
        simp only [List.getElem_cons_succ] at h'
        have := ltV_trans (h1.1 _ (List.getElem_mem (by simpa using h))) h'
        rw [ha] at this; cases this
    · have e : plV (a :: L) m = plV L m + 1 := by simp [plV, ha]
      rw [e]
      cases i with
      | zero => simp only [List.getElem_cons_zero]; exact ⟨fun _ => by omega, fun _ => ha⟩
      | succ i =>
        simp only [List.getElem_cons_succ]
        rw [ih i (by simpa using h)]
        omega
theorem plV_at {L : List V2} {m : V2} (hU : UpV L) (hm : m ∈ L) : ∃ h : plV L m < L.length, L[plV L m] = m := by
  obtain ⟨i, hi, rfl⟩ := List.mem_iff_getElem.1 hm
  have h1 : ¬ i < plV L L[i] := fun h => by
    have := (plV_iff L[i] L hU i hi).2 h
    rw [ltV_irrefl] at this; cases this
  have h2 : ¬ plV L L[i] < i := fun h => by
    have hlt : plV L L[i] < L.length := by omega
    have h3 := List.pairwise_iff_getElem.1 hU _ _ hlt hi h
    have := (plV_iff L[i] L hU _ hlt).1 h3
    omega
  have e : plV L L[i] = i := by omega
  exact ⟨by omega, by simp only [e]⟩
theorem plV_mem {L : List V2} {m : V2} (hU : UpV L) : m ∈ L ↔ ∃ h : plV L m < L.length, L[plV L m] = m :=
  ⟨plV_at hU, fun ⟨h, e⟩ => by rw [← e]; exact List.getElem_mem h⟩
def insV (L : List V2) (m : V2) : List V2 := L.take (plV L m) ++ m :: L.drop (plV L m)
theorem insV_mem {L : List V2} {m n : V2} : n ∈ insV L m ↔ n = m ∨ n ∈ L := by
  unfold insV
  have : n ∈ L ↔ n ∈ L.take (plV L m) ∨ n ∈ L.drop (plV L m) := by
    rw [← List.mem_append, List.take_append_drop]
  rw [List.mem_append, List.mem_cons, this]
  constructor
  · rintro (h | h | h)
    · exact .inr (.inl h)
    · exact .inl h
    · exact .inr (.inr h)
  · rintro (h | h | h)
    · exact .inr (.inl h)
    · exact .inl h
    · exact .inr (.inr h)
theorem insV_up {L : List V2} {m : V2} (hU : UpV L) (hm : m ∉ L) : UpV (insV L m) := by
  have hp := plV_iff m L hU
  have h1 : ∀ a ∈ L.take (plV L m), ltV a m = true := by
    intro a ha
    obtain ⟨i, hi, rfl⟩ := List.mem_iff_getElem.1 ha
    have hi2 : i < plV L m ∧ i < L.length := by rw [List.length_take] at hi; omega
    rw [List.getElem_take]
    exact (hp i hi2.2).2 hi2.1
  have h2 : ∀ a ∈ L.drop (plV L m), ltV m a = true := by
    intro a ha
    have hmem := List.mem_of_mem_drop ha
    obtain ⟨i, hi, rfl⟩ := List.mem_iff_getElem.1 ha
    rw [List.length_drop] at hi
    have hi2 : plV L m + i < L.length := by omega
    rw [List.getElem_drop] at hmem ⊢
    rcases hc : ltV m L[plV L m + i] with _ | _
    · exfalso
      have hn : ltV L[plV L m + i] m = false := by
        rcases hc2 : ltV L[plV L m + i] m with _ | _
        · rfl
        · have := (hp _ hi2).1 hc2
          omega
      have := ltV_total hc hn
      exact hm (this ▸ hmem)
    · rfl
  unfold insV
  refine List.pairwise_append.2 ⟨hU.sublist (List.take_sublist _ _), List.pairwise_cons.2 ⟨h2, hU.sublist (List.drop_sublist _ _)⟩, fun a ha b hb => ?_⟩
  rcases List.mem_cons.1 hb with rfl | hb
  · exact h1 a ha
  · exact ltV_trans (h1 a ha) (h2 b hb)
theorem insV_len (L : List V2) (m : V2) : (insV L m).length = L.length + 1 := by
  unfold insV
  have := plV_le L m
  simp only [List.length_append, List.length_take, List.length_cons, List.length_drop]
  omega
def putV (L : List V2) (m : V2) : List V2 := if m ∈ L then L else insV L m
theorem putV_mem {L : List V2} {m n : V2} : n ∈ putV L m ↔ n = m ∨ n ∈ L := by
  unfold putV
  split
  · rename_i h
    exact ⟨.inr, fun h' => h'.elim (fun e => e ▸ h) id⟩
  · exact insV_mem
theorem putV_up {L : List V2} {m : V2} (hU : UpV L) : UpV (putV L m) := by
  unfold putV
  split
  · exact hU
  · rename_i h; exact insV_up hU h
theorem putV_len (L : List V2) (m : V2) : (putV L m).length ≤ L.length + 1 := by
  unfold putV
  split
  · omega
  · rw [insV_len]; omega
def putAllV (L : List V2) : List V2 := L.foldl putV []
theorem putAllV_snoc (L : List V2) (m : V2) : putAllV (L ++ [m]) = putV (putAllV L) m := by simp [putAllV, List.foldl_append]
theorem putAllV_facts : ∀ (L L0 : List V2), UpV L0 → UpV (L.foldl putV L0) ∧ ∀ m, m ∈ L.foldl putV L0 ↔ m ∈ L0 ∨ m ∈ L
  | [], L0, h => ⟨h, by simp⟩
  | a :: L, L0, h => by
    obtain ⟨h1, h2⟩ := putAllV_facts L (putV L0 a) (putV_up h)
    refine ⟨h1, fun m => (h2 m).trans ?_⟩
    rw [putV_mem, List.mem_cons]
    constructor
    · rintro ((h | h) | h)
      · exact .inr (.inl h)
      · exact .inl h
      · exact .inr (.inr h)
    · rintro (h | h | h)
      · exact .inl (.inr h)
      · exact .inl (.inl h)
      · exact .inr h
theorem putAllV_up (L : List V2) : UpV (putAllV L) := (putAllV_facts L [] List.Pairwise.nil).1
theorem putAllV_mem (L : List V2) (m : V2) : m ∈ putAllV L ↔ m ∈ L := by rw [putAllV, (putAllV_facts L [] List.Pairwise.nil).2]; simp
theorem putAllV_len (L : List V2) : (putAllV L).length ≤ L.length := nodup_len _ _ (putAllV_up L).nodup fun m hm => (putAllV_mem L m).1 hm
theorem hasV_yes {L : List V2} {m : V2} (hU : UpV L) (h : plV L m < L.length) : decide (L[plV L m] = m) = decide (m ∈ L) := by
  rw [decide_eq_decide]
  exact ⟨fun e => by rw [← e]; exact List.getElem_mem h, fun hm => (plV_at hU hm).2⟩
theorem hasV_no {L : List V2} {m : V2} (hU : UpV L) (h : ¬ plV L m < L.length) : decide (m ∈ L) = false := decide_eq_false fun hm => h (plV_at hU hm).1
theorem putV_old {L : List V2} {m : V2} (hU : UpV L) (h : decide (m ∈ L) = true) : putV L m = L := by simp [putV, of_decide_eq_true h]
theorem putV_new {L : List V2} {m : V2} (hU : UpV L) (h : decide (m ∈ L) = false) : putV L m = L.take (plV L m) ++ [m] ++ L.drop (plV L m) := by
  have := of_decide_eq_false h
  simp [putV, this, insV]
theorem cells2_app7 (xs ys : List V2) : cells2 (xs ++ ys) = cells2 xs ++ cells2 ys := by simp [cells2]
theorem cells2_take (L : List V2) (n j : Nat) (u : Value) (h : (cells2 (L.take n))[j]? = some u) : (cells2 L)[j]? = some u := by
  have e : cells2 L = cells2 (L.take n) ++ cells2 (L.drop n) := by rw [← cells2_app7, List.take_append_drop]
  have hj : j < (cells2 (L.take n)).length := (List.getElem?_eq_some_iff.1 h).1
  rw [e, List.getElem?_append_left hj]; exact h
theorem cells2_drop (L : List V2) (n j : Nat) (u : Value) (hn : n ≤ L.length) (h : (cells2 (L.drop n))[j]? = some u) : (cells2 L)[n * 2 + j]? = some u := by
  have e : cells2 L = cells2 (L.take n) ++ cells2 (L.drop n) := by rw [← cells2_app7, List.take_append_drop]
  have hl : (cells2 (L.take n)).length = n * 2 := by rw [cells2_len, List.length_take]; congr 1; omega
  rw [e, List.getElem?_append_right (by omega), hl]
  rw [show n * 2 + j - n * 2 = j by omega]; exact h
theorem cells2_one (L : List V2) : ∀ u ∈ cells2 L, u.oneCell' = true := by
  intro u hu
  obtain ⟨z, rfl⟩ := cells2_int L u hu
  rfl
theorem app_len2 (a b : List V2) : (a ++ b).length = a.length + b.length := List.length_append
def KO2 (g base cap : Nat) (T : TypeId) (Q : List V2) (W : World) : Prop := W.ownsRow base T 2 (.slice (some ⟨g, 0, none⟩) Q.length cap) Q.length (cells2 Q)
theorem KO2.call {g base cap : Nat} {T : TypeId} {Q : List V2} {W w1 : World} (h : KO2 g base cap T Q W) (hb : Below W.heap.size W w1) : KO2 g base cap T Q w1 := ownsRow_call h hb
theorem KO2.alloc {g base cap : Nat} {T : TypeId} {Q : List V2} {W : World} (h : KO2 g base cap T Q W) (o : Obj) : KO2 g base cap T Q (W.alloc o) := h.call ((Below.refl _ _).alloc (Nat.le_refl _) _)
theorem KO2.drew {g base cap : Nat} {T : TypeId} {Q : List V2} {W : World} (h : KO2 g base cap T Q W) : KO2 g base cap T Q W.drew := h.call (Below.refl _ _).drew
theorem KO2.lt {g base cap : Nat} {T : TypeId} {Q : List V2} {W : World} (h : KO2 g base cap T Q W) : base ≤ g ∧ g < W.heap.size := World.ownsRow.lt h g rfl
theorem KO2.kept {g base cap : Nat} {T : TypeId} {Q : List V2} {W w1 : World} {row : Option Nat} (h : KO2 g base cap T Q W) (hg : W.grownBy w1 row) (hne : some g ≠ row) : KO2 g base cap T Q w1 := World.ownsRow.kept h hg (.inr (fun e => hne (by rw [← e]; rfl)))
theorem KO2.vec {g base cap : Nat} {T : TypeId} {Q : List V2} {W : World} (h : KO2 g base cap T Q W) (hn : Q.length ≤ 1000000) (i : Nat) (hi : i < Q.length) : Ko2 g (i * 2) Q[i].1 Q[i].2 W := by
  have hs := SRow.of h (cells2_int _) hn
  obtain ⟨g', cap', e, _, _, r⟩ := hs.2.2.resolve_left (fun h => by omega)
  simp only [Value.slice.injEq, Option.some.injEq, Addr.mk.injEq, and_true, true_and] at e
  obtain ⟨rfl, _⟩ := e
  exact r.v27 i hi
theorem KO2.of {base : Nat} {T : TypeId} {v : Value} {Q : List V2} {W : World} (h : W.ownsRow base T 2 v Q.length (cells2 Q)) (hn : 0 < Q.length) : ∃ g cap, v = .slice (some ⟨g, 0, none⟩) Q.length cap ∧ KO2 g base cap T Q W := by
  rcases h.2 with ⟨_, h0⟩ | ⟨g, cap, cur, rfl, r⟩
  · omega
  · exact ⟨g, cap, rfl, h⟩
theorem KO2.put {g base cap : Nat} {T : TypeId} {Q : List V2} {W : World} {p : Addr} {u : Value} (hp : p.block ≠ g) (h : KO2 g base cap T Q W) : KO2 g base cap T Q (W.setCell p u) := by
  rcases h.2 with ⟨h0, _⟩ | ⟨g', cap', cur, he, r1, r2, r3⟩
  · simp at h0
  · simp only [Value.slice.injEq, Option.some.injEq, Addr.mk.injEq, and_true, true_and] at he
    obtain ⟨rfl, rfl⟩ := he
    exact ⟨h.1, .inr ⟨_, _, cur, rfl, r1, by rw [Below.heap_setCell _ _ _ _ (by omega)]; exact r2, r3⟩⟩
theorem Kg.grown8 {R : Nat} {a b : Int} {W w1 : World} {row : Option Nat} (h : Kg R a b W) (hg : W.grownBy w1 row) (hne : some R ≠ row) : Kg R a b w1 :=
  ⟨Nat.lt_of_lt_of_le h.1 hg.size, hg.cell h.2.1 hne, hg.cell h.2.2 hne⟩
def KOV2 (base : Nat) (T : TypeId) (v : Value) (L : List V2) (w : World) : Prop := w.ownsRow base T 2 v L.length (cells2 L)
theorem KOV2.call {base : Nat} {T : TypeId} {v : Value} {L : List V2} {W w1 : World} (h : KOV2 base T v L W) (hb : Below W.heap.size W w1) : KOV2 base T v L w1 := ownsRow_call h hb
theorem KOV2.alloc {base : Nat} {T : TypeId} {v : Value} {L : List V2} {W : World} (h : KOV2 base T v L W) (z : Obj) : KOV2 base T v L (W.alloc z) := h.call ((Below.refl _ _).alloc (Nat.le_refl _) _)
theorem KOV2.drew {base : Nat} {T : TypeId} {v : Value} {L : List V2} {W : World} (h : KOV2 base T v L W) : KOV2 base T v L W.drew := h.call (Below.refl _ _).drew
theorem KO2.cap_le {g base cap : Nat} {T : TypeId} {L : List V2} {W : World} (h : KO2 g base cap T L W) : L.length ≤ cap := by
  rcases h.2 with ⟨h', _⟩ | ⟨g', cap', cur, h', _, hg, hc, _⟩
  · cases h'
  · simp only [Value.slice.injEq] at h'
    omega
theorem add_zero2 (g o j : Nat) : (⟨g, o, none⟩ : Addr).add j = ⟨g, o + j, none⟩ := by
  unfold Addr.add
  split
  · rename_i h; subst h; rfl
  · rfl
theorem ko2_take {g base cap n : Nat} {T : TypeId} {L : List V2} {W : World} (h : KO2 g base cap T L W) : ∀ (j : Nat) (u : Value), (cells2 (L.take n))[j]? = some u → W.cell? ((⟨g, 0, none⟩ : Addr).add j) = some u := by
  intro j u hj
  have h1 := cells2_take L n j u hj
  have hlt : j < (cells2 L).length := (List.getElem?_eq_some_iff.1 h1).1
  rw [add_zero2, Nat.zero_add, World.ownsRow.cellAt h j (by rw [cells2_len] at hlt; exact hlt)]
  exact h1
theorem ko2_drop {g base cap n : Nat} {T : TypeId} {L : List V2} {W : World} (h : KO2 g base cap T L W) (hn : n ≤ L.length) : ∀ (j : Nat) (u : Value), (cells2 (L.drop n))[j]? = some u → W.cell? ((⟨g, n * 2, none⟩ : Addr).add j) = some u := by
  intro j u hj
  have h1 := cells2_drop L n j u hn hj
  have hlt : n * 2 + j < (cells2 L).length := (List.getElem?_eq_some_iff.1 h1).1
  rw [add_zero2, World.ownsRow.cellAt h (n * 2 + j) (by rw [cells2_len] at hlt; exact hlt)]
  exact h1
theorem lit2 {base : Nat} {T : TypeId} (W : World) (g : Nat) (hg : g = W.heap.size) (hb : base ≤ W.heap.size) : KOV2 base T (.slice (some ⟨g, 0, none⟩) 0 0) [] (W.alloc (.cells #[] T)) := by
  subst hg
  have h := World.ownsRow_lit (base := base) (e := T) (size := 2) W #[] 0 hb (by unfold maxLen; omega) rfl
  exact h
theorem take2_len {L : List V2} {n : Nat} (h : n ≤ L.length) : (cells2 (L.take n)).length = n * 2 := by rw [cells2_len, List.length_take, Nat.min_eq_left h]
theorem drop2_len {L : List V2} {n : Nat} (h : n ≤ L.length) : (cells2 (L.drop n)).length = (L.length - n) * 2 := by rw [cells2_len, List.length_drop]
theorem kg_two8 {g : Nat} {x y : Int} {W : World} (h : Kg g x y W) : ∀ (j : Nat) (u : Value), [Value.int .i64 x, .int .i64 y][j]? = some u → W.cell? ((⟨g, 0, none⟩ : Addr).add j) = some u := by
  intro j u hj
  obtain ⟨_, h0, h1⟩ := h
  rw [add_zero2, Nat.zero_add]
  match j, hj with
  | 0, e => cases e; exact h0
  | 1, e => cases e; exact h1
  | j + 2, e => simp at e
attribute [local go_sem ↓] eqVe7
theorem infoVe7 : (Tryz.prog.info? 53).map (fun i => (i.zero, i.size, i.bytes)) = some (some (.agg #[.int .i64 0, .int .i64 0]), 2, 16) := by kernel_rfl
set_option maxRecDepth 100000 in
set_option maxHeartbeats 8000000 in
theorem l01Insert_any {base : Nat} {v : Value} {L : List V2} {w : World} (x y : Int) (hK : w.ownsRow base 53 2 v L.length (cells2 L)) (hv : ∃ g cap, v = .slice (some ⟨g, 0, none⟩) L.length cap) (hbase : base ≤ w.heap.size) (hU : UpV L) (hn : L.length ≤ 100000) :
    Calls Tryz.prog 65 #[v, .agg #[.int .i64 x, .int .i64 y]] w fun e w' => ∃ g cap, e = .returned (.slice (some ⟨g, 0, none⟩) (putV L (x, y)).length cap) ∧ KO2 g base cap 53 (putV L (x, y)) w' ∧ Below w.heap.size w w' := by
  obtain ⟨i0, hinf, hz0, hz1, hz2⟩ := info_parts infoVe7
  obtain ⟨g, cap, rfl⟩ := hv
  have HUP := Lib.hid hU
  have HOW0 := Lib.hid (show KOV2 base 53 (.slice (some ⟨g, 0, none⟩) L.length cap) L w from hK)
  have HGW := Lib.hid (show KO2 g base cap 53 L w from hK)
  have HBS := Lib.hid hbase
  have HN1 := Lib.hid hn
  have HPOS := Lib.hid (show 0 < (putV L (x, y)).length from List.length_pos_of_mem (putV_mem.2 (.inl rfl)))
  have HIFF := Lib.hid (plV_iff (x, y) L hU)
  have HPLE := Lib.hid (plV_le L (x, y))
  have HY := Lib.hid (fun hp => hasV_yes (m := (x, y)) hU hp)
  have HO := Lib.hid (fun hp => hasV_no (m := (x, y)) hU hp)
  have X0 : Kg w.heap.size x y (w.alloc (.cells #[.int .i64 x, .int .i64 y] 53)) := Kg.at2 _ rfl
  have B0 : Below w.heap.size w (w.alloc (.cells #[.int .i64 x, .int .i64 y] 53)) := (Below.refl _ _).alloc (Nat.le_refl _) _
  have hn2 : (L.length : Int) ≤ 100000 := by omega
  have HS := trivial
  clear hK hbase hU hn
  generalize hp : plV L (x, y) = p at HIFF HPLE HY HO
  have HPE := Lib.hid hp
  have HP := Lib.hid (show p ≤ L.length ∧ L.length ≤ 100000 from ⟨HPLE.out, HN1.out⟩)
  clear hp
  go_enter Tryz.func65, Tryz.ntmps65
  go_wp2_with fail
  go_loopw [5] (fun s5 W => ∃ k : Nat, s5 = .int .i64 (k : Int) ∧ k ≤ L.length ∧ k ≤ p ∧ Kg w.heap.size x y W ∧ Below w.heap.size w W) (fun s5 _ => L.length - (intOf s5).toNat)
  case atStart => exact ⟨0, rfl, by omega, by omega, X0, B0⟩
  case round =>
    clear X0 B0
    obtain ⟨k, rfl, hk, hkp, X0, B0⟩ := hrel
    by_cases hk1 : k < L.length
    · have hk2 : (k : Int) < (L.length : Int) := by omega
      have hk3 : (k : Int) ≤ 100000 := by omega
      have q1 := (HGW.out.call B0).vec (by have := HN1.out; omega) k hk1
      have HK := Lib.hid hk1
      have hiff := HIFF.out k hk1
      have HYK := Lib.hid (show p = k → decide (L[k] = (x, y)) = decide ((x, y) ∈ L) from fun e => by subst e; exact HY.out hk1)
      generalize L[k] = m at q1 hiff HYK
      obtain ⟨a, b⟩ := m
      dsimp only at q1
      have CL := Lib.hid (fun W => lex2_any a b x y W)
      have hlx : lex2 a b x y = ltV (a, b) (x, y) := rfl
      rw [hlx] at CL
      clear hlx
      have q1c := q1.cells
      have X0c := X0.cells
      have HKP := Lib.hid hkp
      clear hk hk1 hkp
      rcases hlt : ltV (a, b) (x, y) with _ | _
      all_goals
        rw [hlt] at CL hiff
        have HI2 := Lib.hid hiff
        clear hiff hlt
        go_wp2_with fail
        go_region_held3 (fun W => (W.cell? ⟨w.heap.size, 0, none⟩ = some (.int .i64 x) ∧ W.cell? ⟨w.heap.size, 1, none⟩ = some (.int .i64 y)) ∧ (W.cell? ⟨g, k * 2, none⟩ = some (.int .i64 a) ∧ W.cell? ⟨g, k * 2 + 1, none⟩ = some (.int .i64 b))) ((refine And.intro (Kg.cells ?_) (Ko2.cells ?_)) <;> repeat (first | with_reducible assumption | with_reducible refine Kg.drew ?_ | with_reducible refine Kg.alloc ?_ _ | with_reducible refine Kg.call ?_ (by with_reducible assumption) | with_reducible refine Ko2.drew ?_ | with_reducible refine Ko2.alloc ?_ _ | with_reducible refine Ko2.call ?_ (by with_reducible assumption)))
          (first
            | (go_at_call 101; with_reducible refine (CL.out _).mono ?_; rintro e w1 ⟨rfl, hb1⟩; have X1 : Kg w.heap.size x y w1 := (by repeat (first | with_reducible assumption | with_reducible refine Kg.drew ?_ | with_reducible refine Kg.alloc ?_ _ | with_reducible refine Kg.call ?_ (by with_reducible assumption) | with_reducible refine Ko2.drew ?_ | with_reducible refine Ko2.alloc ?_ _ | with_reducible refine Ko2.call ?_ (by with_reducible assumption))); have q2 : Ko2 g (k * 2) a b w1 := (by repeat (first | with_reducible assumption | with_reducible refine Kg.drew ?_ | with_reducible refine Kg.alloc ?_ _ | with_reducible refine Kg.call ?_ (by with_reducible assumption) | with_reducible refine Ko2.drew ?_ | with_reducible refine Ko2.alloc ?_ _ | with_reducible refine Ko2.call ?_ (by with_reducible assumption))); have B1 : Below w.heap.size w w1 := (by repeat (first | with_reducible assumption | with_reducible exact Below.refl _ _ | with_reducible refine Below.alloc ?_ (by first | omega | (simp <;> omega)) _ | with_reducible refine bstep ?_ (by with_reducible assumption) | with_reducible refine Below.drew ?_))))
      · have hpk : p = k := by have h3 : ¬ k < p := (fun h => by have h4 := HI2.out.2 h; cases h4); have h2 := HKP.out; omega
        have HE := Lib.hid (eqV2_dec (a, b) (x, y))
        dsimp only at HE
        have HDD := Lib.hid (HYK.out hpk)
        have hgl : g < w.heap.size := (KO2.lt HGW.out).2
        have HK8 := Lib.hid HK.out
        subst hpk
        have hpl : p < L.length := HK8.out
        clear q1 q1c X0 X0c B0 hb1 HI2 HYK CL HY HO
        have q1 := q2
        clear q2
        have q1c := q1.cells
        have X1c := X1.cells
        have X1l := kg_lt7 X1
        have hp3 : (p : Int) ≤ 100000 := by omega
        rcases hd : decide (((a, b) : V2) = (x, y)) with _ | _
        · have he : eqV2 a b x y = false := HE.out.trans hd
          have HF := Lib.hid (HDD.out.symm.trans hd)
          clear HE HDD hd
          go_wp2_with fail
          go_quiet (fail)
          go_wp2_with fail
          have XX : Kg w.heap.size x y (w1.drewN nq) := Kg.call X1 (below_drewN (Below.refl _ _) _)
          have GG : KO2 g base cap 53 L (w1.drewN nq) := KO2.call (KO2.call (show KO2 g base cap 53 L w from HOW0.out) B1) (below_drewN (Below.refl _ _) _)
          have BB : Below w.heap.size w (w1.drewN nq) := below_drewN B1 _
          have zB := B1.size
          have zW : (w1.drewN nq).heap.size = w1.heap.size := rfl
          clear X1 X1c q1 q1c B1 HS
          generalize w1.drewN nq = W0 at *
          rw [← zW] at zB X1l
          have hcl := KO2.cap_le GG
          clear zW
          have hpL : p ≤ L.length := by omega
          have hcp : ¬ cap = p := by omega
          have HLEN := Lib.hid (show (L.take p ++ [(x, y)]).length = p + 1 by rw [List.length_append, List.length_take, Nat.min_eq_left hpL]; rfl)
          have HL := Lib.hid (putV_new HUP.out HF.out)
          rw [HPE.out] at HL
          have Xc := XX.cells
          have hpc : p ≤ cap := by omega
          go_region_held3 (fun W => (W.cell? ⟨w.heap.size, 0, none⟩ = some (.int .i64 x) ∧ W.cell? ⟨w.heap.size, 1, none⟩ = some (.int .i64 y))) ((refine Kg.cells ?_) <;> repeat (first | with_reducible assumption | with_reducible refine Kg.drew ?_ | with_reducible refine Kg.alloc ?_ _ | with_reducible refine Kg.call ?_ (by with_reducible assumption) | with_reducible refine KO2.drew ?_ | with_reducible refine KO2.alloc ?_ _ | with_reducible refine KO2.call ?_ (by with_reducible assumption)))
            (first
              | (rw [if_pos (by rfl)]; refine wp_append_own _ _ _ 41 rfl (w.heap.size + 1) 53 i0 (.agg #[.int .i64 0, .int .i64 0]) 2 16 Tryz.underlying41 hinf hz0 hz1 hz2 rfl (by decide) _ 0 [] rfl (by first | exact (lit2 W0 W0.heap.size rfl (by omega)) | exact KOV2.drew (lit2 W0 W0.heap.size rfl (by omega)) | exact KOV2.alloc (lit2 W0 W0.heap.size rfl (by omega)) _ | exact KOV2.drew (KOV2.alloc (lit2 W0 W0.heap.size rfl (by omega)) _) | exact KOV2.drew (KOV2.alloc (KOV2.drew (lit2 W0 W0.heap.size rfl (by omega))) _) | exact (lit2 _ (W0.heap.size + 1) (by simp) (by simp; omega)) | exact KOV2.drew (lit2 _ (W0.heap.size + 1) (by simp) (by simp; omega))) ⟨g, 0, none⟩ p _ (cells2 (L.take p)) rfl (take2_len hpL) (ko2_take (show KO2 g base cap 53 L _ from by repeat (first | with_reducible assumption | with_reducible refine Kg.drew ?_ | with_reducible refine Kg.alloc ?_ _ | with_reducible refine Kg.call ?_ (by with_reducible assumption) | with_reducible refine KO2.drew ?_ | with_reducible refine KO2.alloc ?_ _ | with_reducible refine KO2.call ?_ (by with_reducible assumption)))) (cells2_one _) (by unfold maxLen; omega) (by omega) (by first | omega | (simp <;> omega)) ?_; intro v26 w26 hown26 hgr26 _; have O26 : KOV2 (w.heap.size + 1) 53 v26 (L.take p) w26 := (by have h := hown26; unfold KOV2; rw [List.length_take, Nat.min_eq_left hpL]; simpa using h); have G26 : KO2 g base cap 53 L w26 := KO2.kept (show KO2 g base cap 53 L _ from by repeat (first | with_reducible assumption | with_reducible refine Kg.drew ?_ | with_reducible refine Kg.alloc ?_ _ | with_reducible refine Kg.call ?_ (by with_reducible assumption) | with_reducible refine KO2.drew ?_ | with_reducible refine KO2.alloc ?_ _ | with_reducible refine KO2.call ?_ (by with_reducible assumption))) hgr26 (fun e => by have e2 := Option.some.inj e; first | omega | (simp at e2; done) | (simp at e2; omega)); have X26 : Kg w.heap.size x y w26 := Kg.grown8 (show Kg w.heap.size x y _ from by repeat (first | with_reducible assumption | with_reducible refine Kg.drew ?_ | with_reducible refine Kg.alloc ?_ _ | with_reducible refine Kg.call ?_ (by with_reducible assumption) | with_reducible refine KO2.drew ?_ | with_reducible refine KO2.alloc ?_ _ | with_reducible refine KO2.call ?_ (by with_reducible assumption))) hgr26 (fun e => by have e2 := Option.some.inj e; first | omega | (simp at e2; done) | (simp at e2; omega)); (first | have S26 := Kg.grown8 (Kg.at2 (W0.heap.size + 1) (by simp)) hgr26 (fun e => by have e2 := Option.some.inj e; first | omega | (simp at e2; done) | (simp at e2; omega)) | have S26 := Kg.grown8 (Kg.drew (Kg.at2 (W0.heap.size + 1) (by simp))) hgr26 (fun e => by have e2 := Option.some.inj e; first | omega | (simp at e2; done) | (simp at e2; omega)) | have S26 := Kg.grown8 (Kg.alloc (Kg.at2 W0.heap.size rfl) _) hgr26 (fun e => by have e2 := Option.some.inj e; first | omega | (simp at e2; done) | (simp at e2; omega)) | have S26 := Kg.grown8 (Kg.drew (Kg.alloc (Kg.at2 W0.heap.size rfl) _)) hgr26 (fun e => by have e2 := Option.some.inj e; first | omega | (simp at e2; done) | (simp at e2; omega)) | have S26 := Kg.grown8 (Kg.alloc (Kg.drew (Kg.at2 W0.heap.size rfl)) _) hgr26 (fun e => by have e2 := Option.some.inj e; first | omega | (simp at e2; done) | (simp at e2; omega)) | have S26 := Kg.grown8 (Kg.drew (Kg.alloc (Kg.drew (Kg.at2 W0.heap.size rfl)) _)) hgr26 (fun e => by have e2 := Option.some.inj e; first | omega | (simp at e2; done) | (simp at e2; omega)) | have S26 := trivial); have B26 : Below w.heap.size w w26 := Below.grown (show Below w.heap.size w _ from by repeat (first | with_reducible assumption | with_reducible refine Below.drew ?_ | with_reducible refine Below.alloc ?_ (by first | omega | (simp <;> omega)) _ | with_reducible refine bstep ?_ (by with_reducible assumption))) hgr26 (by first | omega | (simp <;> omega)) (fun r hr => by have e2 := Option.some.inj hr; first | omega | (simp at e2; omega)); have z26 : w.heap.size + 1 ≤ w26.heap.size := kg_lt7 X26)
              | (rw [if_pos (by rfl)]; refine wp_append_own _ _ _ 41 rfl (w.heap.size + 1) 53 i0 (.agg #[.int .i64 0, .int .i64 0]) 2 16 Tryz.underlying41 hinf hz0 hz1 hz2 rfl (by decide) _ (L.take p).length (cells2 (L.take p)) rfl (show KOV2 (w.heap.size + 1) 53 v26 (L.take p) _ from by repeat (first | with_reducible assumption | with_reducible refine KOV2.drew ?_ | with_reducible refine KOV2.alloc ?_ _)) _ 1 1 [.int .i64 x, .int .i64 y] rfl rfl (by first | exact kg_two8 S26 | exact kg_two8 (Kg.drew S26) | exact kg_two8 (Kg.at2 _ rfl) | exact kg_two8 (Kg.drew (Kg.at2 _ rfl))) one_two (by have hh := take2_len hpL; rw [cells2_len] at hh; unfold maxLen; omega) (by have hh := take2_len hpL; rw [cells2_len] at hh; omega) (by first | omega | (simp <;> omega)) ?_; intro v29 w29 hown29 hgr29 _; have O29 : KOV2 (w.heap.size + 1) 53 v29 (L.take p ++ [(x, y)]) w29 := own_next2 hown29; have G29 : KO2 g base cap 53 L w29 := KO2.kept (show KO2 g base cap 53 L _ from by repeat (first | with_reducible assumption | with_reducible refine Kg.drew ?_ | with_reducible refine Kg.alloc ?_ _ | with_reducible refine Kg.call ?_ (by with_reducible assumption) | with_reducible refine KO2.drew ?_ | with_reducible refine KO2.alloc ?_ _ | with_reducible refine KO2.call ?_ (by with_reducible assumption))) hgr29 (fun e => by have := (World.ownsRow.lt O26 _ e.symm).1; omega); have X29 : Kg w.heap.size x y w29 := Kg.grown8 (show Kg w.heap.size x y _ from by repeat (first | with_reducible assumption | with_reducible refine Kg.drew ?_ | with_reducible refine Kg.alloc ?_ _ | with_reducible refine Kg.call ?_ (by with_reducible assumption) | with_reducible refine KO2.drew ?_ | with_reducible refine KO2.alloc ?_ _ | with_reducible refine KO2.call ?_ (by with_reducible assumption))) hgr29 (fun e => by have := (World.ownsRow.lt O26 _ e.symm).1; omega); have B29 : Below w.heap.size w w29 := Below.grown (show Below w.heap.size w _ from by repeat (first | with_reducible assumption | with_reducible refine Below.drew ?_ | with_reducible refine Below.alloc ?_ (by first | omega | (simp <;> omega)) _ | with_reducible refine bstep ?_ (by with_reducible assumption))) hgr29 (by first | omega | (simp <;> omega)) (fun r hr => by have := (World.ownsRow.lt O26 _ hr).1; omega); have z29 : w.heap.size + 1 ≤ w29.heap.size := kg_lt7 X29)
              | (rw [if_pos (by rfl)]; refine wp_append_own _ _ _ 41 rfl (w.heap.size + 1) 53 i0 (.agg #[.int .i64 0, .int .i64 0]) 2 16 Tryz.underlying41 hinf hz0 hz1 hz2 rfl (by decide) _ (L.take p ++ [(x, y)]).length (cells2 (L.take p ++ [(x, y)])) rfl (show KOV2 (w.heap.size + 1) 53 v29 (L.take p ++ [(x, y)]) _ from by repeat (first | with_reducible assumption | with_reducible refine KOV2.drew ?_ | with_reducible refine KOV2.alloc ?_ _)) _ (L.length - p) _ (cells2 (L.drop p)) rfl (drop2_len hpL) (ko2_drop (show KO2 g base cap 53 L _ from by repeat (first | with_reducible assumption | with_reducible refine Kg.drew ?_ | with_reducible refine Kg.alloc ?_ _ | with_reducible refine Kg.call ?_ (by with_reducible assumption) | with_reducible refine KO2.drew ?_ | with_reducible refine KO2.alloc ?_ _ | with_reducible refine KO2.call ?_ (by with_reducible assumption))) hpL) (cells2_one _) (by have hh := HLEN.out; unfold maxLen; omega) (by have hh := HLEN.out; omega) (by first | omega | (simp <;> omega)) ?_; intro v33 w33 hown33 hgr33 _; have O33 : KOV2 (w.heap.size + 1) 53 v33 (L.take p ++ [(x, y)] ++ L.drop p) w33 := (by have h := hown33; unfold KOV2; rw [cells2_app7 (L.take p ++ [(x, y)]) (L.drop p), app_len2 (L.take p ++ [(x, y)]) (L.drop p), List.length_drop]; exact h); have X33 : Kg w.heap.size x y w33 := Kg.grown8 (show Kg w.heap.size x y _ from by repeat (first | with_reducible assumption | with_reducible refine Kg.drew ?_ | with_reducible refine Kg.alloc ?_ _ | with_reducible refine Kg.call ?_ (by with_reducible assumption) | with_reducible refine KO2.drew ?_ | with_reducible refine KO2.alloc ?_ _ | with_reducible refine KO2.call ?_ (by with_reducible assumption))) hgr33 (fun e => by have := (World.ownsRow.lt O29 _ e.symm).1; omega); have B33 : Below w.heap.size w w33 := Below.grown (show Below w.heap.size w _ from by repeat (first | with_reducible assumption | with_reducible refine Below.drew ?_ | with_reducible refine Below.alloc ?_ (by first | omega | (simp <;> omega)) _ | with_reducible refine bstep ?_ (by with_reducible assumption))) hgr33 (by first | omega | (simp <;> omega)) (fun r hr => by have := (World.ownsRow.lt O29 _ hr).1; omega)))
          all_goals
            rw [← HL.out] at O33
            obtain ⟨g9, cap9, rfl, K9⟩ := KO2.of O33 (by have := HPOS.out; omega)
            go_wp2
            go_ret
            exact ⟨g9, cap9, rfl, ownsRow_lower K9 (by have := HBS.out; omega), B33⟩
        · have he : eqV2 a b x y = true := HE.out.trans hd
          have HF := Lib.hid (HDD.out.symm.trans hd)
          clear HE HDD hd
          go_wp2_with fail
          go_quiet (fail)
          go_wp2
          go_ret
          have hl : putV L (x, y) = L := putV_old HUP.out HF.out
          exact ⟨g, cap, by rw [hl]; rfl, by rw [hl]; exact KO2.call HOW0.out (by repeat (first | with_reducible assumption | with_reducible exact Below.refl _ _ | with_reducible refine Below.alloc ?_ (by first | omega | (simp <;> omega)) _ | with_reducible refine bstep ?_ (by with_reducible assumption) | with_reducible refine Below.drew ?_ | with_reducible refine below_drewN ?_ _)), by repeat (first | with_reducible assumption | with_reducible exact Below.refl _ _ | with_reducible refine Below.alloc ?_ (by first | omega | (simp <;> omega)) _ | with_reducible refine bstep ?_ (by with_reducible assumption) | with_reducible refine Below.drew ?_ | with_reducible refine below_drewN ?_ _)⟩
      · have hkp2 : k < p := HI2.out.1 (by first | rfl | trivial)
        clear q1 q1c X0 X0c B0 hb1 HI2 HYK CL
        go_wp2
        go_roundw
        case rel => exact ⟨k + 1, by go_num, by have := HK.out; omega, by omega, X1, B1⟩
        case measure => (have := HK.out); first | (simp [intOf]; done) | (simp [intOf]; omega)
    · have hpl : ¬ p < L.length := by omega
      have hpk : p = k := by have := HP.out.1; omega
      subst hpk
      have HF := Lib.hid (HO.out hpl)
      have hpe : (p : Int) = (L.length : Int) := by have := HP.out.1; omega
      have X0c := X0.cells
      clear hk hkp hk1
      go_wp2_with fail
      go_quiet (fail)
      go_wp2_with fail
      have X1 := Kg.call X0 (below_drewN (Below.refl _ _) nq)
      have B1 : Below w.heap.size w (wr.drewN nq) := below_drewN B0 _
      clear X0 X0c B0
      generalize wr.drewN nq = w1 at *
      have X1c := X1.cells
      have X1l := kg_lt7 X1
      clear HIFF HY HO hpe
      have hgl : g < w.heap.size := (KO2.lt (show KO2 g base cap 53 L w from HOW0.out)).2
      have hpL : p ≤ L.length := HP.out.1
      by_cases hcp : cap = p
      · have hdn : L.drop p = [] := List.drop_eq_nil_of_le (by omega)
        go_wp2_with fail
        go_quiet (fail)
        go_wp2_with fail
        have XX : Kg w.heap.size x y (w1.drewN nq) := Kg.call X1 (below_drewN (Below.refl _ _) _)
        have GG : KO2 g base cap 53 L (w1.drewN nq) := KO2.call (KO2.call (show KO2 g base cap 53 L w from HOW0.out) B1) (below_drewN (Below.refl _ _) _)
        have BB : Below w.heap.size w (w1.drewN nq) := below_drewN B1 _
        have zB := B1.size
        have zW : (w1.drewN nq).heap.size = w1.heap.size := rfl
        clear X1 X1c  B1 HS
        generalize w1.drewN nq = W0 at *
        rw [← zW] at zB X1l
        have hcl := KO2.cap_le GG
        clear zW

        have HLEN := Lib.hid (show (L.take p ++ [(x, y)]).length = p + 1 by rw [List.length_append, List.length_take, Nat.min_eq_left hpL]; rfl)
        have HL := Lib.hid (putV_new HUP.out HF.out)
        rw [HPE.out] at HL
        have Xc := XX.cells
        have hpc : p ≤ cap := by omega
        go_region_held3 (fun W => (W.cell? ⟨w.heap.size, 0, none⟩ = some (.int .i64 x) ∧ W.cell? ⟨w.heap.size, 1, none⟩ = some (.int .i64 y))) ((refine Kg.cells ?_) <;> repeat (first | with_reducible assumption | with_reducible refine Kg.drew ?_ | with_reducible refine Kg.alloc ?_ _ | with_reducible refine Kg.call ?_ (by with_reducible assumption) | with_reducible refine KO2.drew ?_ | with_reducible refine KO2.alloc ?_ _ | with_reducible refine KO2.call ?_ (by with_reducible assumption)))
          (first
            | (rw [if_pos (by rfl)]; refine wp_append_own _ _ _ 41 rfl (w.heap.size + 1) 53 i0 (.agg #[.int .i64 0, .int .i64 0]) 2 16 Tryz.underlying41 hinf hz0 hz1 hz2 rfl (by decide) _ 0 [] rfl (by first | exact (lit2 W0 W0.heap.size rfl (by omega)) | exact KOV2.drew (lit2 W0 W0.heap.size rfl (by omega)) | exact KOV2.alloc (lit2 W0 W0.heap.size rfl (by omega)) _ | exact KOV2.drew (KOV2.alloc (lit2 W0 W0.heap.size rfl (by omega)) _) | exact KOV2.drew (KOV2.alloc (KOV2.drew (lit2 W0 W0.heap.size rfl (by omega))) _) | exact (lit2 _ (W0.heap.size + 1) (by simp) (by simp; omega)) | exact KOV2.drew (lit2 _ (W0.heap.size + 1) (by simp) (by simp; omega))) ⟨g, 0, none⟩ p _ (cells2 (L.take p)) rfl (take2_len hpL) (ko2_take (show KO2 g base cap 53 L _ from by repeat (first | with_reducible assumption | with_reducible refine Kg.drew ?_ | with_reducible refine Kg.alloc ?_ _ | with_reducible refine Kg.call ?_ (by with_reducible assumption) | with_reducible refine KO2.drew ?_ | with_reducible refine KO2.alloc ?_ _ | with_reducible refine KO2.call ?_ (by with_reducible assumption)))) (cells2_one _) (by unfold maxLen; omega) (by omega) (by first | omega | (simp <;> omega)) ?_; intro v26 w26 hown26 hgr26 _; have O26 : KOV2 (w.heap.size + 1) 53 v26 (L.take p) w26 := (by have h := hown26; unfold KOV2; rw [List.length_take, Nat.min_eq_left hpL]; simpa using h); have G26 : KO2 g base cap 53 L w26 := KO2.kept (show KO2 g base cap 53 L _ from by repeat (first | with_reducible assumption | with_reducible refine Kg.drew ?_ | with_reducible refine Kg.alloc ?_ _ | with_reducible refine Kg.call ?_ (by with_reducible assumption) | with_reducible refine KO2.drew ?_ | with_reducible refine KO2.alloc ?_ _ | with_reducible refine KO2.call ?_ (by with_reducible assumption))) hgr26 (fun e => by have e2 := Option.some.inj e; first | omega | (simp at e2; done) | (simp at e2; omega)); have X26 : Kg w.heap.size x y w26 := Kg.grown8 (show Kg w.heap.size x y _ from by repeat (first | with_reducible assumption | with_reducible refine Kg.drew ?_ | with_reducible refine Kg.alloc ?_ _ | with_reducible refine Kg.call ?_ (by with_reducible assumption) | with_reducible refine KO2.drew ?_ | with_reducible refine KO2.alloc ?_ _ | with_reducible refine KO2.call ?_ (by with_reducible assumption))) hgr26 (fun e => by have e2 := Option.some.inj e; first | omega | (simp at e2; done) | (simp at e2; omega)); (first | have S26 := Kg.grown8 (Kg.at2 (W0.heap.size + 1) (by simp)) hgr26 (fun e => by have e2 := Option.some.inj e; first | omega | (simp at e2; done) | (simp at e2; omega)) | have S26 := Kg.grown8 (Kg.drew (Kg.at2 (W0.heap.size + 1) (by simp))) hgr26 (fun e => by have e2 := Option.some.inj e; first | omega | (simp at e2; done) | (simp at e2; omega)) | have S26 := Kg.grown8 (Kg.alloc (Kg.at2 W0.heap.size rfl) _) hgr26 (fun e => by have e2 := Option.some.inj e; first | omega | (simp at e2; done) | (simp at e2; omega)) | have S26 := Kg.grown8 (Kg.drew (Kg.alloc (Kg.at2 W0.heap.size rfl) _)) hgr26 (fun e => by have e2 := Option.some.inj e; first | omega | (simp at e2; done) | (simp at e2; omega)) | have S26 := Kg.grown8 (Kg.alloc (Kg.drew (Kg.at2 W0.heap.size rfl)) _) hgr26 (fun e => by have e2 := Option.some.inj e; first | omega | (simp at e2; done) | (simp at e2; omega)) | have S26 := Kg.grown8 (Kg.drew (Kg.alloc (Kg.drew (Kg.at2 W0.heap.size rfl)) _)) hgr26 (fun e => by have e2 := Option.some.inj e; first | omega | (simp at e2; done) | (simp at e2; omega)) | have S26 := trivial); have B26 : Below w.heap.size w w26 := Below.grown (show Below w.heap.size w _ from by repeat (first | with_reducible assumption | with_reducible refine Below.drew ?_ | with_reducible refine Below.alloc ?_ (by first | omega | (simp <;> omega)) _ | with_reducible refine bstep ?_ (by with_reducible assumption))) hgr26 (by first | omega | (simp <;> omega)) (fun r hr => by have e2 := Option.some.inj hr; first | omega | (simp at e2; omega)); have z26 : w.heap.size + 1 ≤ w26.heap.size := kg_lt7 X26)
            | (rw [if_pos (by rfl)]; refine wp_append_own _ _ _ 41 rfl (w.heap.size + 1) 53 i0 (.agg #[.int .i64 0, .int .i64 0]) 2 16 Tryz.underlying41 hinf hz0 hz1 hz2 rfl (by decide) _ (L.take p).length (cells2 (L.take p)) rfl (show KOV2 (w.heap.size + 1) 53 v26 (L.take p) _ from by repeat (first | with_reducible assumption | with_reducible refine KOV2.drew ?_ | with_reducible refine KOV2.alloc ?_ _)) _ 1 1 [.int .i64 x, .int .i64 y] rfl rfl (by first | exact kg_two8 S26 | exact kg_two8 (Kg.drew S26) | exact kg_two8 (Kg.at2 _ rfl) | exact kg_two8 (Kg.drew (Kg.at2 _ rfl))) one_two (by have hh := take2_len hpL; rw [cells2_len] at hh; unfold maxLen; omega) (by have hh := take2_len hpL; rw [cells2_len] at hh; omega) (by first | omega | (simp <;> omega)) ?_; intro v29 w29 hown29 hgr29 _; have O29 : KOV2 (w.heap.size + 1) 53 v29 (L.take p ++ [(x, y)]) w29 := own_next2 hown29; have G29 : KO2 g base cap 53 L w29 := KO2.kept (show KO2 g base cap 53 L _ from by repeat (first | with_reducible assumption | with_reducible refine Kg.drew ?_ | with_reducible refine Kg.alloc ?_ _ | with_reducible refine Kg.call ?_ (by with_reducible assumption) | with_reducible refine KO2.drew ?_ | with_reducible refine KO2.alloc ?_ _ | with_reducible refine KO2.call ?_ (by with_reducible assumption))) hgr29 (fun e => by have := (World.ownsRow.lt O26 _ e.symm).1; omega); have X29 : Kg w.heap.size x y w29 := Kg.grown8 (show Kg w.heap.size x y _ from by repeat (first | with_reducible assumption | with_reducible refine Kg.drew ?_ | with_reducible refine Kg.alloc ?_ _ | with_reducible refine Kg.call ?_ (by with_reducible assumption) | with_reducible refine KO2.drew ?_ | with_reducible refine KO2.alloc ?_ _ | with_reducible refine KO2.call ?_ (by with_reducible assumption))) hgr29 (fun e => by have := (World.ownsRow.lt O26 _ e.symm).1; omega); have B29 : Below w.heap.size w w29 := Below.grown (show Below w.heap.size w _ from by repeat (first | with_reducible assumption | with_reducible refine Below.drew ?_ | with_reducible refine Below.alloc ?_ (by first | omega | (simp <;> omega)) _ | with_reducible refine bstep ?_ (by with_reducible assumption))) hgr29 (by first | omega | (simp <;> omega)) (fun r hr => by have := (World.ownsRow.lt O26 _ hr).1; omega); have z29 : w.heap.size + 1 ≤ w29.heap.size := kg_lt7 X29)
            | (rw [if_pos (by rfl)]; refine wp_append_own _ _ _ 41 rfl (w.heap.size + 1) 53 i0 (.agg #[.int .i64 0, .int .i64 0]) 2 16 Tryz.underlying41 hinf hz0 hz1 hz2 rfl (by decide) _ (L.take p ++ [(x, y)]).length (cells2 (L.take p ++ [(x, y)])) rfl (show KOV2 (w.heap.size + 1) 53 v29 (L.take p ++ [(x, y)]) _ from by repeat (first | with_reducible assumption | with_reducible refine KOV2.drew ?_ | with_reducible refine KOV2.alloc ?_ _)) _ (L.length - p) _ (cells2 (L.drop p)) rfl (drop2_len hpL) (by rw [hdn]; intro j u hj; simp [cells2] at hj) (cells2_one _) (by have hh := HLEN.out; unfold maxLen; omega) (by have hh := HLEN.out; omega) (by first | omega | (simp <;> omega)) ?_; intro v33 w33 hown33 hgr33 _; have O33 : KOV2 (w.heap.size + 1) 53 v33 (L.take p ++ [(x, y)] ++ L.drop p) w33 := (by have h := hown33; unfold KOV2; rw [cells2_app7 (L.take p ++ [(x, y)]) (L.drop p), app_len2 (L.take p ++ [(x, y)]) (L.drop p), List.length_drop]; exact h); have X33 : Kg w.heap.size x y w33 := Kg.grown8 (show Kg w.heap.size x y _ from by repeat (first | with_reducible assumption | with_reducible refine Kg.drew ?_ | with_reducible refine Kg.alloc ?_ _ | with_reducible refine Kg.call ?_ (by with_reducible assumption) | with_reducible refine KO2.drew ?_ | with_reducible refine KO2.alloc ?_ _ | with_reducible refine KO2.call ?_ (by with_reducible assumption))) hgr33 (fun e => by have := (World.ownsRow.lt O29 _ e.symm).1; omega); have B33 : Below w.heap.size w w33 := Below.grown (show Below w.heap.size w _ from by repeat (first | with_reducible assumption | with_reducible refine Below.drew ?_ | with_reducible refine Below.alloc ?_ (by first | omega | (simp <;> omega)) _ | with_reducible refine bstep ?_ (by with_reducible assumption))) hgr33 (by first | omega | (simp <;> omega)) (fun r hr => by have := (World.ownsRow.lt O29 _ hr).1; omega)))
        all_goals
          rw [← HL.out] at O33
          obtain ⟨g9, cap9, rfl, K9⟩ := KO2.of O33 (by have := HPOS.out; omega)
          go_wp2
          go_ret
          exact ⟨g9, cap9, rfl, ownsRow_lower K9 (by have := HBS.out; omega), B33⟩
      · skip
        go_wp2_with fail
        go_quiet (fail)
        go_wp2_with fail
        have XX : Kg w.heap.size x y (w1.drewN nq) := Kg.call X1 (below_drewN (Below.refl _ _) _)
        have GG : KO2 g base cap 53 L (w1.drewN nq) := KO2.call (KO2.call (show KO2 g base cap 53 L w from HOW0.out) B1) (below_drewN (Below.refl _ _) _)
        have BB : Below w.heap.size w (w1.drewN nq) := below_drewN B1 _
        have zB := B1.size
        have zW : (w1.drewN nq).heap.size = w1.heap.size := rfl
        clear X1 X1c  B1 HS
        generalize w1.drewN nq = W0 at *
        rw [← zW] at zB X1l
        have hcl := KO2.cap_le GG
        clear zW

        have HLEN := Lib.hid (show (L.take p ++ [(x, y)]).length = p + 1 by rw [List.length_append, List.length_take, Nat.min_eq_left hpL]; rfl)
        have HL := Lib.hid (putV_new HUP.out HF.out)
        rw [HPE.out] at HL
        have Xc := XX.cells
        have hpc : p ≤ cap := by omega
        go_region_held3 (fun W => (W.cell? ⟨w.heap.size, 0, none⟩ = some (.int .i64 x) ∧ W.cell? ⟨w.heap.size, 1, none⟩ = some (.int .i64 y))) ((refine Kg.cells ?_) <;> repeat (first | with_reducible assumption | with_reducible refine Kg.drew ?_ | with_reducible refine Kg.alloc ?_ _ | with_reducible refine Kg.call ?_ (by with_reducible assumption) | with_reducible refine KO2.drew ?_ | with_reducible refine KO2.alloc ?_ _ | with_reducible refine KO2.call ?_ (by with_reducible assumption)))
          (first
            | (rw [if_pos (by rfl)]; refine wp_append_own _ _ _ 41 rfl (w.heap.size + 1) 53 i0 (.agg #[.int .i64 0, .int .i64 0]) 2 16 Tryz.underlying41 hinf hz0 hz1 hz2 rfl (by decide) _ 0 [] rfl (by first | exact (lit2 W0 W0.heap.size rfl (by omega)) | exact KOV2.drew (lit2 W0 W0.heap.size rfl (by omega)) | exact KOV2.alloc (lit2 W0 W0.heap.size rfl (by omega)) _ | exact KOV2.drew (KOV2.alloc (lit2 W0 W0.heap.size rfl (by omega)) _) | exact KOV2.drew (KOV2.alloc (KOV2.drew (lit2 W0 W0.heap.size rfl (by omega))) _) | exact (lit2 _ (W0.heap.size + 1) (by simp) (by simp; omega)) | exact KOV2.drew (lit2 _ (W0.heap.size + 1) (by simp) (by simp; omega))) ⟨g, 0, none⟩ p _ (cells2 (L.take p)) rfl (take2_len hpL) (ko2_take (show KO2 g base cap 53 L _ from by repeat (first | with_reducible assumption | with_reducible refine Kg.drew ?_ | with_reducible refine Kg.alloc ?_ _ | with_reducible refine Kg.call ?_ (by with_reducible assumption) | with_reducible refine KO2.drew ?_ | with_reducible refine KO2.alloc ?_ _ | with_reducible refine KO2.call ?_ (by with_reducible assumption)))) (cells2_one _) (by unfold maxLen; omega) (by omega) (by first | omega | (simp <;> omega)) ?_; intro v26 w26 hown26 hgr26 _; have O26 : KOV2 (w.heap.size + 1) 53 v26 (L.take p) w26 := (by have h := hown26; unfold KOV2; rw [List.length_take, Nat.min_eq_left hpL]; simpa using h); have G26 : KO2 g base cap 53 L w26 := KO2.kept (show KO2 g base cap 53 L _ from by repeat (first | with_reducible assumption | with_reducible refine Kg.drew ?_ | with_reducible refine Kg.alloc ?_ _ | with_reducible refine Kg.call ?_ (by with_reducible assumption) | with_reducible refine KO2.drew ?_ | with_reducible refine KO2.alloc ?_ _ | with_reducible refine KO2.call ?_ (by with_reducible assumption))) hgr26 (fun e => by have e2 := Option.some.inj e; first | omega | (simp at e2; done) | (simp at e2; omega)); have X26 : Kg w.heap.size x y w26 := Kg.grown8 (show Kg w.heap.size x y _ from by repeat (first | with_reducible assumption | with_reducible refine Kg.drew ?_ | with_reducible refine Kg.alloc ?_ _ | with_reducible refine Kg.call ?_ (by with_reducible assumption) | with_reducible refine KO2.drew ?_ | with_reducible refine KO2.alloc ?_ _ | with_reducible refine KO2.call ?_ (by with_reducible assumption))) hgr26 (fun e => by have e2 := Option.some.inj e; first | omega | (simp at e2; done) | (simp at e2; omega)); (first | have S26 := Kg.grown8 (Kg.at2 (W0.heap.size + 1) (by simp)) hgr26 (fun e => by have e2 := Option.some.inj e; first | omega | (simp at e2; done) | (simp at e2; omega)) | have S26 := Kg.grown8 (Kg.drew (Kg.at2 (W0.heap.size + 1) (by simp))) hgr26 (fun e => by have e2 := Option.some.inj e; first | omega | (simp at e2; done) | (simp at e2; omega)) | have S26 := Kg.grown8 (Kg.alloc (Kg.at2 W0.heap.size rfl) _) hgr26 (fun e => by have e2 := Option.some.inj e; first | omega | (simp at e2; done) | (simp at e2; omega)) | have S26 := Kg.grown8 (Kg.drew (Kg.alloc (Kg.at2 W0.heap.size rfl) _)) hgr26 (fun e => by have e2 := Option.some.inj e; first | omega | (simp at e2; done) | (simp at e2; omega)) | have S26 := Kg.grown8 (Kg.alloc (Kg.drew (Kg.at2 W0.heap.size rfl)) _) hgr26 (fun e => by have e2 := Option.some.inj e; first | omega | (simp at e2; done) | (simp at e2; omega)) | have S26 := Kg.grown8 (Kg.drew (Kg.alloc (Kg.drew (Kg.at2 W0.heap.size rfl)) _)) hgr26 (fun e => by have e2 := Option.some.inj e; first | omega | (simp at e2; done) | (simp at e2; omega)) | have S26 := trivial); have B26 : Below w.heap.size w w26 := Below.grown (show Below w.heap.size w _ from by repeat (first | with_reducible assumption | with_reducible refine Below.drew ?_ | with_reducible refine Below.alloc ?_ (by first | omega | (simp <;> omega)) _ | with_reducible refine bstep ?_ (by with_reducible assumption))) hgr26 (by first | omega | (simp <;> omega)) (fun r hr => by have e2 := Option.some.inj hr; first | omega | (simp at e2; omega)); have z26 : w.heap.size + 1 ≤ w26.heap.size := kg_lt7 X26)
            | (rw [if_pos (by rfl)]; refine wp_append_own _ _ _ 41 rfl (w.heap.size + 1) 53 i0 (.agg #[.int .i64 0, .int .i64 0]) 2 16 Tryz.underlying41 hinf hz0 hz1 hz2 rfl (by decide) _ (L.take p).length (cells2 (L.take p)) rfl (show KOV2 (w.heap.size + 1) 53 v26 (L.take p) _ from by repeat (first | with_reducible assumption | with_reducible refine KOV2.drew ?_ | with_reducible refine KOV2.alloc ?_ _)) _ 1 1 [.int .i64 x, .int .i64 y] rfl rfl (by first | exact kg_two8 S26 | exact kg_two8 (Kg.drew S26) | exact kg_two8 (Kg.at2 _ rfl) | exact kg_two8 (Kg.drew (Kg.at2 _ rfl))) one_two (by have hh := take2_len hpL; rw [cells2_len] at hh; unfold maxLen; omega) (by have hh := take2_len hpL; rw [cells2_len] at hh; omega) (by first | omega | (simp <;> omega)) ?_; intro v29 w29 hown29 hgr29 _; have O29 : KOV2 (w.heap.size + 1) 53 v29 (L.take p ++ [(x, y)]) w29 := own_next2 hown29; have G29 : KO2 g base cap 53 L w29 := KO2.kept (show KO2 g base cap 53 L _ from by repeat (first | with_reducible assumption | with_reducible refine Kg.drew ?_ | with_reducible refine Kg.alloc ?_ _ | with_reducible refine Kg.call ?_ (by with_reducible assumption) | with_reducible refine KO2.drew ?_ | with_reducible refine KO2.alloc ?_ _ | with_reducible refine KO2.call ?_ (by with_reducible assumption))) hgr29 (fun e => by have := (World.ownsRow.lt O26 _ e.symm).1; omega); have X29 : Kg w.heap.size x y w29 := Kg.grown8 (show Kg w.heap.size x y _ from by repeat (first | with_reducible assumption | with_reducible refine Kg.drew ?_ | with_reducible refine Kg.alloc ?_ _ | with_reducible refine Kg.call ?_ (by with_reducible assumption) | with_reducible refine KO2.drew ?_ | with_reducible refine KO2.alloc ?_ _ | with_reducible refine KO2.call ?_ (by with_reducible assumption))) hgr29 (fun e => by have := (World.ownsRow.lt O26 _ e.symm).1; omega); have B29 : Below w.heap.size w w29 := Below.grown (show Below w.heap.size w _ from by repeat (first | with_reducible assumption | with_reducible refine Below.drew ?_ | with_reducible refine Below.alloc ?_ (by first | omega | (simp <;> omega)) _ | with_reducible refine bstep ?_ (by with_reducible assumption))) hgr29 (by first | omega | (simp <;> omega)) (fun r hr => by have := (World.ownsRow.lt O26 _ hr).1; omega); have z29 : w.heap.size + 1 ≤ w29.heap.size := kg_lt7 X29)
            | (rw [if_pos (by rfl)]; refine wp_append_own _ _ _ 41 rfl (w.heap.size + 1) 53 i0 (.agg #[.int .i64 0, .int .i64 0]) 2 16 Tryz.underlying41 hinf hz0 hz1 hz2 rfl (by decide) _ (L.take p ++ [(x, y)]).length (cells2 (L.take p ++ [(x, y)])) rfl (show KOV2 (w.heap.size + 1) 53 v29 (L.take p ++ [(x, y)]) _ from by repeat (first | with_reducible assumption | with_reducible refine KOV2.drew ?_ | with_reducible refine KOV2.alloc ?_ _)) _ (L.length - p) _ (cells2 (L.drop p)) rfl (drop2_len hpL) (ko2_drop (show KO2 g base cap 53 L _ from by repeat (first | with_reducible assumption | with_reducible refine Kg.drew ?_ | with_reducible refine Kg.alloc ?_ _ | with_reducible refine Kg.call ?_ (by with_reducible assumption) | with_reducible refine KO2.drew ?_ | with_reducible refine KO2.alloc ?_ _ | with_reducible refine KO2.call ?_ (by with_reducible assumption))) hpL) (cells2_one _) (by have hh := HLEN.out; unfold maxLen; omega) (by have hh := HLEN.out; omega) (by first | omega | (simp <;> omega)) ?_; intro v33 w33 hown33 hgr33 _; have O33 : KOV2 (w.heap.size + 1) 53 v33 (L.take p ++ [(x, y)] ++ L.drop p) w33 := (by have h := hown33; unfold KOV2; rw [cells2_app7 (L.take p ++ [(x, y)]) (L.drop p), app_len2 (L.take p ++ [(x, y)]) (L.drop p), List.length_drop]; exact h); have X33 : Kg w.heap.size x y w33 := Kg.grown8 (show Kg w.heap.size x y _ from by repeat (first | with_reducible assumption | with_reducible refine Kg.drew ?_ | with_reducible refine Kg.alloc ?_ _ | with_reducible refine Kg.call ?_ (by with_reducible assumption) | with_reducible refine KO2.drew ?_ | with_reducible refine KO2.alloc ?_ _ | with_reducible refine KO2.call ?_ (by with_reducible assumption))) hgr33 (fun e => by have := (World.ownsRow.lt O29 _ e.symm).1; omega); have B33 : Below w.heap.size w w33 := Below.grown (show Below w.heap.size w _ from by repeat (first | with_reducible assumption | with_reducible refine Below.drew ?_ | with_reducible refine Below.alloc ?_ (by first | omega | (simp <;> omega)) _ | with_reducible refine bstep ?_ (by with_reducible assumption))) hgr33 (by first | omega | (simp <;> omega)) (fun r hr => by have := (World.ownsRow.lt O29 _ hr).1; omega)))
        all_goals
          rw [← HL.out] at O33
          obtain ⟨g9, cap9, rfl, K9⟩ := KO2.of O33 (by have := HPOS.out; omega)
          go_wp2
          go_ret
          exact ⟨g9, cap9, rfl, ownsRow_lower K9 (by have := HBS.out; omega), B33⟩

end Go.Proofs.YtodkomaeljbhaaaGreatDoor
