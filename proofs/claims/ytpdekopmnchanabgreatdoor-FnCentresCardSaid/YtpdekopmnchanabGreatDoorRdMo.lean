/-
  Contracts of chapter 5's ReadMotion: the program's function and the model's read the same motions, and the walk of its exact law. Conditions: the text has at most 2^20 bytes; the listed variables are as the program's text lays them.
-/
import Derived.Test.YtpdekopmnchanabGreatDoorMo3
import Derived.Test.YtpdekopmnchanabGreatDoorMatR5
import Derived.Test.YtpdekopmnchanabGreatDoorLawsF
import Derived.Test.YtpdekopmnchanabGreatDoorCut9
import Derived.Deep.RegionHeld3
namespace Go.Proofs.YtpdekopmnchanabGreatDoor
open Go.RowKit
set_option linter.unusedSimpArgs false
set_option linter.unusedVariables false

def MoYes (l : List UInt8) (a b c d x y : Int) : Prop := motB a b c d x y = true ∧ ∃ p q, l = p ++ 59 :: q ∧ SplitOf p (four a b c d) ∧ q = Lib.itoa x ++ 44 :: Lib.itoa y
def MoNo (l : List UInt8) : Prop := ∀ a b c d x y, ¬ MoYes l a b c d x y
def RmoPost (l : List UInt8) (w : World) (e : Ending) (w' : World) : Prop :=
  ∃ (a b c d x y : Int) (ok : Bool), e = .returned (.tuple #[.agg #[.int .i64 a, .int .i64 b, .int .i64 c, .int .i64 d, .int .i64 x, .int .i64 y], .bool ok]) ∧ (ok = true → MoYes l a b c d x y) ∧ (ok = false → MoNo l ∧ a = 0 ∧ b = 0 ∧ c = 0 ∧ d = 0 ∧ x = 0 ∧ y = 0) ∧ Below w.heap.size w w'
theorem semi_four {p : List UInt8} {a b c d : Int} (h : SplitOf p (four a b c d)) : (59 : UInt8) ∉ p := by
  intro hm
  have e := h.1
  have h2 : (59 : UInt8) ∈ joinC (four a b c d) := by rw [← e]; exact List.mem_append_left _ hm
  simp only [joinC, four, List.flatMap_cons, List.flatMap_nil, List.append_nil, List.mem_append, List.mem_singleton] at h2
  have h44 : ¬ (59 : UInt8) = 44 := by decide
  rcases h2 with (h | h) | (h | h) | (h | h) | h | h
  all_goals first | exact h44 h | exact itoa_comma9s _ h
theorem semi_vec {x y : Int} : (59 : UInt8) ∉ Lib.itoa x ++ 44 :: Lib.itoa y := by
  intro hm
  have h44 : ¬ (59 : UInt8) = 44 := by decide
  rcases List.mem_append.1 hm with h | h
  · exact itoa_comma9s _ h
  · rcases List.mem_cons.1 h with h | h
    · exact h44 h
    · exact itoa_comma9s _ h
theorem mono_none {l : List UInt8} (h : (59 : UInt8) ∉ l) : MoNo l := by
  rintro a b c d x y ⟨_, p, q, rfl, _, _⟩
  exact h (by simp)
theorem mono_mat {l p q : List UInt8} (e : l = p ++ 59 :: q) (hp : (59 : UInt8) ∉ p) (h : MNo p) : MoNo l := by
  rintro a b c d x y ⟨hB, p', q', e', hs, hq⟩
  obtain ⟨rfl, rfl⟩ := comma_inj9s hp (semi_four hs) (e.symm.trans e')
  exact h _ _ _ _ (motB_mat hB) hs
theorem mono_vec {l p q : List UInt8} (e : l = p ++ 59 :: q) (hp : (59 : UInt8) ∉ p) (h : RdNo q) : MoNo l := by
  rintro a b c d x y ⟨hB, p', q', e', hs, hq⟩
  obtain ⟨rfl, rfl⟩ := comma_inj9s hp (semi_four hs) (e.symm.trans e')
  exact h _ _ (motB_vec hB) hq
theorem mono_bad {l p q : List UInt8} {a b c d x y : Int} (e : l = p ++ 59 :: q) (hp : (59 : UInt8) ∉ p) (h1 : MYes p a b c d) (h2 : RdYes q x y) (hB : motB a b c d x y = false) : MoNo l := by
  rintro a' b' c' d' x' y' ⟨hB', p', q', e', hs, hq⟩
  obtain ⟨rfl, rfl⟩ := comma_inj9s hp (semi_four hs) (e.symm.trans e')
  obtain ⟨rfl, rfl, rfl, rfl⟩ := four_inj (split_one h1.2 hs)
  obtain ⟨rfl, rfl⟩ := rd_one h2 ⟨motB_vec hB', hq⟩
  rw [hB] at hB'; cases hB'
theorem moyes_of {l p q : List UInt8} {a b c d x y : Int} (e : l = p ++ 59 :: q) (h1 : MYes p a b c d) (h2 : RdYes q x y) (hB : motB a b c d x y = true) : MoYes l a b c d x y := ⟨hB, p, q, e, h1.2, h2.2⟩
theorem moyes_one {l : List UInt8} {a b c d x y a' b' c' d' x' y' : Int} (h : MoYes l a b c d x y) (h' : MoYes l a' b' c' d' x' y') : a' = a ∧ b' = b ∧ c' = c ∧ d' = d ∧ x' = x ∧ y' = y := by
  obtain ⟨hB, p, q, e, hs, hq⟩ := h
  obtain ⟨hB', p', q', e', hs', hq'⟩ := h'
  obtain ⟨rfl, rfl⟩ := comma_inj9s (semi_four hs) (semi_four hs') (e.symm.trans e')
  obtain ⟨rfl, rfl, rfl, rfl⟩ := four_inj (split_one hs hs')
  obtain ⟨rfl, rfl⟩ := rd_one ⟨motB_vec hB, hq⟩ ⟨motB_vec hB', hq'⟩
  exact ⟨rfl, rfl, rfl, rfl, rfl, rfl⟩
theorem mo_same {l : List UInt8} {a b c d x y a' b' c' d' x' y' : Int} {o o' : Bool} (h1 : o = true → MoYes l a b c d x y) (h2 : o = false → MoNo l ∧ a = 0 ∧ b = 0 ∧ c = 0 ∧ d = 0 ∧ x = 0 ∧ y = 0)
    (h3 : o' = true → MoYes l a' b' c' d' x' y') (h4 : o' = false → MoNo l ∧ a' = 0 ∧ b' = 0 ∧ c' = 0 ∧ d' = 0 ∧ x' = 0 ∧ y' = 0) : o' = o ∧ a' = a ∧ b' = b ∧ c' = c ∧ d' = d ∧ x' = x ∧ y' = y := by
  cases o <;> cases o'
  · obtain ⟨_, rfl, rfl, rfl, rfl, rfl, rfl⟩ := h2 rfl
    obtain ⟨_, rfl, rfl, rfl, rfl, rfl, rfl⟩ := h4 rfl
    exact ⟨rfl, rfl, rfl, rfl, rfl, rfl, rfl⟩
  · exact ((h2 rfl).1 _ _ _ _ _ _ (h3 rfl)).elim
  · exact ((h4 rfl).1 _ _ _ _ _ _ (h1 rfl)).elim
  · exact ⟨rfl, moyes_one (h1 rfl) (h3 rfl)⟩
theorem rd_nil : RdNo [] := by
  intro x y _ h
  simp at h
theorem mno_nosemi {l : List UInt8} (h : (59 : UInt8) ∉ l) : True := trivial
theorem split9_ne {l : List UInt8} {ws : List (List UInt8)} (h : SplitOf9s l ws) : ws.length ≠ 0 := by
  intro e
  have : ws = [] := List.length_eq_zero_iff.1 e
  subst this
  have := h.1
  simp [joinC9s] at this
theorem split9_two {l : List UInt8} {p q : List UInt8} (h : SplitOf9s l [p, q]) : l = p ++ 59 :: q ∧ (59 : UInt8) ∉ p ∧ (59 : UInt8) ∉ q := by
  have e := h.1
  simp only [joinC9s, List.flatMap_cons, List.flatMap_nil, List.append_nil] at e
  refine ⟨?_, h.2 p (by simp), h.2 q (by simp)⟩
  have e2 : l ++ [59] = (p ++ 59 :: q) ++ [59] := by rw [e]; simp
  exact List.append_cancel_right e2
theorem mono_len {l : List UInt8} {ws : List (List UInt8)} (h : SplitOf9s l ws) (hn : ws.length ≠ 2) : MoNo l := by
  rintro a b c d x y ⟨hB, p, q, rfl, hs, rfl⟩
  apply hn
  have h2 : joinC9s ws = joinC9s [p, Lib.itoa x ++ 44 :: Lib.itoa y] := by
    rw [← h.1]; simp [joinC9s]
  have : ws = [p, Lib.itoa x ++ 44 :: Lib.itoa y] := joinC_inj9s h.2 (by
    intro z hz
    simp only [List.mem_cons, List.not_mem_nil, or_false] at hz
    rcases hz with rfl | rfl
    · exact semi_four hs
    · exact semi_vec) h2
  rw [this]; rfl
theorem list_two9 {ws : List (List UInt8)} (h : ws.length = 2) : ∃ p q, ws = [p, q] := by
  match ws, h with
  | [p, q], _ => exact ⟨p, q, rfl⟩
set_option maxRecDepth 100000 in
set_option maxHeartbeats 2000000 in
theorem implRmo_any (s : ByteArray) (hs : s.size ≤ 1048576) (w : World) (hT : TabOK w) (hE : ErrsOK w) (hM : MaxOK w) (hU : UnitOK w) :
    Calls Tryz.prog 9 #[.string s] w (RmoPost s.data.toList w) := by
  have HZ := Lib.hid (show s.data.toList.length = s.size from Array.length_toList)
  have R0 : KM (w.heap.size) 0 0 0 0 0 0 (w.alloc (.cells #[.int .i64 0, .int .i64 0, .int .i64 0, .int .i64 0, .int .i64 0, .int .i64 0] 29)) := (KM.at (w.heap.size) rfl)
  have U0 : Kq (0) 1 0 0 1 (w.alloc (.cells #[.int .i64 0, .int .i64 0, .int .i64 0, .int .i64 0, .int .i64 0, .int .i64 0] 29)) := (hU.alloc _)
  have B0 : Below w.heap.size w (w.alloc (.cells #[.int .i64 0, .int .i64 0, .int .i64 0, .int .i64 0, .int .i64 0, .int .i64 0] 29)) := (Below.alloc (Below.refl _ _) (by first | with_reducible exact Nat.le_refl _ | (simp <;> omega)) _)
  go_enter Tryz.func9, Tryz.ntmps9
  go_wp2_with fail
  refine (cut_any9s s hs _ (hM.on B0)).mono ?_
  rintro e w1 ⟨left, right, bb, rfl, hcut, hll, hrl, hb1⟩
  have R1 : KM (w.heap.size) 0 0 0 0 0 0 w1 := KM.call R0 hb1
  have U1 : Kq (0) 1 0 0 1 w1 := Kq.call U0 hb1
  have B1 : Below w.heap.size w w1 := bstep B0 hb1
  clear hb1 B0 R0 U0
  have R1c0 := R1.c0
  have R1c1 := R1.c1
  have R1c2 := R1.c2
  have R1c3 := R1.c3
  have R1c4 := R1.c4
  have R1c5 := R1.c5
  have R1f0 := R1.f0
  have R1f1 := R1.f1
  have R1f2 := R1.f2
  have R1f3 := R1.f3
  have R1f4 := R1.f4
  have R1f5 := R1.f5
  have R1l := R1.lt
  have R1n : ¬ w.heap.size = w1.heap.size := by omega
  have U1c0 := U1.c0
  have U1c1 := U1.c1
  have U1c2 := U1.c2
  have U1c3 := U1.c3
  have U1l := U1.1
  have U1n : ¬ 0 = w1.heap.size := by omega
  rw [HZ.out] at hll hrl
  have HC := Lib.hid hcut
  clear hcut
  go_wp2_with fail
  refine (implReadM_any ⟨left.toArray⟩ (show left.toArray.size ≤ 1048576 by rw [List.size_toArray]; omega) _ (hT.on B1) (hE.on B1) (hM.on B1)).mono ?_
  rintro e w2 ⟨a, b, c, d, o1, rfl, hy1, hn1, hb2⟩
  have R2 : KM (w.heap.size) 0 0 0 0 0 0 w2 := KM.call R1 hb2
  have U2 : Kq (0) 1 0 0 1 w2 := Kq.call U1 hb2
  have B2 : Below w.heap.size w w2 := bstep B1 hb2
  clear hb2 B1 R1 U1
  have R2c0 := R2.c0
  have R2c1 := R2.c1
  have R2c2 := R2.c2
  have R2c3 := R2.c3
  have R2c4 := R2.c4
  have R2c5 := R2.c5
  have R2f0 := R2.f0
  have R2f1 := R2.f1
  have R2f2 := R2.f2
  have R2f3 := R2.f3
  have R2f4 := R2.f4
  have R2f5 := R2.f5
  have R2l := R2.lt
  have R2n : ¬ w.heap.size = w2.heap.size := by omega
  have U2c0 := U2.c0
  have U2c1 := U2.c1
  have U2c2 := U2.c2
  have U2c3 := U2.c3
  have U2l := U2.1
  have U2n : ¬ 0 = w2.heap.size := by omega
  have HY1 : Hid (o1 = true → MYes left a b c d) := Lib.hid (by simpa using hy1)
  have HN1 : Hid (o1 = false → MNo left) := Lib.hid (fun h => by simpa using (hn1 h).1)
  clear hy1 hn1
  go_wp2_with fail
  refine (implRead_any ⟨right.toArray⟩ (show right.toArray.size ≤ 1048576 by rw [List.size_toArray]; omega) _ (hT.on (Below.alloc B2 B2.size _)) (hE.on (Below.alloc B2 B2.size _)) (hM.on (Below.alloc B2 B2.size _))).mono ?_
  rintro e w3 ⟨x, y, o2, rfl, hy2, hn2, hb3⟩
  have R3 : KM (w.heap.size) 0 0 0 0 0 0 w3 := KM.call (R2.alloc _) hb3
  have U3 : Kq (0) 1 0 0 1 w3 := Kq.call (U2.alloc _) hb3
  have M3 : Kq (w2.heap.size) a b c d w3 := (Kq.at (w2.heap.size) (by simp) : Kq (w2.heap.size) a b c d _).call hb3
  have B3 : Below w.heap.size w w3 := bstep (Below.alloc B2 (by have := B2.size; first | omega | (simp <;> omega)) _) hb3
  clear hb3 B2 R2 U2
  have R3c0 := R3.c0
  have R3c1 := R3.c1
  have R3c2 := R3.c2
  have R3c3 := R3.c3
  have R3c4 := R3.c4
  have R3c5 := R3.c5
  have R3f0 := R3.f0
  have R3f1 := R3.f1
  have R3f2 := R3.f2
  have R3f3 := R3.f3
  have R3f4 := R3.f4
  have R3f5 := R3.f5
  have R3l := R3.lt
  have R3n : ¬ w.heap.size = w3.heap.size := by omega
  have U3c0 := U3.c0
  have U3c1 := U3.c1
  have U3c2 := U3.c2
  have U3c3 := U3.c3
  have U3l := U3.1
  have U3n : ¬ 0 = w3.heap.size := by omega
  have M3c0 := M3.c0
  have M3c1 := M3.c1
  have M3c2 := M3.c2
  have M3c3 := M3.c3
  have M3l := M3.1
  have M3n : ¬ w2.heap.size = w3.heap.size := by omega
  have HY2 : Hid (o2 = true → RdYes right x y) := Lib.hid (by simpa using hy2)
  have HN2 : Hid (o2 = false → RdNo right) := Lib.hid (fun h => by simpa using (hn2 h).1)
  clear hy2 hn2
  cases o1
  · have HN : Hid (MoNo s.data.toList) := Lib.hid (by
      rcases HC.out with ⟨_, e, hp⟩ | ⟨_, _, _, hp⟩
      · exact mono_mat e hp (HN1.out rfl)
      · exact mono_none hp)
    go_wp2
    refine bodyPost_ret (v := .tuple #[.agg #[.int .i64 0, .int .i64 0, .int .i64 0, .int .i64 0, .int .i64 0, .int .i64 0], .bool false]) (by simp [results, Tryz.results9, go_sem, *]) rfl ⟨0, 0, 0, 0, 0, 0, false, rfl, (fun h => by cases h), (fun _ => ⟨HN.out, rfl, rfl, rfl, rfl, rfl, rfl⟩), ?_⟩
    repeat (first | with_reducible assumption | with_reducible exact Below.refl _ _ | with_reducible refine Below.setCell ?_ (by first | omega | (simp <;> omega)) _ | with_reducible refine Below.alloc ?_ (by first | omega | (simp <;> omega)) _ | with_reducible refine bstep ?_ (by with_reducible assumption) | with_reducible refine Below.drew ?_)
  cases o2
  · have HN : Hid (MoNo s.data.toList) := Lib.hid (by
      rcases HC.out with ⟨_, e, hp⟩ | ⟨_, _, _, hp⟩
      · exact mono_vec e hp (HN2.out rfl)
      · exact mono_none hp)
    go_wp2
    refine bodyPost_ret (v := .tuple #[.agg #[.int .i64 0, .int .i64 0, .int .i64 0, .int .i64 0, .int .i64 0, .int .i64 0], .bool false]) (by simp [results, Tryz.results9, go_sem, *]) rfl ⟨0, 0, 0, 0, 0, 0, false, rfl, (fun h => by cases h), (fun _ => ⟨HN.out, rfl, rfl, rfl, rfl, rfl, rfl⟩), ?_⟩
    repeat (first | with_reducible assumption | with_reducible exact Below.refl _ _ | with_reducible refine Below.setCell ?_ (by first | omega | (simp <;> omega)) _ | with_reducible refine Below.alloc ?_ (by first | omega | (simp <;> omega)) _ | with_reducible refine bstep ?_ (by with_reducible assumption) | with_reducible refine Below.drew ?_)
  have HL : Hid (s.data.toList = left ++ 59 :: right ∧ (59 : UInt8) ∉ left) := Lib.hid (by
    rcases HC.out with ⟨_, e, hp⟩ | ⟨_, _, e, hp⟩
    · exact ⟨e, hp⟩
    · exact (rd_not (HY2.out rfl) (e ▸ rd_nil)).elim)
  rcases hB : motB a b c d x y with _ | _
  · have HN := Lib.hid (mono_bad HL.out.1 HL.out.2 (HY1.out rfl) (HY2.out rfl) hB)
    go_wp2_with fail
    refine (implIsMo_any _ _ _ _ _ _ _ ((U3.alloc _).alloc _)).mono ?_
    rintro e w4 ⟨rfl, hb4⟩
    have R4 : KM (w.heap.size) 0 0 0 0 0 0 w4 := KM.call ((R3.alloc _).alloc _) hb4
    have U4 : Kq (0) 1 0 0 1 w4 := Kq.call ((U3.alloc _).alloc _) hb4
    have M4 : Kq (w2.heap.size) a b c d w4 := Kq.call ((M3.alloc _).alloc _) hb4
    have V4 : Kg (w3.heap.size) x y w4 := ((Kg.at2 (w3.heap.size) (by simp) : Kg (w3.heap.size) x y _).alloc _).call hb4
    have O4 : Km (w3.heap.size + 1) a b c d x y w4 := (Km.at (w3.heap.size + 1) (by simp) : Km (w3.heap.size + 1) a b c d x y _).call hb4
    have B4 : Below w.heap.size w w4 := bstep (Below.alloc (Below.alloc B3 (by have := B3.size; first | omega | (simp <;> omega)) _) (by have := B3.size; first | omega | (simp <;> omega)) _) hb4
    clear hb4 B3 R3 U3 M3
    have R4c0 := R4.c0
    have R4c1 := R4.c1
    have R4c2 := R4.c2
    have R4c3 := R4.c3
    have R4c4 := R4.c4
    have R4c5 := R4.c5
    have R4f0 := R4.f0
    have R4f1 := R4.f1
    have R4f2 := R4.f2
    have R4f3 := R4.f3
    have R4f4 := R4.f4
    have R4f5 := R4.f5
    have R4l := R4.lt
    have R4n : ¬ w.heap.size = w4.heap.size := by omega
    have U4c0 := U4.c0
    have U4c1 := U4.c1
    have U4c2 := U4.c2
    have U4c3 := U4.c3
    have U4l := U4.1
    have U4n : ¬ 0 = w4.heap.size := by omega
    have M4c0 := M4.c0
    have M4c1 := M4.c1
    have M4c2 := M4.c2
    have M4c3 := M4.c3
    have M4l := M4.1
    have M4n : ¬ w2.heap.size = w4.heap.size := by omega
    have V4c0 := V4.c0
    have V4c1 := V4.c1
    have V4l := V4.1
    have V4n : ¬ w3.heap.size = w4.heap.size := by omega
    have O4c0 := O4.c0
    have O4c1 := O4.c1
    have O4c2 := O4.c2
    have O4c3 := O4.c3
    have O4c4 := O4.c4
    have O4c5 := O4.c5
    have O4l := O4.1
    have O4n : ¬ w3.heap.size + 1 = w4.heap.size := by omega
    go_wp2
    refine bodyPost_ret (v := .tuple #[.agg #[.int .i64 0, .int .i64 0, .int .i64 0, .int .i64 0, .int .i64 0, .int .i64 0], .bool false]) (by simp [results, Tryz.results9, go_sem, *]) rfl ⟨0, 0, 0, 0, 0, 0, false, rfl, (fun h => by cases h), (fun _ => ⟨HN.out, rfl, rfl, rfl, rfl, rfl, rfl⟩), ?_⟩
    repeat (first | with_reducible assumption | with_reducible exact Below.refl _ _ | with_reducible refine Below.setCell ?_ (by first | omega | (simp <;> omega)) _ | with_reducible refine Below.alloc ?_ (by first | omega | (simp <;> omega)) _ | with_reducible refine bstep ?_ (by with_reducible assumption) | with_reducible refine Below.drew ?_)
  · have HY := Lib.hid (moyes_of HL.out.1 (HY1.out rfl) (HY2.out rfl) hB)
    go_wp2_with fail
    refine (implIsMo_any _ _ _ _ _ _ _ ((U3.alloc _).alloc _)).mono ?_
    rintro e w4 ⟨rfl, hb4⟩
    have R4 : KM (w.heap.size) 0 0 0 0 0 0 w4 := KM.call ((R3.alloc _).alloc _) hb4
    have U4 : Kq (0) 1 0 0 1 w4 := Kq.call ((U3.alloc _).alloc _) hb4
    have M4 : Kq (w2.heap.size) a b c d w4 := Kq.call ((M3.alloc _).alloc _) hb4
    have V4 : Kg (w3.heap.size) x y w4 := ((Kg.at2 (w3.heap.size) (by simp) : Kg (w3.heap.size) x y _).alloc _).call hb4
    have O4 : Km (w3.heap.size + 1) a b c d x y w4 := (Km.at (w3.heap.size + 1) (by simp) : Km (w3.heap.size + 1) a b c d x y _).call hb4
    have B4 : Below w.heap.size w w4 := bstep (Below.alloc (Below.alloc B3 (by have := B3.size; first | omega | (simp <;> omega)) _) (by have := B3.size; first | omega | (simp <;> omega)) _) hb4
    clear hb4 B3 R3 U3 M3
    have R4c0 := R4.c0
    have R4c1 := R4.c1
    have R4c2 := R4.c2
    have R4c3 := R4.c3
    have R4c4 := R4.c4
    have R4c5 := R4.c5
    have R4f0 := R4.f0
    have R4f1 := R4.f1
    have R4f2 := R4.f2
    have R4f3 := R4.f3
    have R4f4 := R4.f4
    have R4f5 := R4.f5
    have R4l := R4.lt
    have R4n : ¬ w.heap.size = w4.heap.size := by omega
    have U4c0 := U4.c0
    have U4c1 := U4.c1
    have U4c2 := U4.c2
    have U4c3 := U4.c3
    have U4l := U4.1
    have U4n : ¬ 0 = w4.heap.size := by omega
    have M4c0 := M4.c0
    have M4c1 := M4.c1
    have M4c2 := M4.c2
    have M4c3 := M4.c3
    have M4l := M4.1
    have M4n : ¬ w2.heap.size = w4.heap.size := by omega
    have V4c0 := V4.c0
    have V4c1 := V4.c1
    have V4l := V4.1
    have V4n : ¬ w3.heap.size = w4.heap.size := by omega
    have O4c0 := O4.c0
    have O4c1 := O4.c1
    have O4c2 := O4.c2
    have O4c3 := O4.c3
    have O4c4 := O4.c4
    have O4c5 := O4.c5
    have O4l := O4.1
    have O4n : ¬ w3.heap.size + 1 = w4.heap.size := by omega
    go_wp2
    refine bodyPost_ret (v := .tuple #[.agg #[.int .i64 a, .int .i64 b, .int .i64 c, .int .i64 d, .int .i64 x, .int .i64 y], .bool true]) (by simp [results, Tryz.results9, go_sem, *]) rfl ⟨a, b, c, d, x, y, true, rfl, (fun _ => HY.out), (fun h => by cases h), ?_⟩
    repeat (first | with_reducible assumption | with_reducible exact Below.refl _ _ | with_reducible refine Below.setCell ?_ (by first | omega | (simp <;> omega)) _ | with_reducible refine Below.alloc ?_ (by first | omega | (simp <;> omega)) _ | with_reducible refine bstep ?_ (by with_reducible assumption) | with_reducible refine Below.drew ?_)

set_option maxRecDepth 100000 in
set_option maxHeartbeats 2000000 in
theorem specRmo_any (s : ByteArray) (hs : s.size ≤ 1048576) (w : World) :
    Calls Tryz.prog 11 #[.string s] w (RmoPost s.data.toList w) := by
  have HZ := Lib.hid (show s.data.toList.length = s.size from Array.length_toList)
  have R0 : KM (w.heap.size) 0 0 0 0 0 0 (w.alloc (.cells #[.int .i64 0, .int .i64 0, .int .i64 0, .int .i64 0, .int .i64 0, .int .i64 0] 29)) := (KM.at (w.heap.size) rfl)
  have B0 : Below w.heap.size w (w.alloc (.cells #[.int .i64 0, .int .i64 0, .int .i64 0, .int .i64 0, .int .i64 0, .int .i64 0] 29)) := (Below.alloc (Below.refl _ _) (by first | with_reducible exact Nat.le_refl _ | (simp <;> omega)) _)
  go_enter Tryz.func11, Tryz.ntmps11
  go_wp2_with fail
  refine (split_any9s s hs _).mono ?_
  rintro e w1 ⟨v, ws, rfl, hsp, hwl, hown, hb1⟩
  have R1 : KM (w.heap.size) 0 0 0 0 0 0 w1 := KM.call R0 hb1
  have B1 : Below w.heap.size w w1 := bstep B0 hb1
  clear hb1 B0 R0
  have R1c0 := R1.c0
  have R1c1 := R1.c1
  have R1c2 := R1.c2
  have R1c3 := R1.c3
  have R1c4 := R1.c4
  have R1c5 := R1.c5
  have R1f0 := R1.f0
  have R1f1 := R1.f1
  have R1f2 := R1.f2
  have R1f3 := R1.f3
  have R1f4 := R1.f4
  have R1f5 := R1.f5
  have R1l := R1.lt
  have R1n : ¬ w.heap.size = w1.heap.size := by omega
  obtain ⟨g, cap, rfl⟩ := own_form hown (split9_ne hsp)
  obtain ⟨hg0, hg1, hgc⟩ := own_cell hown
  have hwz : ws.length ≤ 1048577 := by rw [HZ.out] at hwl; omega
  have HSP := Lib.hid hsp
  clear hsp hwl
  by_cases h2 : ws.length = 2
  · obtain ⟨p, q, rfl⟩ := list_two9 (by simpa using h2)
    obtain ⟨e, hp, hq⟩ := split9_two HSP.out
    have HE9 := Lib.hid (show s.data.toList = p ++ 59 :: q ∧ (59 : UInt8) ∉ p from ⟨e, hp⟩)
    have hpl : p.length + q.length + 1 = s.size := by rw [← HZ.out, e]; simp; omega
    have P0 : w1.cell? ⟨g, 0, none⟩ = some (.string ⟨p.toArray⟩) := by simpa [strV] using hgc 0 (by simp)
    have P1 : w1.cell? ⟨g, 1, none⟩ = some (.string ⟨q.toArray⟩) := by simpa [strV] using hgc 1 (by simp)
    clear hown hgc h2 HSP e hp hq
    go_wp2_with fail
    refine (specReadM_any ⟨p.toArray⟩ (show p.toArray.size ≤ 1048576 by rw [List.size_toArray]; omega) _).mono ?_
    rintro e w2 ⟨a, b, c, d, o1, rfl, hy1, hn1, hb2⟩
    have P1' : w2.cell? ⟨g, 1, none⟩ = some (.string ⟨q.toArray⟩) := by rw [hb2.cell (by show g < _; exact hg1)]; exact P1
    have hg2 : g < w2.heap.size := Nat.lt_of_lt_of_le hg1 hb2.size
    have R2 : KM (w.heap.size) 0 0 0 0 0 0 w2 := KM.call R1 hb2
    have B2 : Below w.heap.size w w2 := bstep B1 hb2
    clear hb2 B1 R1
    have R2c0 := R2.c0
    have R2c1 := R2.c1
    have R2c2 := R2.c2
    have R2c3 := R2.c3
    have R2c4 := R2.c4
    have R2c5 := R2.c5
    have R2f0 := R2.f0
    have R2f1 := R2.f1
    have R2f2 := R2.f2
    have R2f3 := R2.f3
    have R2f4 := R2.f4
    have R2f5 := R2.f5
    have R2l := R2.lt
    have R2n : ¬ w.heap.size = w2.heap.size := by omega
    have HY1 : Hid (o1 = true → MYes p a b c d) := Lib.hid (by simpa using hy1)
    have HN1 : Hid (o1 = false → MNo p) := Lib.hid (fun h => by simpa using (hn1 h).1)
    clear hy1 hn1 P0 P1
    have ng2 : ¬ g = w2.heap.size := by omega
    go_wp2_with fail
    refine (specRead_any ⟨q.toArray⟩ (show q.toArray.size ≤ 1048576 by rw [List.size_toArray]; omega) _).mono ?_
    rintro e w3 ⟨x, y, o2, rfl, hy2, hn2, hb3⟩
    have R3 : KM (w.heap.size) 0 0 0 0 0 0 w3 := KM.call (R2.alloc _) hb3
    have M3 : Kq (w2.heap.size) a b c d w3 := (Kq.at (w2.heap.size) (by simp) : Kq (w2.heap.size) a b c d _).call hb3
    have B3 : Below w.heap.size w w3 := bstep (Below.alloc B2 (by have := B2.size; first | omega | (simp <;> omega)) _) hb3
    clear hb3 B2 R2
    have R3c0 := R3.c0
    have R3c1 := R3.c1
    have R3c2 := R3.c2
    have R3c3 := R3.c3
    have R3c4 := R3.c4
    have R3c5 := R3.c5
    have R3f0 := R3.f0
    have R3f1 := R3.f1
    have R3f2 := R3.f2
    have R3f3 := R3.f3
    have R3f4 := R3.f4
    have R3f5 := R3.f5
    have R3l := R3.lt
    have R3n : ¬ w.heap.size = w3.heap.size := by omega
    have M3c0 := M3.c0
    have M3c1 := M3.c1
    have M3c2 := M3.c2
    have M3c3 := M3.c3
    have M3l := M3.1
    have M3n : ¬ w2.heap.size = w3.heap.size := by omega
    have HY2 : Hid (o2 = true → RdYes q x y) := Lib.hid (by simpa using hy2)
    have HN2 : Hid (o2 = false → RdNo q) := Lib.hid (fun h => by simpa using (hn2 h).1)
    clear hy2 hn2
    cases o1
    · have HN := Lib.hid (mono_mat HE9.out.1 HE9.out.2 (HN1.out rfl))
      go_wp2
      refine bodyPost_ret (v := .tuple #[.agg #[.int .i64 0, .int .i64 0, .int .i64 0, .int .i64 0, .int .i64 0, .int .i64 0], .bool false]) (by simp [results, Tryz.results11, go_sem, *]) rfl ⟨0, 0, 0, 0, 0, 0, false, rfl, (fun h => by cases h), (fun _ => ⟨HN.out, rfl, rfl, rfl, rfl, rfl, rfl⟩), ?_⟩
      repeat (first | with_reducible assumption | with_reducible exact Below.refl _ _ | with_reducible refine Below.setCell ?_ (by first | omega | (simp <;> omega)) _ | with_reducible refine Below.alloc ?_ (by first | omega | (simp <;> omega)) _ | with_reducible refine bstep ?_ (by with_reducible assumption) | with_reducible refine Below.drew ?_)
    cases o2
    · have HN := Lib.hid (mono_vec HE9.out.1 HE9.out.2 (HN2.out rfl))
      go_wp2
      refine bodyPost_ret (v := .tuple #[.agg #[.int .i64 0, .int .i64 0, .int .i64 0, .int .i64 0, .int .i64 0, .int .i64 0], .bool false]) (by simp [results, Tryz.results11, go_sem, *]) rfl ⟨0, 0, 0, 0, 0, 0, false, rfl, (fun h => by cases h), (fun _ => ⟨HN.out, rfl, rfl, rfl, rfl, rfl, rfl⟩), ?_⟩
      repeat (first | with_reducible assumption | with_reducible exact Below.refl _ _ | with_reducible refine Below.setCell ?_ (by first | omega | (simp <;> omega)) _ | with_reducible refine Below.alloc ?_ (by first | omega | (simp <;> omega)) _ | with_reducible refine bstep ?_ (by with_reducible assumption) | with_reducible refine Below.drew ?_)
    rcases hB : motB a b c d x y with _ | _
    · have HN := Lib.hid (mono_bad HE9.out.1 HE9.out.2 (HY1.out rfl) (HY2.out rfl) hB)
      go_wp2_with fail
      refine (specIsMo_any _ _ _ _ _ _ _).mono ?_
      rintro e w4 ⟨rfl, hb4⟩
      have R4 : KM (w.heap.size) 0 0 0 0 0 0 w4 := KM.call ((R3.alloc _).alloc _) hb4
      have M4 : Kq (w2.heap.size) a b c d w4 := Kq.call ((M3.alloc _).alloc _) hb4
      have V4 : Kg (w3.heap.size) x y w4 := ((Kg.at2 (w3.heap.size) (by simp) : Kg (w3.heap.size) x y _).alloc _).call hb4
      have O4 : Km (w3.heap.size + 1) a b c d x y w4 := (Km.at (w3.heap.size + 1) (by simp) : Km (w3.heap.size + 1) a b c d x y _).call hb4
      have B4 : Below w.heap.size w w4 := bstep (Below.alloc (Below.alloc B3 (by have := B3.size; first | omega | (simp <;> omega)) _) (by have := B3.size; first | omega | (simp <;> omega)) _) hb4
      clear hb4 B3 R3 M3
      have R4c0 := R4.c0
      have R4c1 := R4.c1
      have R4c2 := R4.c2
      have R4c3 := R4.c3
      have R4c4 := R4.c4
      have R4c5 := R4.c5
      have R4f0 := R4.f0
      have R4f1 := R4.f1
      have R4f2 := R4.f2
      have R4f3 := R4.f3
      have R4f4 := R4.f4
      have R4f5 := R4.f5
      have R4l := R4.lt
      have R4n : ¬ w.heap.size = w4.heap.size := by omega
      have M4c0 := M4.c0
      have M4c1 := M4.c1
      have M4c2 := M4.c2
      have M4c3 := M4.c3
      have M4l := M4.1
      have M4n : ¬ w2.heap.size = w4.heap.size := by omega
      have V4c0 := V4.c0
      have V4c1 := V4.c1
      have V4l := V4.1
      have V4n : ¬ w3.heap.size = w4.heap.size := by omega
      have O4c0 := O4.c0
      have O4c1 := O4.c1
      have O4c2 := O4.c2
      have O4c3 := O4.c3
      have O4c4 := O4.c4
      have O4c5 := O4.c5
      have O4l := O4.1
      have O4n : ¬ w3.heap.size + 1 = w4.heap.size := by omega
      go_wp2
      refine bodyPost_ret (v := .tuple #[.agg #[.int .i64 0, .int .i64 0, .int .i64 0, .int .i64 0, .int .i64 0, .int .i64 0], .bool false]) (by simp [results, Tryz.results11, go_sem, *]) rfl ⟨0, 0, 0, 0, 0, 0, false, rfl, (fun h => by cases h), (fun _ => ⟨HN.out, rfl, rfl, rfl, rfl, rfl, rfl⟩), ?_⟩
      repeat (first | with_reducible assumption | with_reducible exact Below.refl _ _ | with_reducible refine Below.setCell ?_ (by first | omega | (simp <;> omega)) _ | with_reducible refine Below.alloc ?_ (by first | omega | (simp <;> omega)) _ | with_reducible refine bstep ?_ (by with_reducible assumption) | with_reducible refine Below.drew ?_)
    · have HY := Lib.hid (moyes_of HE9.out.1 (HY1.out rfl) (HY2.out rfl) hB)
      go_wp2_with fail
      refine (specIsMo_any _ _ _ _ _ _ _).mono ?_
      rintro e w4 ⟨rfl, hb4⟩
      have R4 : KM (w.heap.size) 0 0 0 0 0 0 w4 := KM.call ((R3.alloc _).alloc _) hb4
      have M4 : Kq (w2.heap.size) a b c d w4 := Kq.call ((M3.alloc _).alloc _) hb4
      have V4 : Kg (w3.heap.size) x y w4 := ((Kg.at2 (w3.heap.size) (by simp) : Kg (w3.heap.size) x y _).alloc _).call hb4
      have O4 : Km (w3.heap.size + 1) a b c d x y w4 := (Km.at (w3.heap.size + 1) (by simp) : Km (w3.heap.size + 1) a b c d x y _).call hb4
      have B4 : Below w.heap.size w w4 := bstep (Below.alloc (Below.alloc B3 (by have := B3.size; first | omega | (simp <;> omega)) _) (by have := B3.size; first | omega | (simp <;> omega)) _) hb4
      clear hb4 B3 R3 M3
      have R4c0 := R4.c0
      have R4c1 := R4.c1
      have R4c2 := R4.c2
      have R4c3 := R4.c3
      have R4c4 := R4.c4
      have R4c5 := R4.c5
      have R4f0 := R4.f0
      have R4f1 := R4.f1
      have R4f2 := R4.f2
      have R4f3 := R4.f3
      have R4f4 := R4.f4
      have R4f5 := R4.f5
      have R4l := R4.lt
      have R4n : ¬ w.heap.size = w4.heap.size := by omega
      have M4c0 := M4.c0
      have M4c1 := M4.c1
      have M4c2 := M4.c2
      have M4c3 := M4.c3
      have M4l := M4.1
      have M4n : ¬ w2.heap.size = w4.heap.size := by omega
      have V4c0 := V4.c0
      have V4c1 := V4.c1
      have V4l := V4.1
      have V4n : ¬ w3.heap.size = w4.heap.size := by omega
      have O4c0 := O4.c0
      have O4c1 := O4.c1
      have O4c2 := O4.c2
      have O4c3 := O4.c3
      have O4c4 := O4.c4
      have O4c5 := O4.c5
      have O4l := O4.1
      have O4n : ¬ w3.heap.size + 1 = w4.heap.size := by omega
      go_wp2
      refine bodyPost_ret (v := .tuple #[.agg #[.int .i64 a, .int .i64 b, .int .i64 c, .int .i64 d, .int .i64 x, .int .i64 y], .bool true]) (by simp [results, Tryz.results11, go_sem, *]) rfl ⟨a, b, c, d, x, y, true, rfl, (fun _ => HY.out), (fun h => by cases h), ?_⟩
      repeat (first | with_reducible assumption | with_reducible exact Below.refl _ _ | with_reducible refine Below.setCell ?_ (by first | omega | (simp <;> omega)) _ | with_reducible refine Below.alloc ?_ (by first | omega | (simp <;> omega)) _ | with_reducible refine bstep ?_ (by with_reducible assumption) | with_reducible refine Below.drew ?_)
  · have HN := Lib.hid (mono_len HSP.out h2)
    have h2b : ((ws.length : Int) != 2) = true := by simp; omega
    clear hown hgc h2 HSP
    go_wp2
    refine bodyPost_ret (v := .tuple #[.agg #[.int .i64 0, .int .i64 0, .int .i64 0, .int .i64 0, .int .i64 0, .int .i64 0], .bool false]) (by simp [results, Tryz.results11, go_sem, *]) rfl ⟨0, 0, 0, 0, 0, 0, false, rfl, (fun h => by cases h), (fun _ => ⟨HN.out, rfl, rfl, rfl, rfl, rfl, rfl⟩), ?_⟩
    repeat (first | with_reducible assumption | with_reducible exact Below.refl _ _ | with_reducible refine Below.setCell ?_ (by first | omega | (simp <;> omega)) _ | with_reducible refine Below.alloc ?_ (by first | omega | (simp <;> omega)) _ | with_reducible refine bstep ?_ (by with_reducible assumption) | with_reducible refine Below.drew ?_)

end Go.Proofs.YtpdekopmnchanabGreatDoor
