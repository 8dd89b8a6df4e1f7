/-
  Contracts of ReadLattice (program and model) and the walk of its exact law: it answers a valid lattice exactly if the text has its numerals. Conditions: the text has at most 2^20 bytes; the library's variables read as their initialisers lay them.
-/
import Derived.Test.YtcjefepjnomfaaaDoorRdN
import Derived.Test.YtcjefepjnomfaaaDoorLat3
import Derived.Laws.CopyOwn
import Derived.Deep.RegionHeld3
import Derived.BigQuiet
import Derived.Deep.QuietTactic
import Derived.WalkSmall
namespace Go.Proofs.YtcjefepjnomfaaaDoor
open Go.RowKit
set_option linter.unusedSimpArgs false
set_option linter.unusedVariables false

def three (a b c : Int) : List (List UInt8) := [Lib.itoa a, Lib.itoa b, Lib.itoa c]
def LYes (l : List UInt8) (a b c : Int) : Prop := latB a b c = true ∧ SplitOf l (three a b c)
def LNo (l : List UInt8) : Prop := ∀ a b c, latB a b c = true → ¬ SplitOf l (three a b c)
def LPost (l : List UInt8) (w : World) (e : Ending) (w' : World) : Prop :=
  ∃ (a b c : Int) (ok : Bool), e = .returned (.tuple #[.agg #[.int .i64 a, .int .i64 b, .int .i64 c], .bool ok]) ∧ (ok = true → LYes l a b c) ∧ (ok = false → LNo l ∧ a = 0 ∧ b = 0 ∧ c = 0) ∧ Below w.heap.size w w'
theorem three_inj {a b c a' b' c' : Int} (h : three a b c = three a' b' c') : a = a' ∧ b = b' ∧ c = c' := by
  simp only [three, List.cons.injEq, and_true] at h
  exact ⟨itoa_injg h.1, itoa_injg h.2.1, itoa_injg h.2.2⟩
theorem lno_of_N {l : List UInt8} (h : RNoN l 3) : LNo l := by
  intro a b c hl h'
  have hi := latB_iff.1 hl
  have hb := latI_bd hi
  obtain ⟨h1, h2, h3, h4, h5⟩ := hi
  exact h [a, b, c] rfl (by intro z hz; simp at hz; omega) h'
theorem lno_of_bad {l : List UInt8} {a b c : Int} (h : SplitOf l (three a b c)) (hm : latB a b c = false) : LNo l := by
  intro a' b' c' hm' h'
  obtain ⟨rfl, rfl, rfl⟩ := three_inj (split_one h h')
  rw [hm] at hm'; cases hm'
theorem l_same {l : List UInt8} {a b c a' b' c' : Int} {o o' : Bool} (h1 : o = true → LYes l a b c) (h2 : o = false → LNo l ∧ a = 0 ∧ b = 0 ∧ c = 0) (h3 : o' = true → LYes l a' b' c') (h4 : o' = false → LNo l ∧ a' = 0 ∧ b' = 0 ∧ c' = 0) : o' = o ∧ a' = a ∧ b' = b ∧ c' = c := by
  cases o <;> cases o'
  · obtain ⟨_, rfl, rfl, rfl⟩ := h2 rfl
    obtain ⟨_, rfl, rfl, rfl⟩ := h4 rfl
    exact ⟨rfl, rfl, rfl, rfl⟩
  · exact absurd (h3 rfl).2 ((h2 rfl).1 _ _ _ (h3 rfl).1)
  · exact absurd (h1 rfl).2 ((h4 rfl).1 _ _ _ (h1 rfl).1)
  · obtain ⟨e1, e2, e3⟩ := three_inj (split_one (h1 rfl).2 (h3 rfl).2)
    exact ⟨rfl, e1.symm, e2.symm, e3.symm⟩
theorem ints_tri {ns : List Int} (h : ns.length = 3) : ∃ a b c, ns = [a, b, c] := by
  match ns, h with
  | [a, b, c], _ => exact ⟨a, b, c, rfl⟩
theorem splice_nil3 {α : Type} (L : List α) : splice L 0 [] = L := by simp [splice]
theorem splice_all3 {α : Type} (L cs : List α) (h : cs.length = L.length) : splice L 0 cs = cs := by simp [splice, h]
theorem KL.row {R : Nat} {a b c : Int} {W : World} {T : TypeId} (h : W.heap[R]? = some (.cells #[.int .i64 a, .int .i64 b, .int .i64 c] T (0, 0))) : KL R a b c W := by
  have hlt : R < W.heap.size := (Array.getElem?_eq_some_iff.1 h).1
  exact ⟨hlt, cell_of_row W R 0 _ T _ h, cell_of_row W R 1 _ T _ h, cell_of_row W R 2 _ T _ h, frozen_of_row W R 0 _ T h, frozen_of_row W R 1 _ T h, frozen_of_row W R 2 _ T h⟩
theorem one_ints3 (ns : List Int) : ∀ u ∈ ns.map (Value.int .i64), u.oneCell' = true := by
  intro u hu
  obtain ⟨n, _, rfl⟩ := List.mem_map.1 hu
  rfl
theorem src_row3 {W : World} {base g cap n : Nat} {e : TypeId} {xs : List Value} (h : W.ownsRow base e 1 (.slice (some ⟨g, 0, none⟩) n cap) n xs) : ∀ (j : Nat) (v : Value), xs[j]? = some v → W.cell? ((⟨g, 0, none⟩ : Addr).add j) = some v := by
  intro j v hj
  have hjl : j < xs.length := (List.getElem?_eq_some_iff.1 hj).1
  have := h.1
  have hc := h.cellAt j (by omega)
  rw [hj] at hc
  by_cases h0 : j = 0
  · subst h0; simpa [Addr.add] using hc
  · simpa [Addr.add, h0] using hc

set_option maxHeartbeats 4000000 in
theorem implReadL_any (s : ByteArray) (hs : s.size ≤ 1048576) (w : World) (hT : TabOK w) (hE : ErrsOK w) (hM : MaxOK w) :
    Calls Tryd.prog 22 #[.string s] w (LPost s.data.toList w) := by
  have B0 : Below w.heap.size w ((w.alloc (.cells #[.int .i64 0, .int .i64 0, .int .i64 0] 32)).alloc (.cells #[.int .i64 0, .int .i64 0, .int .i64 0] 85)) := Below.alloc (Below.alloc (Below.refl _ _) (Nat.le_refl _) _) (by simp) _
  have CU := Lib.hid (readN_any s 3 3 rfl hs (by omega) (by omega) _ (hT.on B0) (hE.on B0) (hM.on B0))
  have R0 : KL w.heap.size 0 0 0 ((w.alloc (.cells #[.int .i64 0, .int .i64 0, .int .i64 0] 32)).alloc (.cells #[.int .i64 0, .int .i64 0, .int .i64 0] 85)) := KL.alloc (KL.at _ rfl) _
  have HW0 : ((w.alloc (.cells #[.int .i64 0, .int .i64 0, .int .i64 0] 32)).alloc (.cells #[.int .i64 0, .int .i64 0, .int .i64 0] 85)).heap[w.heap.size + 1]? = some (.cells #[.int .i64 0, .int .i64 0, .int .i64 0] 85 (0, 0)) := by
    have := heap_alloc_new (w.alloc (.cells #[.int .i64 0, .int .i64 0, .int .i64 0] 32)) (.cells #[.int .i64 0, .int .i64 0, .int .i64 0] 85)
    simpa using this
  have HS0 : w.heap.size + 1 + 1 = ((w.alloc (.cells #[.int .i64 0, .int .i64 0, .int .i64 0] 32)).alloc (.cells #[.int .i64 0, .int .i64 0, .int .i64 0] 85)).heap.size := by simp
  have HS := Lib.hid HS0
  have HW := Lib.hid HW0
  clear HS0 HW0 hs
  go_enter Tryd.func22, Tryd.ntmps22
  go_wp2_with fail
  refine (CU.out).mono ?_
  rintro e w1 ⟨v, b, ns, rfl, hy, hn, hb1⟩
  have B1 : Below w.heap.size w w1 := bstep B0 hb1
  have R1 := R0.call hb1
  have HM1 := Lib.hid ((hb1.block (w.heap.size + 1) (by have := HS.out; omega)).trans HW.out)
  clear CU R0 HW B0
  cases b
  · obtain ⟨rfl, hno⟩ := hn rfl
    have HN := Lib.hid (lno_of_N hno)
    clear hy hn hno hb1 HS
    go_wp2_with (first | (refine wpList_copy_splice rfl _ _ _ _ rfl 2 Tryd.underlying68 (by kernel_rfl) _ _ _ _ _ _ rfl rfl (w.heap.size + 1) 0 [.int .i64 0, .int .i64 0, .int .i64 0] 85 HM1.out [] rfl (fun h => absurd h (by simp)) (by simp) (by simp) (w.heap.size + 1) w1 (Below.refl _ _) (Nat.le_refl _) ?_; intro w2 HG2 hb2; have R2 := R1.grow hb2 (Nat.lt_succ_self _); have M2 := KL.row (a := 0) (b := 0) (c := 0) (by have := HG2.out; rw [splice_nil3] at this; exact this); have B2 : Below w.heap.size w w2 := B1.trans (hb2.mono (Nat.le_succ _)); obtain ⟨r0, r1, r2, r3, r4, r5, r6⟩ := id R2; obtain ⟨m0, m1, m2, m3, m4, m5, m6⟩ := id M2))
    refine bodyPost_ret (v := .tuple #[.agg #[.int .i64 0, .int .i64 0, .int .i64 0], .bool false]) (by simp [results, Tryd.results22, go_sem, r0, r1, r2, r3]) rfl ⟨0, 0, 0, false, rfl, (fun h => by cases h), fun _ => ⟨HN.out, rfl, rfl, rfl⟩, ?_⟩
    repeat (first | assumption | refine Below.setCell ?_ (by first | omega | (simp <;> omega)) _ | refine Below.drew ?_ | refine below_drewN ?_ _ | refine Below.alloc ?_ (by first | omega | (simp <;> omega)) _ | refine bstep ?_ (by assumption))
  · obtain ⟨hlen, hsp, hown⟩ := hy rfl
    clear hy hn
    obtain ⟨a, b, c, rfl⟩ := ints_tri hlen
    obtain ⟨g, cap, rfl⟩ := own_form hown (by omega)
    have HSRC := Lib.hid (src_row3 hown)
    have HSP := Lib.hid (show SplitOf s.data.toList (three a b c) from hsp)
    clear hlen hsp hown hb1 HS
    rcases hm : latB a b c with _ | _
    · have HN := Lib.hid (lno_of_bad HSP.out hm)
      have HM0 := Lib.hid hm
      clear HSP hm
      go_wp2_with (first | (go_at_call 51; refine (isValidL_any a b c _).mono ?_; rintro e w3 ⟨rfl, hb3⟩; rw [HM0.out]; have R3 := (R2.alloc (.cells #[.int .i64 a, .int .i64 b, .int .i64 c] 32)).call hb3; have B3 := bstep (B2.alloc B2.size (.cells #[.int .i64 a, .int .i64 b, .int .i64 c] 32)) hb3; clear r0 r1 r2 r3 r4 r5 r6 m0 m1 m2 m3 m4 m5 m6; obtain ⟨r0, r1, r2, r3, r4, r5, r6⟩ := id R3) | (refine wpList_copy_splice rfl _ _ _ _ rfl 2 Tryd.underlying68 (by kernel_rfl) _ _ _ _ _ _ rfl rfl (w.heap.size + 1) 0 [.int .i64 0, .int .i64 0, .int .i64 0] 85 HM1.out ([a, b, c].map (Value.int .i64)) rfl (fun _ => ⟨rfl, ⟨g, 0, none⟩, rfl, HSRC.out⟩) (by simp) (one_ints3 _) (w.heap.size + 1) w1 (Below.refl _ _) (Nat.le_refl _) ?_; intro w2 HG2 hb2; have R2 := R1.grow hb2 (Nat.lt_succ_self _); have M2 := KL.row (a := a) (b := b) (c := c) (by have := HG2.out; rw [splice_all3 _ _ (by simp)] at this; exact this); have B2 : Below w.heap.size w w2 := B1.trans (hb2.mono (Nat.le_succ _)); obtain ⟨r0, r1, r2, r3, r4, r5, r6⟩ := id R2; obtain ⟨m0, m1, m2, m3, m4, m5, m6⟩ := id M2))
      refine bodyPost_ret (v := .tuple #[.agg #[.int .i64 0, .int .i64 0, .int .i64 0], .bool false]) (by simp [results, Tryd.results22, go_sem, r0, r1, r2, r3]) rfl ⟨0, 0, 0, false, rfl, (fun h => by cases h), fun _ => ⟨HN.out, rfl, rfl, rfl⟩, ?_⟩
      repeat (first | assumption | refine Below.setCell ?_ (by first | omega | (simp <;> omega)) _ | refine Below.drew ?_ | refine below_drewN ?_ _ | refine Below.alloc ?_ (by first | omega | (simp <;> omega)) _ | refine bstep ?_ (by assumption))
    · have HY := Lib.hid (show LYes s.data.toList a b c from ⟨hm, HSP.out⟩)
      have HM0 := Lib.hid hm
      clear HSP hm
      go_wp2_with (first | (go_at_call 51; refine (isValidL_any a b c _).mono ?_; rintro e w3 ⟨rfl, hb3⟩; rw [HM0.out]; have R3 := (R2.alloc (.cells #[.int .i64 a, .int .i64 b, .int .i64 c] 32)).call hb3; have K3 : Kt w2.heap.size a b c w3 := Kt.call (Kt.at _ rfl) hb3; have B3 := bstep (B2.alloc B2.size (.cells #[.int .i64 a, .int .i64 b, .int .i64 c] 32)) hb3; clear r0 r1 r2 r3 r4 r5 r6 m0 m1 m2 m3 m4 m5 m6; obtain ⟨r0, r1, r2, r3, r4, r5, r6⟩ := id R3; obtain ⟨k0, k1, k2, k3⟩ := id K3) | (refine wpList_copy_splice rfl _ _ _ _ rfl 2 Tryd.underlying68 (by kernel_rfl) _ _ _ _ _ _ rfl rfl (w.heap.size + 1) 0 [.int .i64 0, .int .i64 0, .int .i64 0] 85 HM1.out ([a, b, c].map (Value.int .i64)) rfl (fun _ => ⟨rfl, ⟨g, 0, none⟩, rfl, HSRC.out⟩) (by simp) (one_ints3 _) (w.heap.size + 1) w1 (Below.refl _ _) (Nat.le_refl _) ?_; intro w2 HG2 hb2; have R2 := R1.grow hb2 (Nat.lt_succ_self _); have M2 := KL.row (a := a) (b := b) (c := c) (by have := HG2.out; rw [splice_all3 _ _ (by simp)] at this; exact this); have B2 : Below w.heap.size w w2 := B1.trans (hb2.mono (Nat.le_succ _)); obtain ⟨r0, r1, r2, r3, r4, r5, r6⟩ := id R2; obtain ⟨m0, m1, m2, m3, m4, m5, m6⟩ := id M2))
      refine bodyPost_ret (v := .tuple #[.agg #[.int .i64 a, .int .i64 b, .int .i64 c], .bool true]) (by simp [results, Tryd.results22, go_sem, r0, r1, r2, r3]) rfl ⟨a, b, c, true, rfl, (fun _ => HY.out), (fun h => by cases h), ?_⟩
      repeat (first | assumption | refine Below.setCell ?_ (by first | omega | (simp <;> omega)) _ | refine Below.drew ?_ | refine below_drewN ?_ _ | refine Below.alloc ?_ (by first | omega | (simp <;> omega)) _ | refine bstep ?_ (by assumption))

theorem Kt.far {R : Nat} {a b c : Int} {W : World} {q : Addr} {u : Value} (hq : ¬ q.block = R) (h : Kt R a b c W) : Kt R a b c (W.setCell q u) := by
  have hh : (W.setCell q u).heap[R]? = W.heap[R]? := Below.heap_setCell _ _ _ _ (by omega)
  exact ⟨by simpa [World.setCell] using h.1, (World.cell?_of_block (w := W) hh).trans h.c0, (World.cell?_of_block (w := W) hh).trans h.c1, (World.cell?_of_block (w := W) hh).trans h.c2⟩
theorem splitL_ne {l : List UInt8} {ws : List (List UInt8)} (h : SplitOf l ws) : ws.length ≠ 0 := by
  intro h0
  have : ws = [] := List.eq_nil_of_length_eq_zero h0
  subst this
  have := h.1
  simp [joinC] at this
set_option maxHeartbeats 4000000 in
theorem specReadL_any (s : ByteArray) (hs : s.size ≤ 1048576) (w : World) :
    Calls Tryd.prog 24 #[.string s] w (LPost s.data.toList w) := by
  have HZ := Lib.hid (show s.data.toList.length = s.size from Array.length_toList)
  have hA : Below w.heap.size w (w.alloc (.cells #[.int .i64 0, .int .i64 0, .int .i64 0] 32)) := (Below.refl _ _).alloc (Nat.le_refl _) _
  have SP := Lib.hid (split_any s hs)
  go_enter Tryd.func24, Tryd.ntmps24
  go_wp2_with fail
  refine (SP.out _).mono ?_
  rintro e w1 ⟨v, ws, rfl, hsp, hwl, hown, hb1⟩
  have F1 : KL w.heap.size 0 0 0 w1 := KL.call (KL.at _ rfl) hb1
  have B1 : Below w.heap.size w w1 := bstep hA hb1
  have HSP := Lib.hid hsp
  have hwz : ws.length ≤ 1048577 := by rw [HZ.out] at hwl; omega
  have HWX : Hid (∀ x ∈ ws, x.length ≤ 1048576) := fun x hx => Nat.le_trans (word_leN hsp x hx) (by rw [HZ.out]; exact hs)
  obtain ⟨g, cap, rfl⟩ := own_form hown (splitL_ne hsp)
  obtain ⟨hg0, hg1, hgc⟩ := own_cell hown
  have HGC : Hid (∀ (i : Nat) (hi : i < ws.length), w1.cell? ⟨g, i, none⟩ = some (strV ws[i])) := fun i hi => by
    have := hgc i (by simpa using hi)
    simpa using this
  clear hsp hwl hown hb1 hgc SP
  go_wp2_with fail
  refine (numbers_any ws g cap w1 hg1 hwz HWX.out HGC.out).mono ?_
  rintro e w2 ⟨v2, b2, ns, rfl, y, z, hb2⟩
  have F2 := F1.call hb2
  have B2 : Below w.heap.size w w2 := bstep B1 hb2
  have q6 : w.heap.size < w1.heap.size := F1.lt
  clear F1 B1 hb2 HGC HWX hg0 hg1
  obtain ⟨r0, r1, r2, r3, r4, r5, r6⟩ := id F2
  cases b2
  · obtain ⟨rfl, x, hxm, hx⟩ := z rfl
    have HN := Lib.hid (lno_of_N (rnoN_word HSP.out hxm hx))
    clear y z hx
    go_wp2_with fail
    go_quiet (fail)
    all_goals
      go_wp2
      refine bodyPost_ret (v := .tuple #[.agg #[.int .i64 0, .int .i64 0, .int .i64 0], .bool false]) (by simp [results, Tryd.results24, go_sem, r0, r1, r2, r3]) rfl ⟨0, 0, 0, false, rfl, (fun h => by cases h), fun _ => ⟨HN.out, rfl, rfl, rfl⟩, ?_⟩
      repeat (first | assumption | refine Below.setCell ?_ (by first | omega | (simp <;> omega)) _ | refine Below.drew ?_ | refine below_drewN ?_ _ | refine Below.alloc ?_ (by first | omega | (simp <;> omega)) _ | refine bstep ?_ (by assumption))
  · obtain ⟨hN, hown⟩ := y rfl
    have HNS := Lib.hid hN
    have hnl : ns.length = ws.length := hN.1
    clear y z hN
    obtain ⟨g2, cap2, rfl⟩ := own_form hown (by rw [hnl]; exact splitL_ne HSP.out)
    obtain ⟨k0, k1, hkc⟩ := own_cell hown
    have hgne : ¬ w.heap.size = g2 := by omega
    by_cases h2 : ns.length = 3
    · obtain ⟨n0, n1, n2, rfl⟩ := ints_tri h2
      have c0 : w2.cell? ⟨g2, 0, none⟩ = some (.int .i64 n0) := hkc 0 (by simp)
      have c1 : w2.cell? ⟨g2, 1, none⟩ = some (.int .i64 n1) := hkc 1 (by simp)
      have c2 : w2.cell? ⟨g2, 2, none⟩ = some (.int .i64 n2) := hkc 2 (by simp)
      have KG : Kt g2 n0 n1 n2 w2 := ⟨k1, c0, c1, c2⟩
      have HF := Lib.hid (show SplitOf s.data.toList (three n0 n1 n2) by
        have := nums_split (ws := ws) (ns := [n0, n1, n2]) (by have := HNS.out; exact this)
        unfold three
        rw [show [Lib.itoa n0, Lib.itoa n1, Lib.itoa n2] = [n0, n1, n2].map Lib.itoa from rfl, this]
        exact HSP.out)
      clear hkc hown h2 hnl HNS HSP
      rcases hv : latB n0 n1 n2 with _ | _
      · have HN := Lib.hid (lno_of_bad HF.out hv)
        go_wp2_with fail
        go_region_held3 (fun W => W.cell? ⟨g2, 0, none⟩ = some (.int .i64 n0) ∧ W.cell? ⟨g2, 1, none⟩ = some (.int .i64 n1) ∧ W.cell? ⟨g2, 2, none⟩ = some (.int .i64 n2)) ((refine Kt.cells ?_; repeat (first | assumption | with_reducible refine Kt.drew ?_ | with_reducible refine Kt.alloc ?_ _ | with_reducible refine Kt.call ?_ (by assumption) | ((with_reducible refine Kt.far ?_ ?_); exact hgne))))
          (first | (go_at_call 54; refine (specIsLattice_any _ _ _ _).mono ?_; rintro e w3 ⟨rfl, hb3⟩))
        have F3 := F2.drew.call hb3
        have B3 : Below w.heap.size w w3 := bstep B2.drew hb3
        clear r0 r1 r2 r3 r4 r5 r6
        obtain ⟨r0, r1, r2, r3, r4, r5, r6⟩ := id F3
        go_wp2
        refine bodyPost_ret (v := .tuple #[.agg #[.int .i64 0, .int .i64 0, .int .i64 0], .bool false]) (by simp [results, Tryd.results24, go_sem, r0, r1, r2, r3]) rfl ⟨0, 0, 0, false, rfl, (fun h => by cases h), fun _ => ⟨HN.out, rfl, rfl, rfl⟩, ?_⟩
        repeat (first | assumption | refine Below.setCell ?_ (by first | omega | (simp <;> omega)) _ | refine Below.drew ?_ | refine below_drewN ?_ _ | refine Below.alloc ?_ (by first | omega | (simp <;> omega)) _ | refine bstep ?_ (by assumption))
      · have HY := Lib.hid (show LYes s.data.toList n0 n1 n2 from ⟨hv, HF.out⟩)
        go_wp2_with fail
        go_region_held3 (fun W => W.cell? ⟨g2, 0, none⟩ = some (.int .i64 n0) ∧ W.cell? ⟨g2, 1, none⟩ = some (.int .i64 n1) ∧ W.cell? ⟨g2, 2, none⟩ = some (.int .i64 n2)) ((refine Kt.cells ?_; repeat (first | assumption | with_reducible refine Kt.drew ?_ | with_reducible refine Kt.alloc ?_ _ | with_reducible refine Kt.call ?_ (by assumption) | ((with_reducible refine Kt.far ?_ ?_); exact hgne))))
          (first | (go_at_call 54; refine (specIsLattice_any _ _ _ _).mono ?_; rintro e w3 ⟨rfl, hb3⟩))
        have F3 := F2.drew.call hb3
        have K3 : Kt g2 n0 n1 n2 w3 := Kt.call KG.drew hb3
        have B3 : Below w.heap.size w w3 := bstep B2.drew hb3
        clear r0 r1 r2 r3 r4 r5 r6 c0 c1 c2
        obtain ⟨r0, r1, r2, r3, r4, r5, r6⟩ := id F3
        obtain ⟨c9, c0, c1, c2⟩ := id K3
        go_wp2_with fail
        go_region_held3 (fun W => W.cell? ⟨g2, 0, none⟩ = some (.int .i64 n0) ∧ W.cell? ⟨g2, 1, none⟩ = some (.int .i64 n1) ∧ W.cell? ⟨g2, 2, none⟩ = some (.int .i64 n2)) ((refine Kt.cells ?_; repeat (first | assumption | with_reducible refine Kt.drew ?_ | with_reducible refine Kt.alloc ?_ _ | with_reducible refine Kt.call ?_ (by assumption) | ((with_reducible refine Kt.far ?_ ?_); exact hgne)))) (fail)
        go_wp2
        refine bodyPost_ret (v := .tuple #[.agg #[.int .i64 n0, .int .i64 n1, .int .i64 n2], .bool true]) (by simp [results, Tryd.results24, go_sem, r0, r1, r2, r3]) rfl ⟨n0, n1, n2, true, rfl, (fun _ => HY.out), (fun h => by cases h), ?_⟩
        repeat (first | assumption | refine Below.setCell ?_ (by first | omega | (simp <;> omega)) _ | refine Below.drew ?_ | refine below_drewN ?_ _ | refine Below.alloc ?_ (by first | omega | (simp <;> omega)) _ | refine bstep ?_ (by assumption))
    · have HN := Lib.hid (lno_of_N (rnoN_len HSP.out (by omega)))
      have h2b : ((ns.length : Int) != 3) = true := by simp; omega
      clear hkc hown h2 hnl HNS HSP
      go_wp2_with fail
      go_quiet (fail)
      go_wp2
      refine bodyPost_ret (v := .tuple #[.agg #[.int .i64 0, .int .i64 0, .int .i64 0], .bool false]) (by simp [results, Tryd.results24, go_sem, r0, r1, r2, r3]) rfl ⟨0, 0, 0, false, rfl, (fun h => by cases h), fun _ => ⟨HN.out, rfl, rfl, rfl⟩, ?_⟩
      repeat (first | assumption | refine Below.setCell ?_ (by first | omega | (simp <;> omega)) _ | refine Below.drew ?_ | refine below_drewN ?_ _ | refine Below.alloc ?_ (by first | omega | (simp <;> omega)) _ | refine bstep ?_ (by assumption))

set_option maxHeartbeats 4000000 in
theorem walkReadL (s : ByteArray) (w : World) (hsz : s.size ≤ maxLen) (hT : TabOK w) (hE : ErrsOK w) (hM : MaxOK w) :
    Calls Tryd.prog 10 #[.string s] w fun e w' => e = .returned (.bool true) ∧ Below w.heap.size w w' := by
  unfold maxLen at hsz
  by_cases hbig : 1048576 < s.size
  · have hb1 : (1048576 : Int) < (s.size : Int) := by omega
    go_enter Tryd.func10, Tryd.ntmps10
    go_wp2
    go_ret
    exact ⟨rfl, Below.refl _ _⟩
  have hs : s.size ≤ 1048576 := by omega
  have SR := Lib.hid (specReadL_any s hs)
  have IR := Lib.hid (implReadL_any s hs)
  clear hsz hbig
  go_enter Tryd.func10, Tryd.ntmps10
  go_wp2_with fail
  refine (SR.out _).mono ?_
  rintro e w1 ⟨a, b, c, o, rfl, p1, p2, hb1⟩
  have B1 : Below w.heap.size w (w1.alloc (.cells #[.int .i64 a, .int .i64 b, .int .i64 c] 32)) := hb1.alloc hb1.size _
  have P1 := Lib.hid p1
  have P2 := Lib.hid p2
  clear p1 p2 SR
  go_wp2_with fail
  refine (IR.out _ (hT.on B1) (hE.on B1) (hM.on B1)).mono ?_
  rintro e w2 ⟨a', b', c', o', rfl, q1, q2, hb2⟩
  obtain ⟨rfl, rfl, rfl, rfl⟩ := l_same P1.out P2.out q1 q2
  have K2 : Kt w1.heap.size a' b' c' w2 := Kt.call (Kt.at _ rfl) hb2
  have B2 : Below w.heap.size w w2 := bstep B1 hb2
  obtain ⟨k0, k1, k2, k3⟩ := id K2
  have k5 : ¬ w1.heap.size = w2.heap.size := by omega
  have he1 := eqT_rfl a' b' c'
  have hz1 := hb1.size
  clear q1 q2 P1 P2 IR hb2 B1 hb1
  go_wp2_with fail
  refine (eqLat_any _ _ _ _ _ _ _).mono ?_
  rintro e w3 ⟨rfl, hb3⟩
  have hBs := B2.size
  go_wp2
  go_ret
  refine ⟨rfl, ?_⟩
  repeat (first | assumption | refine Below.setCell ?_ (by first | omega | (simp <;> omega)) _ | refine Below.alloc ?_ (by first | omega | (simp <;> omega)) _ | refine bstep ?_ (by assumption) | refine Below.drew ?_)

end Go.Proofs.YtcjefepjnomfaaaDoor
