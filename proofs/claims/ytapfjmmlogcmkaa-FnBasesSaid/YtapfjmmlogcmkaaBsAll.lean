/-
  The law FnBases: the draws, the comparisons, plain facts on reduced bases, and the walk: it returns true at every code and writes nothing that was there. Condition: the code's bytes can be read.
-/
import Derived.Test.YtapfjmmlogcmkaaLike9
import Derived.Test.YtapfjmmlogcmkaaSl4
import Derived.Test.YtapfjmmlogcmkaaDrawNr
import Derived.Test.YtapfjmmlogcmkaaDrawL1
import Derived.Test.YtapfjmmlogcmkaaDrawPm
import Derived.Test.YtapfjmmlogcmkaaRbR
import Derived.Test.YtapfjmmlogcmkaaLMats
import Derived.Test.YtapfjmmlogcmkaaLat4
import Derived.Deep.RegionHeld3
import Derived.ProofKit
import Derived.OpenShut
namespace Go.Proofs.Ytapfjmmlogcmkaa
open Go.RowKit
set_option linter.unusedSimpArgs false
set_option linter.unusedVariables false

set_option maxHeartbeats 4000000 in
theorem likeMats9_any {lo hi lo' hi' n : Nat} {v v' : Value} {F : Nat → Int} {w : World} (h1 : SRow lo hi 4 v n F w) (h2 : SRow lo' hi' 4 v' n F w) :
    Calls Try.prog 14 #[v, v'] w fun e w' => e = .returned (.bool true) ∧ Below w.heap.size w w' := by
  obtain ⟨_, hm, h1⟩ := h1
  obtain ⟨_, _, h2⟩ := h2
  by_cases hn : n = 0
  · subst hn
    obtain ⟨ao, cap, rfl⟩ : ∃ ao cap, v = .slice ao 0 cap := by
      rcases h1 with ⟨_, ao, cap, rfl⟩ | ⟨g, cap, rfl, _⟩
      · exact ⟨ao, cap, rfl⟩
      · exact ⟨_, cap, rfl⟩
    obtain ⟨ao', cap', rfl⟩ : ∃ ao cap, v' = .slice ao 0 cap := by
      rcases h2 with ⟨_, ao, cap, rfl⟩ | ⟨g, cap, rfl, _⟩
      · exact ⟨ao, cap, rfl⟩
      · exact ⟨_, cap, rfl⟩
    clear h1 h2
    go_enter Try.func14, Try.ntmps14
    go_wp2_with fail
    go_loopw [5] (fun i W => i = .int .i64 ((0 : Nat) : Int) ∧ W = w) (fun _ _ => 0)
    case atStart => exact ⟨rfl, rfl⟩
    case round =>
      obtain ⟨rfl, rfl⟩ := hrel
      go_wp2
      go_ret
      exact ⟨rfl, Below.refl _ _⟩
  · obtain ⟨g, cap, rfl, _, _, r1⟩ := h1.resolve_left (fun h => hn h.1)
    obtain ⟨g', cap', rfl, _, _, r2⟩ := h2.resolve_left (fun h => hn h.1)
    clear h1 h2
    have HM := Lib.hid hm
    clear hm hn
    have R1 := Lib.hid r1
    have R2 := Lib.hid r2
    clear r1 r2
    go_enter Try.func14, Try.ntmps14
    go_wp2_with fail
    go_loopw [5] (fun i W => ∃ k : Nat, i = .int .i64 (k : Int) ∧ k ≤ n ∧ Below w.heap.size w W) (fun i _ => n - (intOf i).toNat)
    case atStart => exact ⟨0, rfl, by omega, Below.refl _ _⟩
    case round =>
      obtain ⟨k, rfl, hk, hB⟩ := hrel
      by_cases hk1 : k < n
      · have hk2 : (k : Int) < (n : Int) := by omega
        have r1 := R1.out.grow hB R1.out.1
        have r2 := R2.out.grow hB R2.out.1
        have s1 := (r1.ko4 (k * 4) (by omega)).cells
        have s2 := (r2.ko4 (k * 4) (by omega)).cells
        have hmx := HM.out
        generalize F (k * 4) = x at *
        generalize F (k * 4 + 1) = y at *
        generalize F (k * 4 + 2) = z at *
        generalize F (k * 4 + 3) = t at *
        clear r1 r2
        obtain ⟨a0, a1, a2, a3⟩ := s1
        obtain ⟨b0, b1, b2, b3⟩ := s2
        go_wp2_with fail
        go_region
        all_goals
          go_wp2
          go_roundw
          case rel => exact ⟨k + 1, by go_num, by omega, by first | exact hB | exact hB.drew⟩
          case measure => first | (simp [intOf]; done) | (simp [intOf]; omega)
      · obtain rfl : k = n := by omega
        go_wp2
        go_ret
        exact ⟨rfl, hB⟩


open Go.RowKit
set_option linter.unusedSimpArgs false
set_option linter.unusedVariables false

def FrLat (w : World) (e : Ending) (w' : World) : Prop := ∃ f a b c : Int, e = .returned (.tuple #[.int .i64 f, .agg #[.int .i64 a, .int .i64 b, .int .i64 c]]) ∧ Below w.heap.size w w'
set_option maxRecDepth 100000 in
set_option maxHeartbeats 4000000 in
theorem drawLm_any (a0 : Option Addr) (len cap : Nat) (w : World) (hl : len ≤ 140737488355328) (hB : Bts a0 len w.heap.size w) :
    Calls Try.prog 31 #[.slice a0 len cap] w (FrLat w) := by
  go_enter Try.func31, Try.ntmps31
  go_wp2_with fail
  refine (from_at (w.heap.size + 1) a0 len cap _ (by simp) hl (hB.grow (Below.alloc (Below.refl _ _) (by first | omega | (simp <;> omega)) _) (by omega))).mono ?_
  rintro e w1 ⟨rfl, S1, H1⟩
  have R1 : KL w.heap.size 0 0 0 w1 := KL.call (KL.at _ rfl) H1
  have B1 : Below w.heap.size w w1 := bstep (Below.alloc (Below.refl _ _) (by first | omega | (simp <;> omega)) _) H1
  clear H1
  go_wp2_with fail
  refine (drawFrame_any (w.heap.size + 1) a0 len cap _ S1).mono ?_
  rintro e w2 ⟨f, rfl, S2, O2⟩
  have R2 := KL.only R1 O2 (by omega)
  have B2 := bonly B1 O2 (by omega)
  clear S1 R1 B1 O2
  go_wp2_with fail
  refine (next_any _ (w.heap.size + 1) a0 len cap _ S2).mono ?_
  rintro e w3 ⟨x, rfl, x0, x1, S3, O3⟩
  have R3 := KL.only R2 O3 (by omega)
  have B3 := bonly B2 O3 (by omega)
  clear S2 R2 B2 O3 x0 x1
  rcases hx : x == 0 with _ | _
  · go_wp2_with fail
    refine (drawLat_any (w.heap.size + 1) a0 len cap _ S3).mono ?_
    rintro e w4 ⟨a, b, c, rfl, S4, O4⟩
    have R4 := KL.only R3 O4 (by omega)
    have B4 := bonly B3 O4 (by omega)
    obtain ⟨r0, r1, r2, r3, r4, r5, r6⟩ := id R4
    go_wp2
    refine bodyPost_ret (v := .tuple #[.int .i64 f, .agg #[.int .i64 a, .int .i64 b, .int .i64 c]]) (by simp [results, Try.results31, go_sem, *]) rfl ⟨f, a, b, c, rfl, ?_⟩
    repeat (first | with_reducible assumption | with_reducible exact Below.refl _ _ | with_reducible refine Below.setCell ?_ (by first | omega | (simp <;> omega)) _ | with_reducible refine Below.alloc ?_ (by first | omega | (simp <;> omega)) _ | with_reducible refine bstep ?_ (by with_reducible assumption) | with_reducible refine Below.drew ?_)
  · go_wp2_with fail
    refine (next_any _ (w.heap.size + 1) a0 len cap _ S3).mono ?_
    rintro e w4 ⟨y, rfl, y0, y1, S4, O4⟩
    have y2 : y < 6 := y1 (by omega)
    have R4 := KL.only R3 O4 (by omega)
    have B4 := bonly B3 O4 (by omega)
    clear y1
    obtain ⟨r0, r1, r2, r3, r4, r5, r6⟩ := id R4
    go_wp2
    refine bodyPost_ret (v := .tuple #[.int .i64 f, .agg #[.int .i64 (1 + y), .int .i64 0, .int .i64 (1 + y)]]) (by simp [results, Try.results31, go_sem, *]) rfl ⟨f, 1 + y, 0, 1 + y, rfl, ?_⟩
    repeat (first | with_reducible assumption | with_reducible exact Below.refl _ _ | with_reducible refine Below.setCell ?_ (by first | omega | (simp <;> omega)) _ | with_reducible refine Below.alloc ?_ (by first | omega | (simp <;> omega)) _ | with_reducible refine bstep ?_ (by with_reducible assumption) | with_reducible refine Below.drew ?_)

set_option maxRecDepth 100000 in
set_option maxHeartbeats 4000000 in
theorem drawRb_any (a0 : Option Addr) (len cap : Nat) (w : World) (hl : len ≤ 140737488355328) (hB : Bts a0 len w.heap.size w) :
    Calls Try.prog 6 #[.slice a0 len cap] w (FrLat w) := by
  go_enter Try.func6, Try.ntmps6
  go_wp2_with fail
  refine (drawLm_any a0 len cap _ hl (hB.grow (Below.alloc (Below.refl _ _) (by first | omega | (simp <;> omega)) _) (by first | omega | (simp <;> omega)))).mono ?_
  rintro e w1 ⟨f, a, b, c, rfl, H1⟩
  have R1 : KL w.heap.size 0 0 0 w1 := KL.call (KL.at _ rfl) H1
  have B1 : Below w.heap.size w w1 := bstep (Below.alloc (Below.refl _ _) (by first | omega | (simp <;> omega)) _) H1
  obtain ⟨r0, r1, r2, r3, r4, r5, r6⟩ := id R1
  go_wp2
  refine bodyPost_ret (v := .tuple #[.int .i64 f, .agg #[.int .i64 a, .int .i64 b, .int .i64 c]]) (by simp [results, Try.results6, go_sem, *]) rfl ⟨f, a, b, c, rfl, ?_⟩
  repeat (first | with_reducible assumption | with_reducible exact Below.refl _ _ | with_reducible refine Below.setCell ?_ (by first | omega | (simp <;> omega)) _ | with_reducible refine Below.alloc ?_ (by first | omega | (simp <;> omega)) _ | with_reducible refine bstep ?_ (by with_reducible assumption) | with_reducible refine Below.drew ?_)


set_option linter.unusedVariables false

theorem pos_split {A C A' C' : Int} (hA : 1 ≤ A) (hC : 1 ≤ C) (hA' : 1 ≤ A') (hC' : 1 ≤ C') (h1 : A' ∣ A) (h2 : C' ∣ C) (h : A' * C' = A * C) : A' = A ∧ C' = C := by
  obtain ⟨p, rfl⟩ := h1
  obtain ⟨q, rfl⟩ := h2
  have hp : 1 ≤ p := by
    rcases Int.lt_or_le 0 p with h | h
    · omega
    · have := Int.mul_le_mul_of_nonneg_left (c := A') h (by omega)
      omega
  have hq : 1 ≤ q := by
    rcases Int.lt_or_le 0 q with h | h
    · omega
    · have := Int.mul_le_mul_of_nonneg_left (c := C') h (by omega)
      omega
  have e : A' * C' * (p * q) = A' * C' * 1 := by rw [Int.mul_one]; rw [h]; grind
  have hn : A' * C' ≠ 0 := by
    have := Int.mul_pos (a := A') (b := C') (by omega) (by omega)
    omega
  have hpq : p * q = 1 := Int.eq_of_mul_eq_mul_left hn e
  have h3 : p ≤ p * q := by
    have := Int.mul_le_mul_of_nonneg_left (c := p) hq (by omega)
    omega
  have h4 : q ≤ p * q := by
    have := Int.mul_le_mul_of_nonneg_right (c := q) hp (by omega)
    omega
  have e1 : p = 1 := by omega
  have e2 : q = 1 := by omega
  subst e1 e2
  simp
theorem bas_lat {A B C ux uy vx vy : Int} (hl : latI A B C) (h : Bas A B C ux uy vx vy) : latL [(ux, uy), (vx, vy)] = (A, B, C) := by
  have h0 := latI_ne hl
  have hd := h.det h0
  obtain ⟨_, t2, t3, t4⟩ := two_facts ux uy vx vy hd
  have hp : 1 ≤ A * C := by
    have := Int.mul_le_mul hl.1 hl.2.1 (by omega) (by have := hl.1; omega)
    omega
  have hAC : (latL [(ux, uy), (vx, vy)]).1 * (latL [(ux, uy), (vx, vy)]).2.2 = A * C := by
    rw [t2]
    rcases h.hd with e | e <;> omega
  have hT := two_lat hd (by rw [hAC]; exact hl.2.2.2.2)
  generalize latL [(ux, uy), (vx, vy)] = T at *
  obtain ⟨A', B', C'⟩ := T
  simp only at *
  have hC' : C' ≠ 0 := by have := hT.2.1; omega
  have i1 := (inL_iff hC' ux uy).1 t3
  have i2 := (inL_iff hC' vx vy).1 t4
  have all : ∀ x y, inL A B C x y → hasI A' B' C' x y := by
    intro x y hw
    obtain ⟨a, b, rfl, rfl⟩ := h.span h0 hw
    exact (inL_iff hC' _ _).2 (inL_comb i1 i2 a b)
  have k1 := all A 0 ⟨1, 0, by simp, by simp⟩
  have k2 := all B C ⟨0, 1, by simp, by simp⟩
  rw [has_zero] at k1
  obtain ⟨rfl, rfl⟩ := pos_split hl.1 hl.2.1 hT.1 hT.2.1 k1 k2.1 hAC
  have k3 := k2.2
  rw [Int.ediv_self hC', Int.one_mul] at k3
  obtain ⟨k, hk⟩ := k3
  have b1 := hl.2.2.1
  have b2 := hl.2.2.2.1
  have b3 := hT.2.2.1
  have b4 := hT.2.2.2.1
  have hk0 : k = 0 := by
    rcases Int.lt_trichotomy k 0 with c | c | c
    · have := Int.mul_le_mul_of_nonneg_left (c := A') (show k ≤ -1 by omega) (by omega)
      omega
    · exact c
    · have := Int.mul_le_mul_of_nonneg_left (c := A') (show 1 ≤ k by omega) (by omega)
      omega
  subst hk0
  have : B' = B := by omega
  rw [this]
theorem near_vec {f n : Int} {b : Nat} (hb : b ≤ 128) {v : Int × Int} (h : v ∈ nearL f n b) : vecB v.1 v.2 = true := by
  obtain ⟨⟨h1, h2⟩, _⟩ := nearL_mem.1 h
  exact decide_eq_true (by omega)
theorem rb_lat {f A B C : Int} (hf : frB f = true) (hl : latI A B C) :
    ofR (rbU f A B C).1 (rbU f A B C).2 (rbV f A B C (rbU f A B C)).1 (rbV f A B C (rbU f A B C)).2 = (A, B, C, 0) := by
  have hu := rbU_mem hf hl
  have hu1 : rbU f A B C ∈ nearL f (A * A) 128 := (List.mem_filter.1 hu).1
  have hb := rbV_best hf hl hu
  have hv1 : rbV f A B C (rbU f A B C) ∈ nearL f 32768 128 := by
    unfold rbV
    rcases bestF_spec f A B C (rbU f A B C) _ (nearL_sorted f 32768 128) with ⟨e, h1⟩ | ⟨b, e, h1, h2, h3⟩
    · exfalso
      have : rbV f A B C (rbU f A B C) = (0, 0) := by unfold rbV; rw [e]; rfl
      have h := hb.1.2
      rw [this] at h
      have h0 := latI_ne hl
      simp at h
      omega
    · rw [e]; exact h1
  have hus := (shortM_mem hf hl).1 hu
  obtain ⟨⟨q1, q2⟩, _⟩ := hb
  have hB : Bas A B C (rbU f A B C).1 (rbU f A B C).2 (rbV f A B C (rbU f A B C)).1 (rbV f A B C (rbU f A B C)).2 := ⟨hus.1, q1, .inl q2⟩
  have e := bas_lat hl hB
  have h0 := latI_ne hl
  unfold ofR
  rw [near_vec (by omega) hu1, near_vec (by omega) hv1, q2, e]
  have h1 : (A * C == 0) = false := by simpa using h0
  rw [h1]
  simp [limR, latB_iff.2 hl]
theorem stab_map {f A B C : Int} (hf : frB f = true) (hl : latI A B C) {m : M4} (h : m ∈ stabL f A B C) : mapR f m.1 m.2.1 m.2.2.1 m.2.2.2 A B C = (A, B, C, 0) := by
  obtain ⟨h1, h2⟩ := List.mem_filter.1 h
  have hk : keepB f m.1 m.2.1 m.2.2.1 m.2.2.2 = true := matsL_keep h1
  have hm : matB m.1 m.2.1 m.2.2.1 m.2.2.2 = true := by
    have := keep_det hf hk
    simp only [matB, keep_lim hf hk, Bool.true_and, Bool.or_eq_true, beq_iff_eq]
    exact this
  have hp : pmB f m.1 m.2.1 m.2.2.1 m.2.2.2 = true := by simp [pmB, hf, hm, hk]
  have hfl : flB f A B C = true := by simp [flB, hf, latB_iff.2 hl]
  unfold mapR
  rw [hfl, hp]
  simp only [stabB, eqT, Bool.and_eq_true, beq_iff_eq] at h2
  simp [h2]

open Go.RowKit Go.ChangeShapes Go.WideShapes Go.ChangeAt
set_option linter.unusedSimpArgs false
set_option linter.unusedVariables false

theorem SRow.alloc {lo hi K n : Nat} {v : Value} {F : Nat → Int} {W : World} (h : SRow lo hi K v n F W) (o : Obj) : SRow lo hi K v n F (W.alloc o) := h.call ((Below.refl _ _).alloc (Nat.le_refl _) _)
theorem SRow.drew {lo hi K n : Nat} {v : Value} {F : Nat → Int} {W : World} (h : SRow lo hi K v n F W) : SRow lo hi K v n F W.drew := h.call (Below.refl _ _).drew
theorem IRow.allocB {g N : Nat} {F : Nat → Int} {W : World} (h : IRow g N F W) (o : Obj) : IRow g N F (W.alloc o) := h.call ((Below.refl _ _).alloc (Nat.le_refl _) _)
theorem IRow.drewB {g N : Nat} {F : Nat → Int} {W : World} (h : IRow g N F W) : IRow g N F W.drew := h.call (Below.refl _ _).drew
theorem Ko4.put5 {g o : Nat} {a b c d : Int} {W : World} {p : Addr} {u : Value} (hp : g < p.block) (h : Ko4 g o a b c d W) : Ko4 g o a b c d (W.setCell p u) := by
  have e : (W.setCell p u).heap[g]? = W.heap[g]? := Below.heap_setCell _ _ _ _ (by omega)
  exact ⟨by simpa [World.setCell] using h.1, (World.cell?_of_block (w := W) e).trans h.2.1, (World.cell?_of_block (w := W) e).trans h.2.2.1, (World.cell?_of_block (w := W) e).trans h.2.2.2.1, (World.cell?_of_block (w := W) e).trans h.2.2.2.2⟩
def BsCut (w : World) (g5 N b : Nat) (T : Nat → Int) (A B C : Int) (s22 s23 : Value) (wx : World) : Prop :=
  ∃ g0 : Nat, s22 = .pointer (some ⟨g0, 0, none⟩) ∧ s23 = .int .i64 0 ∧ KL g0 A B C wx ∧ Kt b A B C wx ∧ IRow g5 N T wx ∧ Below w.heap.size w wx
theorem at49 {xs : List M4} {i : Nat} (h : i < xs.length) : intAt (cells4 xs) (i * 4) = xs[i].1 ∧ intAt (cells4 xs) (i * 4 + 1) = xs[i].2.1 ∧ intAt (cells4 xs) (i * 4 + 2) = xs[i].2.2.1 ∧ intAt (cells4 xs) (i * 4 + 3) = xs[i].2.2.2 := by
  obtain ⟨h0, h1, h2, h3⟩ := cells4_get xs i h
  exact ⟨by simp [intAt, h0], by simp [intAt, h1], by simp [intAt, h2], by simp [intAt, h3]⟩
def IsRow (k : IntKind) (w : World) (a : Option Addr) (len cap : Nat) (zs : List Int) : Prop :=
  (a = none ∧ len = 0 ∧ cap = 0 ∧ zs = []) ∨
  ∃ x, a = some x ∧ len ≤ cap ∧ cap ≤ maxLen ∧ zs.length = cap ∧ (∀ i, i < zs.length → w.cell? (x.add i) = some (.int k (zs.getD i 0))) ∧ ∀ n ∈ zs, (Lit.int k n).wf = true

theorem rowBts {w : World} {a0 : Option Addr} {len cap : Nat} {zs : List Int} (h : IsRow .u8 w a0 len cap zs) : Bts a0 len w.heap.size w := by
  rcases h with ⟨_, h, _, _⟩ | ⟨x, rfl, h1, h2, h3, h4, h5⟩
  · exact .inl h
  · by_cases h0 : len = 0
    · exact .inl h0
    · obtain ⟨b, off, rfl, hc⟩ := ints_at h4 (by omega)
      refine .inr ⟨b, off, rfl, World.block_lt_of_cell? _ _ (hc 0 (by omega)), fun i hi => ?_⟩
      have hb := bounds_u8 (h5 (zs.getD i 0) (by
        rw [List.getD_eq_getElem?_getD, List.getElem?_eq_getElem (by omega)]
        exact List.getElem_mem _))
      exact ⟨_, hb.1, hb.2, hc i (by omega)⟩

set_option maxRecDepth 100000 in
set_option maxHeartbeats 4000000 in
theorem walkBases (a0 : Option Addr) (len cap : Nat) (zs : List Int) (w : World) (w0 : IsRow .u8 w a0 len cap zs) :
    Calls Try.prog 3 #[.slice a0 len cap] w fun e w' => e = .returned (.bool true) ∧ Below w.heap.size w w' := by
  have B0 : Below w.heap.size w w := Below.refl _ _
  by_cases hbig : 4096 < len
  · have hb1 : (4096 : Int) < (len : Int) := by omega
    have hb2 : len ≤ 9223372036854775807 := by
      rcases w0 with ⟨_, h, _, _⟩ | ⟨x, rfl, h1, h2, h3, h4, h5⟩
      · omega
      · unfold maxLen at h2; omega
    go_enter Try.func3, Try.ntmps3
    go_wp2
    go_ret
    exact ⟨rfl, Below.refl _ _⟩
  have hB := rowBts w0
  have hl : len ≤ 4096 := by omega
  clear w0
  go_enter Try.func3, Try.ntmps3
  go_wp2_with (go_at_call 5; go_in)
  refine (drawRb_any a0 len cap _ (by omega) (hB.grow B0 (by have := B0.size; first | omega | (simp <;> omega)))).mono ?_
  rintro e w1 ⟨f, A, B, C, rfl, hb1⟩
  have B1 : Below w.heap.size w w1 := bstep B0 hb1
  clear hb1 B0 
  go_wp2_with fail
  refine (implRb_any f A B C _).mono ?_
  rintro e w2 ⟨rfl, hb2⟩
  have L2 : Kt (w1.heap.size) A B C w2 := (Kt.at (w1.heap.size) (by simp) : Kt (w1.heap.size) A B C _).call hb2
  have B2 : Below w.heap.size w w2 := bstep (Below.alloc B1 (by have := B1.size; first | omega | (simp <;> omega)) _) hb2
  clear hb2 B1 
  have L2c0 := L2.c0
  have L2c1 := L2.c1
  have L2c2 := L2.c2
  have L2l := L2.1
  have L2n : ¬ w1.heap.size = w2.heap.size := by omega
  go_wp2_with fail
  refine (specRb_any f A B C _).mono ?_
  rintro e w3 ⟨rfl, hb3⟩
  have L3 : Kt (w1.heap.size) A B C w3 := Kt.call ((L2.alloc _).alloc _) hb3
  have U3 : Kg (w2.heap.size) ((rbR f A B C).1.1) ((rbR f A B C).1.2) w3 := ((Kg.at2 (w2.heap.size) (by simp) : Kg (w2.heap.size) ((rbR f A B C).1.1) ((rbR f A B C).1.2) _).alloc _).call hb3
  have V3 : Kg (w2.heap.size + 1) ((rbR f A B C).2.1.1) ((rbR f A B C).2.1.2) w3 := (Kg.at2 (w2.heap.size + 1) (by simp) : Kg (w2.heap.size + 1) ((rbR f A B C).2.1.1) ((rbR f A B C).2.1.2) _).call hb3
  have B3 : Below w.heap.size w w3 := bstep (Below.alloc (Below.alloc B2 (by have := B2.size; first | omega | (simp <;> omega)) _) (by have := B2.size; first | omega | (simp <;> omega)) _) hb3
  clear hb3 B2 L2
  clear L2c0 L2c1 L2c2 L2l L2n
  have L3c0 := L3.c0
  have L3c1 := L3.c1
  have L3c2 := L3.c2
  have L3l := L3.1
  have L3n : ¬ w1.heap.size = w3.heap.size := by omega
  have U3c0 := U3.c0
  have U3c1 := U3.c1
  have U3l := U3.1
  have U3n : ¬ w2.heap.size = w3.heap.size := by omega
  have V3c0 := V3.c0
  have V3c1 := V3.c1
  have V3l := V3.1
  have V3n : ¬ w2.heap.size + 1 = w3.heap.size := by omega
  go_wp2_with fail
  refine (implSv_any f A B C _).mono ?_
  rintro e w4 ⟨v3, rfl, s4, hb4⟩
  have L4 : Kt (w1.heap.size) A B C w4 := Kt.call ((L3.alloc _).alloc _) hb4
  have U4 : Kg (w2.heap.size) ((rbR f A B C).1.1) ((rbR f A B C).1.2) w4 := Kg.call ((U3.alloc _).alloc _) hb4
  have V4 : Kg (w2.heap.size + 1) ((rbR f A B C).2.1.1) ((rbR f A B C).2.1.2) w4 := Kg.call ((V3.alloc _).alloc _) hb4
  have P4 : Kg (w3.heap.size) ((rbR f A B C).1.1) ((rbR f A B C).1.2) w4 := ((Kg.at2 (w3.heap.size) (by simp) : Kg (w3.heap.size) ((rbR f A B C).1.1) ((rbR f A B C).1.2) _).alloc _).call hb4
  have Q4 : Kg (w3.heap.size + 1) ((rbR f A B C).2.1.1) ((rbR f A B C).2.1.2) w4 := (Kg.at2 (w3.heap.size + 1) (by simp) : Kg (w3.heap.size + 1) ((rbR f A B C).2.1.1) ((rbR f A B C).2.1.2) _).call hb4
  have B4 : Below w.heap.size w w4 := bstep (Below.alloc (Below.alloc B3 (by have := B3.size; first | omega | (simp <;> omega)) _) (by have := B3.size; first | omega | (simp <;> omega)) _) hb4
  clear hb4 B3 L3 U3 V3
  clear L3c0 L3c1 L3c2 L3l L3n U3c0 U3c1 U3l U3n V3c0 V3c1 V3l V3n
  have L4c0 := L4.c0
  have L4c1 := L4.c1
  have L4c2 := L4.c2
  have L4l := L4.1
  have L4n : ¬ w1.heap.size = w4.heap.size := by omega
  have U4c0 := U4.c0
  have U4c1 := U4.c1
  have U4l := U4.1
  have U4n : ¬ w2.heap.size = w4.heap.size := by omega
  have V4c0 := V4.c0
  have V4c1 := V4.c1
  have V4l := V4.1
  have V4n : ¬ w2.heap.size + 1 = w4.heap.size := by omega
  have P4c0 := P4.c0
  have P4c1 := P4.c1
  have P4l := P4.1
  have P4n : ¬ w3.heap.size = w4.heap.size := by omega
  have Q4c0 := Q4.c0
  have Q4c1 := Q4.c1
  have Q4l := Q4.1
  have Q4n : ¬ w3.heap.size + 1 = w4.heap.size := by omega
  go_wp2_with fail
  refine (specSv_any f A B C _).mono ?_
  rintro e w5 ⟨v4, rfl, r5, hb5⟩
  have L5 : Kt (w1.heap.size) A B C w5 := Kt.call L4 hb5
  have U5 : Kg (w2.heap.size) ((rbR f A B C).1.1) ((rbR f A B C).1.2) w5 := Kg.call U4 hb5
  have V5 : Kg (w2.heap.size + 1) ((rbR f A B C).2.1.1) ((rbR f A B C).2.1.2) w5 := Kg.call V4 hb5
  have P5 : Kg (w3.heap.size) ((rbR f A B C).1.1) ((rbR f A B C).1.2) w5 := Kg.call P4 hb5
  have Q5 : Kg (w3.heap.size + 1) ((rbR f A B C).2.1.1) ((rbR f A B C).2.1.2) w5 := Kg.call Q4 hb5
  have s5 := SRow.call s4 hb5
  have B5 : Below w.heap.size w w5 := bstep B4 hb5
  clear hb5 B4 L4 U4 V4 P4 Q4 s4
  clear L4c0 L4c1 L4c2 L4l L4n U4c0 U4c1 U4l U4n V4c0 V4c1 V4l V4n P4c0 P4c1 P4l P4n Q4c0 Q4c1 Q4l Q4n
  have L5c0 := L5.c0
  have L5c1 := L5.c1
  have L5c2 := L5.c2
  have L5l := L5.1
  have L5n : ¬ w1.heap.size = w5.heap.size := by omega
  have U5c0 := U5.c0
  have U5c1 := U5.c1
  have U5l := U5.1
  have U5n : ¬ w2.heap.size = w5.heap.size := by omega
  have V5c0 := V5.c0
  have V5c1 := V5.c1
  have V5l := V5.1
  have V5n : ¬ w2.heap.size + 1 = w5.heap.size := by omega
  have P5c0 := P5.c0
  have P5c1 := P5.c1
  have P5l := P5.1
  have P5n : ¬ w3.heap.size = w5.heap.size := by omega
  have Q5c0 := Q5.c0
  have Q5c1 := Q5.c1
  have Q5l := Q5.1
  have Q5n : ¬ w3.heap.size + 1 = w5.heap.size := by omega
  go_wp2_with fail
  refine (implLm_any f A B C _).mono ?_
  rintro e w6 ⟨v5, rfl, m6, hb6⟩
  have L6 : Kt (w1.heap.size) A B C w6 := Kt.call L5 hb6
  have U6 : Kg (w2.heap.size) ((rbR f A B C).1.1) ((rbR f A B C).1.2) w6 := Kg.call U5 hb6
  have V6 : Kg (w2.heap.size + 1) ((rbR f A B C).2.1.1) ((rbR f A B C).2.1.2) w6 := Kg.call V5 hb6
  have P6 : Kg (w3.heap.size) ((rbR f A B C).1.1) ((rbR f A B C).1.2) w6 := Kg.call P5 hb6
  have Q6 : Kg (w3.heap.size + 1) ((rbR f A B C).2.1.1) ((rbR f A B C).2.1.2) w6 := Kg.call Q5 hb6
  have s6 := SRow.call s5 hb6
  have r6 := SRow.call r5 hb6
  have B6 : Below w.heap.size w w6 := bstep B5 hb6
  clear hb6 B5 L5 U5 V5 P5 Q5 s5 r5
  clear L5c0 L5c1 L5c2 L5l L5n U5c0 U5c1 U5l U5n V5c0 V5c1 V5l V5n P5c0 P5c1 P5l P5n Q5c0 Q5c1 Q5l Q5n
  have L6c0 := L6.c0
  have L6c1 := L6.c1
  have L6c2 := L6.c2
  have L6l := L6.1
  have L6n : ¬ w1.heap.size = w6.heap.size := by omega
  have U6c0 := U6.c0
  have U6c1 := U6.c1
  have U6l := U6.1
  have U6n : ¬ w2.heap.size = w6.heap.size := by omega
  have V6c0 := V6.c0
  have V6c1 := V6.c1
  have V6l := V6.1
  have V6n : ¬ w2.heap.size + 1 = w6.heap.size := by omega
  have P6c0 := P6.c0
  have P6c1 := P6.c1
  have P6l := P6.1
  have P6n : ¬ w3.heap.size = w6.heap.size := by omega
  have Q6c0 := Q6.c0
  have Q6c1 := Q6.c1
  have Q6l := Q6.1
  have Q6n : ¬ w3.heap.size + 1 = w6.heap.size := by omega
  go_wp2_with fail
  refine (specLm_any f A B C _).mono ?_
  rintro e w7 ⟨v6, rfl, t7, hb7⟩
  have L7 : Kt (w1.heap.size) A B C w7 := Kt.call L6 hb7
  have U7 : Kg (w2.heap.size) ((rbR f A B C).1.1) ((rbR f A B C).1.2) w7 := Kg.call U6 hb7
  have V7 : Kg (w2.heap.size + 1) ((rbR f A B C).2.1.1) ((rbR f A B C).2.1.2) w7 := Kg.call V6 hb7
  have P7 : Kg (w3.heap.size) ((rbR f A B C).1.1) ((rbR f A B C).1.2) w7 := Kg.call P6 hb7
  have Q7 : Kg (w3.heap.size + 1) ((rbR f A B C).2.1.1) ((rbR f A B C).2.1.2) w7 := Kg.call Q6 hb7
  have s7 := SRow.call s6 hb7
  have r7 := SRow.call r6 hb7
  have m7 := SRow.call m6 hb7
  have B7 : Below w.heap.size w w7 := bstep B6 hb7
  clear hb7 B6 L6 U6 V6 P6 Q6 s6 r6 m6
  clear L6c0 L6c1 L6c2 L6l L6n U6c0 U6c1 U6l U6n V6c0 V6c1 V6l V6n P6c0 P6c1 P6l P6n Q6c0 Q6c1 Q6l Q6n
  have L7c0 := L7.c0
  have L7c1 := L7.c1
  have L7c2 := L7.c2
  have L7l := L7.1
  have L7n : ¬ w1.heap.size = w7.heap.size := by omega
  have U7c0 := U7.c0
  have U7c1 := U7.c1
  have U7l := U7.1
  have U7n : ¬ w2.heap.size = w7.heap.size := by omega
  have V7c0 := V7.c0
  have V7c1 := V7.c1
  have V7l := V7.1
  have V7n : ¬ w2.heap.size + 1 = w7.heap.size := by omega
  have P7c0 := P7.c0
  have P7c1 := P7.c1
  have P7l := P7.1
  have P7n : ¬ w3.heap.size = w7.heap.size := by omega
  have Q7c0 := Q7.c0
  have Q7c1 := Q7.c1
  have Q7l := Q7.1
  have Q7n : ¬ w3.heap.size + 1 = w7.heap.size := by omega
  go_wp2_with fail
  refine (likeVecs9_any s7 r7).mono ?_
  rintro e w8 ⟨rfl, hb8⟩
  have L8 : Kt (w1.heap.size) A B C w8 := Kt.call L7 hb8
  have U8 : Kg (w2.heap.size) ((rbR f A B C).1.1) ((rbR f A B C).1.2) w8 := Kg.call U7 hb8
  have V8 : Kg (w2.heap.size + 1) ((rbR f A B C).2.1.1) ((rbR f A B C).2.1.2) w8 := Kg.call V7 hb8
  have P8 : Kg (w3.heap.size) ((rbR f A B C).1.1) ((rbR f A B C).1.2) w8 := Kg.call P7 hb8
  have Q8 : Kg (w3.heap.size + 1) ((rbR f A B C).2.1.1) ((rbR f A B C).2.1.2) w8 := Kg.call Q7 hb8
  have s8 := SRow.call s7 hb8
  have r8 := SRow.call r7 hb8
  have m8 := SRow.call m7 hb8
  have t8 := SRow.call t7 hb8
  have B8 : Below w.heap.size w w8 := bstep B7 hb8
  clear hb8 B7 L7 U7 V7 P7 Q7 s7 r7 m7 t7
  clear L7c0 L7c1 L7c2 L7l L7n U7c0 U7c1 U7l U7n V7c0 V7c1 V7l V7n P7c0 P7c1 P7l P7n Q7c0 Q7c1 Q7l Q7n
  have L8c0 := L8.c0
  have L8c1 := L8.c1
  have L8c2 := L8.c2
  have L8l := L8.1
  have L8n : ¬ w1.heap.size = w8.heap.size := by omega
  have U8c0 := U8.c0
  have U8c1 := U8.c1
  have U8l := U8.1
  have U8n : ¬ w2.heap.size = w8.heap.size := by omega
  have V8c0 := V8.c0
  have V8c1 := V8.c1
  have V8l := V8.1
  have V8n : ¬ w2.heap.size + 1 = w8.heap.size := by omega
  have P8c0 := P8.c0
  have P8c1 := P8.c1
  have P8l := P8.1
  have P8n : ¬ w3.heap.size = w8.heap.size := by omega
  have Q8c0 := Q8.c0
  have Q8c1 := Q8.c1
  have Q8l := Q8.1
  have Q8n : ¬ w3.heap.size + 1 = w8.heap.size := by omega
  go_wp2_with fail
  refine (likeMats9_any m8 t8).mono ?_
  rintro e w9 ⟨rfl, hb9⟩
  have L9 : Kt (w1.heap.size) A B C w9 := Kt.call L8 hb9
  have U9 : Kg (w2.heap.size) ((rbR f A B C).1.1) ((rbR f A B C).1.2) w9 := Kg.call U8 hb9
  have V9 : Kg (w2.heap.size + 1) ((rbR f A B C).2.1.1) ((rbR f A B C).2.1.2) w9 := Kg.call V8 hb9
  have P9 : Kg (w3.heap.size) ((rbR f A B C).1.1) ((rbR f A B C).1.2) w9 := Kg.call P8 hb9
  have Q9 : Kg (w3.heap.size + 1) ((rbR f A B C).2.1.1) ((rbR f A B C).2.1.2) w9 := Kg.call Q8 hb9
  have s9 := SRow.call s8 hb9
  have r9 := SRow.call r8 hb9
  have m9 := SRow.call m8 hb9
  have t9 := SRow.call t8 hb9
  have B9 : Below w.heap.size w w9 := bstep B8 hb9
  clear hb9 B8 L8 U8 V8 P8 Q8 s8 r8 m8 t8
  clear L8c0 L8c1 L8c2 L8l L8n U8c0 U8c1 U8l U8n V8c0 V8c1 V8l V8n P8c0 P8c1 P8l P8n Q8c0 Q8c1 Q8l Q8n
  clear P9 Q9 t9
  have L9c0 := L9.c0
  have L9c1 := L9.c1
  have L9c2 := L9.c2
  have L9l := L9.1
  have L9n : ¬ w1.heap.size = w9.heap.size := by omega
  have U9c0 := U9.c0
  have U9c1 := U9.c1
  have U9l := U9.1
  have U9n : ¬ w2.heap.size = w9.heap.size := by omega
  have V9c0 := V9.c0
  have V9c1 := V9.c1
  have V9l := V9.1
  have V9n : ¬ w2.heap.size + 1 = w9.heap.size := by omega
  rcases hfl : flB f A B C with _ | _
  · have e1 : (rbR f A B C).2.2 = 1 := by simp [rbR, hfl]
    rw [e1]
    go_wp2
    go_ret
    exact ⟨rfl, B9⟩
  have hfl2 := hfl
  simp only [flB, Bool.and_eq_true] at hfl2
  obtain ⟨hf, hlb⟩ := hfl2
  have hl := latB_iff.1 hlb
  have e1 : rbR f A B C = (rbU f A B C, rbV f A B C (rbU f A B C), 0) := by simp [rbR, hfl]
  have e2 : svL f A B C = shortM f A B C := by simp [svL, hfl]
  have e3 : lmL f A B C = stabL f A B C := by simp [lmL, hfl]
  have HO := Lib.hid (rb_lat hf hl)
  have hms : Hid (∀ (i : Nat) (h : i < (stabL f A B C).length), mapR f (stabL f A B C)[i].1 (stabL f A B C)[i].2.1 (stabL f A B C)[i].2.2.1 (stabL f A B C)[i].2.2.2 A B C = (A, B, C, 0)) := Lib.hid (fun i h => stab_map hf hl (List.getElem_mem h))
  have hne := shortM_ne hf hl
  have hlast := fun m hm => last_at (m := m) hm hne
  rw [← rbU_last hne] at hlast
  rw [e1]
  rw [e1] at U9 V9
  rw [e2] at s9 r9
  rw [e3] at m9
  clear e1 e2 e3 hfl hf hlb hl L9c0 L9c1 L9c2 L9l L9n U9c0 U9c1 U9l U9n V9c0 V9c1 V9l V9n
  generalize rbV f A B C (rbU f A B C) = v at *
  generalize rbU f A B C = u at *
  obtain ⟨ux, uy⟩ := u
  obtain ⟨vx, vy⟩ := v
  simp only at hlast HO U9 V9
  obtain ⟨m0, hm⟩ : ∃ m, (shortM f A B C).length = m + 1 := ⟨(shortM f A B C).length - 1, by have := List.length_pos_iff.2 hne; omega⟩
  have hl2 := hlast m0 hm
  clear hlast hne
  rw [hm] at s9 r9
  generalize hT : intAt (cells2 (shortM f A B C)) = T at *
  clear hT hm
  obtain ⟨_, hm1, hs9⟩ := s9
  obtain ⟨g3, c3, rfl, hlo3, hhi3, RN⟩ := hs9.resolve_left (fun h => by omega)
  obtain ⟨_, _, hr9⟩ := r9
  obtain ⟨g4, c4, rfl, _, _, _⟩ := hr9.resolve_left (fun h => by omega)
  have q9 := RN.ko2 (m0 * 2) (by omega)
  rw [hl2.1, hl2.2] at q9
  clear hs9 hr9 RN hl2 hlo3 hhi3
  have hm2 : ((m0 + 1 : Nat) : Int) = (m0 : Int) + 1 := by omega
  have hw1 : IntKind.i64.wrap ((m0 : Int)) = (m0 : Int) := IntWalk.i64_in _ (by omega)
  have hw2 : IntKind.i64.wrap ((m0 : Int) + 1 - 1) = (m0 : Int) := by rw [show (m0 : Int) + 1 - 1 = m0 by omega]; exact hw1
  have hm3 : (0 : Int) ≤ (m0 : Int) := by omega
  have hm4 : (m0 : Int) < (m0 : Int) + 1 := by omega
  obtain ⟨_, hmm, hm9⟩ := m9
  have L9c0 := L9.c0
  have L9c1 := L9.c1
  have L9c2 := L9.c2
  have L9l := L9.1
  have L9n : ¬ w1.heap.size = w9.heap.size := by omega
  have U9c0 := U9.c0
  have U9c1 := U9.c1
  have U9l := U9.1
  have U9n : ¬ w2.heap.size = w9.heap.size := by omega
  have V9c0 := V9.c0
  have V9c1 := V9.c1
  have V9l := V9.1
  have V9n : ¬ w2.heap.size + 1 = w9.heap.size := by omega
  go_wp2_with fail
  refine (implOf_any ux uy vx vy _).mono ?_
  rintro e w10 ⟨he, hb10⟩
  unfold ofT latT at he
  rw [HO.out] at he
  subst he
  have L10 := L9.call hb10
  have U10 := U9.call hb10
  have q10 := q9.call hb10
  have B10 := bstep B9 hb10
  clear HO U9 V9 L9 q9 B9 L9c0 L9c1 L9c2 L9l L9n U9c0 U9c1 U9l U9n V9c0 V9c1 V9l V9n
  have L10c0 := L10.c0
  have L10c1 := L10.c1
  have L10c2 := L10.c2
  have L10l := L10.1
  have L10n : ¬ w1.heap.size = w10.heap.size := by omega
  have U10c0 := U10.c0
  have U10c1 := U10.c1
  have U10l := U10.1
  have U10n : ¬ w2.heap.size = w10.heap.size := by omega
  obtain ⟨qz, q0, q1⟩ := id q10
  have K10 : Kt w10.heap.size A B C (w10.alloc (.cells #[.int .i64 A, .int .i64 B, .int .i64 C] 25)) := Kt.at _ rfl
  go_wp2_with fail
  go_region_held3 (fun W => (W.cell? ⟨w10.heap.size, 0, none⟩ = some (.int .i64 A) ∧ W.cell? ⟨w10.heap.size, 1, none⟩ = some (.int .i64 B) ∧ W.cell? ⟨w10.heap.size, 2, none⟩ = some (.int .i64 C)) ∧ (W.cell? ⟨w1.heap.size, 0, none⟩ = some (.int .i64 A) ∧ W.cell? ⟨w1.heap.size, 1, none⟩ = some (.int .i64 B) ∧ W.cell? ⟨w1.heap.size, 2, none⟩ = some (.int .i64 C)) ∧ (W.cell? ⟨w2.heap.size, 0, none⟩ = some (.int .i64 ux) ∧ W.cell? ⟨w2.heap.size, 1, none⟩ = some (.int .i64 uy)) ∧ (W.cell? ⟨g3, m0 * 2, none⟩ = some (.int .i64 ux) ∧ W.cell? ⟨g3, m0 * 2 + 1, none⟩ = some (.int .i64 uy))) ((refine ⟨Kt.cells ?_, Kt.cells ?_, Kg.cells ?_, Ko2.cells ?_⟩ <;> repeat (first | with_reducible assumption | with_reducible refine Kt.drew ?_ | with_reducible refine Kt.alloc ?_ _ | with_reducible refine Kg.drew ?_ | with_reducible refine Kg.alloc ?_ _ | with_reducible refine Ko2.drew ?_ | with_reducible refine Ko2.alloc ?_ _))) (fail)
  all_goals
    have L11 : Kt w1.heap.size A B C (w10.alloc (.cells #[.int .i64 A, .int .i64 B, .int .i64 C] 25)).drew := (L10.alloc _).drew
    have B11 : Below w.heap.size w (w10.alloc (.cells #[.int .i64 A, .int .i64 B, .int .i64 C] 25)).drew := (Below.alloc B10 B10.size _).drew
    have z10 := hb10.size
    clear K10 q10 qz q0 q1 U10 hm1 hm2 hw1 hw2 hm3 hm4 L10c0 L10c1 L10c2 L10l L10n U10c0 U10c1 U10l U10n
    rcases hm9 with ⟨hn, ao, c5, rfl⟩ | ⟨g5, c5, rfl, hlo5, hhi5, RM⟩
    · clear hms hmm hn
      go_wp2_with fail
      go_loopw [21] (fun i W => i = .int .i64 ((0 : Nat) : Int) ∧ Below w.heap.size w W) (fun _ _ => 0)
      case atStart => exact ⟨rfl, B11⟩
      case round =>
        obtain ⟨rfl, hB⟩ := hrel
        go_wp2
        go_ret
        exact ⟨rfl, hB⟩
    · have HR := Lib.hid RM
      have HMM := Lib.hid hmm
      skip
      have R11 : IRow g5 ((stabL f A B C).length * 4) (intAt (cells4 (stabL f A B C))) (w10.alloc (.cells #[.int .i64 A, .int .i64 B, .int .i64 C] 25)).drew := ((RM.call hb10).call ((Below.refl _ _).alloc (Nat.le_refl _) _)).call (Below.refl _ _).drew
      have HA := Lib.hid (fun (i : Nat) (h : i < (stabL f A B C).length) => at49 h)
      generalize stabL f A B C = S at *
      clear HR HMM RM
      go_wp2_with fail
      go_loopw [21] (fun i W => ∃ k : Nat, i = .int .i64 (k : Int) ∧ k ≤ S.length ∧ IRow g5 (S.length * 4) (intAt (cells4 S)) W ∧ Kt w1.heap.size A B C W ∧ Below w.heap.size w W) (fun i _ => S.length - (intOf i).toNat)
      case atStart => exact ⟨0, rfl, by omega, R11, L11, B11⟩
      case round =>
        clear R11 L11 B11
        obtain ⟨k, rfl, hk, hR, hL, hB⟩ := hrel
        by_cases hk1 : k < S.length
        · have hk2 : (k : Int) < (S.length : Int) := by omega
          have hmx := hmm
          have hx := HA.out k hk1
          have hy := hms.out k hk1
          have q := hR.ko4 (k * 4) (by omega)
          rw [hx.1, hx.2.1, hx.2.2.1, hx.2.2.2] at q
          generalize S[k].1 = a at *
          generalize S[k].2.1 = b at *
          generalize S[k].2.2.1 = c at *
          generalize S[k].2.2.2 = d at *
          have HY := Lib.hid hy
          clear hx hy
          obtain ⟨q0, q1, q2, q3⟩ := q.cells
          obtain ⟨l0, l1, l2, l3⟩ := id hL
          have zq := q.1
          have zl := hL.1
          have zr := hR.1
          have zB := hB.size
          go_upto_region 1 with fail
          go_cut [22, 23] (fun s22 s23 wx => BsCut w g5 (S.length * 4) w1.heap.size (intAt (cells4 S)) A B C s22 s23 wx)
          case first =>
            go_region_held3 (fun W => (W.cell? ⟨g5, k * 4, none⟩ = some (.int .i64 a) ∧ W.cell? ⟨g5, k * 4 + 1, none⟩ = some (.int .i64 b) ∧ W.cell? ⟨g5, k * 4 + 2, none⟩ = some (.int .i64 c) ∧ W.cell? ⟨g5, k * 4 + 3, none⟩ = some (.int .i64 d)) ∧ (W.cell? ⟨w1.heap.size, 0, none⟩ = some (.int .i64 A) ∧ W.cell? ⟨w1.heap.size, 1, none⟩ = some (.int .i64 B) ∧ W.cell? ⟨w1.heap.size, 2, none⟩ = some (.int .i64 C))) ((refine And.intro (Ko4.cells ?_) (Kt.cells ?_) <;> repeat (first | with_reducible assumption | with_reducible refine Kt.drew ?_ | with_reducible refine Kt.alloc ?_ _ | with_reducible refine Kt.call ?_ (by with_reducible assumption) | with_reducible refine Ko4.drew ?_ | with_reducible refine Ko4.alloc ?_ _ | with_reducible refine Ko4.call ?_ (by with_reducible assumption) | ((with_reducible refine Kt.put ?_ ?_); (first | omega | (dsimp only; omega))) | ((with_reducible refine Ko4.put5 ?_ ?_); (first | omega | (dsimp only; omega))))))
              (first
                | (go_at_call 16; ((with_reducible refine (implMap_any f a b c d A B C _).mono ?_); rintro e w12 ⟨he, hb12⟩; unfold mapT latT at he; rw [HY.out] at he; subst he; have q12 : Ko4 g5 (k * 4) a b c d w12 := (by repeat (first | with_reducible assumption | with_reducible refine Kt.drew ?_ | with_reducible refine Kt.alloc ?_ _ | with_reducible refine Kt.call ?_ (by with_reducible assumption) | with_reducible refine Ko4.drew ?_ | with_reducible refine Ko4.alloc ?_ _ | with_reducible refine Ko4.call ?_ (by with_reducible assumption) | ((with_reducible refine Kt.put ?_ ?_); (first | omega | (dsimp only; omega))) | ((with_reducible refine Ko4.put5 ?_ ?_); (first | omega | (dsimp only; omega))))); have L12 : Kt w1.heap.size A B C w12 := (by repeat (first | with_reducible assumption | with_reducible refine Kt.drew ?_ | with_reducible refine Kt.alloc ?_ _ | with_reducible refine Kt.call ?_ (by with_reducible assumption) | with_reducible refine Ko4.drew ?_ | with_reducible refine Ko4.alloc ?_ _ | with_reducible refine Ko4.call ?_ (by with_reducible assumption) | ((with_reducible refine Kt.put ?_ ?_); (first | omega | (dsimp only; omega))) | ((with_reducible refine Ko4.put5 ?_ ?_); (first | omega | (dsimp only; omega))))); have R12 : IRow g5 (S.length * 4) (intAt (cells4 S)) w12 := (by repeat (first | with_reducible assumption | with_reducible refine IRow.drewB ?_ | with_reducible refine IRow.allocB ?_ _ | with_reducible refine IRow.call ?_ (by with_reducible assumption) | ((with_reducible refine IRow.far2 ?_ ?_); (first | omega | (dsimp only; omega))))); have zq12 := q12.1; have zl12 := L12.1; have zr12 := R12.1; (try ((refine useIt (P := KL wr.heap.size 0 0 0 w12) ?_ ?_); (repeat (first | with_reducible assumption | (with_reducible exact KL.at _ (by first | with_reducible rfl | (simp; done) | fail)) | with_reducible refine KL.drew ?_ | with_reducible refine KL.alloc ?_ _ | with_reducible refine KL.call ?_ (by with_reducible assumption))); intro K12; have K12c0 := K12.c0; have K12c1 := K12.c1; have K12c2 := K12.c2; have K12f0 := K12.f0; have K12f1 := K12.f1; have K12f2 := K12.f2; have K12l := K12.lt)); have B12 : Below w.heap.size w w12 := (by repeat (first | with_reducible assumption | with_reducible exact Below.refl _ _ | with_reducible refine Below.setCell ?_ (by first | omega | (simp <;> omega)) _ | with_reducible refine Below.alloc ?_ (by first | omega | (simp <;> omega)) _ | with_reducible refine bstep ?_ (by with_reducible assumption) | with_reducible refine Below.drew ?_)); have zB12 := B12.size)))
            all_goals
              go_wp2_with fail
              go_meet
              exact ⟨_, rfl, rfl, (by first | (with_reducible exact KL.at _ (by first | with_reducible rfl | (simp; done) | fail)) | (with_reducible exact KL.store (by repeat (first | with_reducible assumption | (with_reducible exact KL.at _ (by first | with_reducible rfl | (simp; done) | fail)) | with_reducible refine KL.drew ?_ | with_reducible refine KL.alloc ?_ _ | with_reducible refine KL.call ?_ (by with_reducible assumption))) _ _ _) | fail), (by repeat (first | with_reducible assumption | with_reducible refine Kt.drew ?_ | with_reducible refine Kt.alloc ?_ _ | with_reducible refine Kt.call ?_ (by with_reducible assumption) | with_reducible refine Ko4.drew ?_ | with_reducible refine Ko4.alloc ?_ _ | with_reducible refine Ko4.call ?_ (by with_reducible assumption) | ((with_reducible refine Kt.put ?_ ?_); (first | omega | (dsimp only; omega))) | ((with_reducible refine Ko4.put5 ?_ ?_); (first | omega | (dsimp only; omega))))), (by repeat (first | with_reducible assumption | with_reducible refine IRow.drewB ?_ | with_reducible refine IRow.allocB ?_ _ | with_reducible refine IRow.call ?_ (by with_reducible assumption) | ((with_reducible refine IRow.far2 ?_ ?_); (first | omega | (dsimp only; omega))))), (by repeat (first | with_reducible assumption | with_reducible exact Below.refl _ _ | with_reducible refine Below.setCell ?_ (by first | omega | (simp <;> omega)) _ | with_reducible refine Below.alloc ?_ (by first | omega | (simp <;> omega)) _ | with_reducible refine bstep ?_ (by with_reducible assumption) | with_reducible refine Below.drew ?_))⟩
          case rest =>
            obtain ⟨g0, rfl, rfl, K13, L13, R13, B13⟩ := hcut
            obtain ⟨l0, l1, l2, l3⟩ := id L13
            obtain ⟨k0, k1, k2, k3, k4, k5, k6⟩ := id K13
            go_wp2
            go_roundw
            case rel => exact ⟨k + 1, by go_num, by omega, R13, L13, B13⟩
            case measure => first | (simp [intOf]; done) | (simp [intOf]; omega)
        · obtain rfl : k = S.length := by omega
          go_wp2
          go_ret
          exact ⟨rfl, hB⟩

end Go.Proofs.Ytapfjmmlogcmkaa
