/-
  The draws of names and signatures, and the walk of the law FnSignatures: it returns true at every code and writes nothing that was there. Conditions: the code's bytes can be read; the program's variable namedGroups holds its seventeen entries.
-/
import Derived.Test.YtjocmfnjfmlgiaaDoorGnm
import Derived.Test.YtjocmfnjfmlgiaaDoorSgc
import Derived.Test.YtjocmfnjfmlgiaaDoorDraw
import Derived.ProofKit
import Derived.OpenShut
namespace Go.Proofs.YtjocmfnjfmlgiaaDoor
open Go.RowKit Go.ChangeShapes Go.WideShapes Go.ChangeAt
set_option linter.unusedSimpArgs false
set_option linter.unusedVariables false

def IsRow (k : IntKind) (w : World) (a : Option Addr) (len cap : Nat) (zs : List Int) : Prop :=
  (a = none ∧ len = 0 ∧ cap = 0 ∧ zs = []) ∨
  ∃ x, a = some x ∧ len ≤ cap ∧ cap ≤ maxLen ∧ zs.length = cap ∧ (∀ i, i < zs.length → w.cell? (x.add i) = some (.int k (zs.getD i 0))) ∧ ∀ n ∈ zs, (Lit.int k n).wf = true
theorem rowBts {w : World} {a0 : Option Addr} {len cap : Nat} {zs : List Int} (h : IsRow .u8 w a0 len cap zs) : Bts a0 len w.heap.size w := by
  rcases h with ⟨_, h, _, _⟩ | ⟨x, rfl, h1, h2, h3, h4, h5⟩
  · exact .inl h
  · by_cases h0 : len = 0
    · exact .inl h0
    · obtain ⟨b, off, rfl, hc⟩ := ints_at h4 (by omega)
      refine .inr ⟨b, off, rfl, World.block_lt_of_cell? _ _ (hc 0 (by omega)), fun i hi => ?_⟩
      have hb := bounds_u8 (h5 (zs.getD i 0) (by
        rw [List.getD_eq_getElem?_getD, List.getElem?_eq_getElem (by omega)]
        exact List.getElem_mem _))
      exact ⟨_, hb.1, hb.2, hc i (by omega)⟩
def StrPost (n : Nat) (p : Nat) (a0 : Option Addr) (len cap : Nat) (w : World) (e : Ending) (w' : World) : Prop :=
  ∃ s : ByteArray, e = .returned (.string s) ∧ s.size ≤ n ∧ Src p a0 len cap w' ∧ Only p w w'
theorem naB_size : ∀ k, k < 17 → (naB k).size ≤ 4
  | 0, _ => by decide +kernel
  | 1, _ => by decide +kernel
  | 2, _ => by decide +kernel
  | 3, _ => by decide +kernel
  | 4, _ => by decide +kernel
  | 5, _ => by decide +kernel
  | 6, _ => by decide +kernel
  | 7, _ => by decide +kernel
  | 8, _ => by decide +kernel
  | 9, _ => by decide +kernel
  | 10, _ => by decide +kernel
  | 11, _ => by decide +kernel
  | 12, _ => by decide +kernel
  | 13, _ => by decide +kernel
  | 14, _ => by decide +kernel
  | 15, _ => by decide +kernel
  | 16, _ => by decide +kernel
  | k + 17, h => absurd h (by omega)
theorem sgB_size : ∀ k, k < 17 → (sgB k).size ≤ 5
  | 0, _ => by decide +kernel
  | 1, _ => by decide +kernel
  | 2, _ => by decide +kernel
  | 3, _ => by decide +kernel
  | 4, _ => by decide +kernel
  | 5, _ => by decide +kernel
  | 6, _ => by decide +kernel
  | 7, _ => by decide +kernel
  | 8, _ => by decide +kernel
  | 9, _ => by decide +kernel
  | 10, _ => by decide +kernel
  | 11, _ => by decide +kernel
  | 12, _ => by decide +kernel
  | 13, _ => by decide +kernel
  | 14, _ => by decide +kernel
  | 15, _ => by decide +kernel
  | 16, _ => by decide +kernel
  | k + 17, h => absurd h (by omega)
theorem row4S (W : World) (T : TypeId) (k : Nat) (hk : k < 4) : ∃ s : ByteArray, (W.alloc (.cells #[.string ⟨#[]⟩, .string ⟨#[112, 53]⟩, .string ⟨#[80, 52]⟩, .string ⟨#[112, 52, 32]⟩] T)).cell? ⟨W.heap.size, k, none⟩ = some (.string s) ∧ s.size ≤ 4 := by
  have hB : Bx W.heap.size [.string ⟨#[]⟩, .string ⟨#[112, 53]⟩, .string ⟨#[80, 52]⟩, .string ⟨#[112, 52, 32]⟩] (W.alloc (.cells #[.string ⟨#[]⟩, .string ⟨#[112, 53]⟩, .string ⟨#[80, 52]⟩, .string ⟨#[112, 52, 32]⟩] T)) := Bx.at (us := [.string ⟨#[]⟩, .string ⟨#[112, 53]⟩, .string ⟨#[80, 52]⟩, .string ⟨#[112, 52, 32]⟩]) _ rfl
  match k, hk with
  | 0, _ => exact ⟨_, hB.cel 0 _ rfl, by decide +kernel⟩
  | 1, _ => exact ⟨_, hB.cel 1 _ rfl, by decide +kernel⟩
  | 2, _ => exact ⟨_, hB.cel 2 _ rfl, by decide +kernel⟩
  | 3, _ => exact ⟨_, hB.cel 3 _ rfl, by decide +kernel⟩
  | k + 4, h => omega
theorem row7S (W : World) (T : TypeId) (k : Nat) (hk : k < 7) : ∃ s : ByteArray, (W.alloc (.cells #[.string ⟨#[111]⟩, .string ⟨#[42]⟩, .string ⟨#[120]⟩, .string ⟨#[50]⟩, .string ⟨#[51]⟩, .string ⟨#[52]⟩, .string ⟨#[54]⟩] T)).cell? ⟨W.heap.size, k, none⟩ = some (.string s) ∧ s.size ≤ 1 := by
  have hB : Bx W.heap.size [.string ⟨#[111]⟩, .string ⟨#[42]⟩, .string ⟨#[120]⟩, .string ⟨#[50]⟩, .string ⟨#[51]⟩, .string ⟨#[52]⟩, .string ⟨#[54]⟩] (W.alloc (.cells #[.string ⟨#[111]⟩, .string ⟨#[42]⟩, .string ⟨#[120]⟩, .string ⟨#[50]⟩, .string ⟨#[51]⟩, .string ⟨#[52]⟩, .string ⟨#[54]⟩] T)) := Bx.at (us := [.string ⟨#[111]⟩, .string ⟨#[42]⟩, .string ⟨#[120]⟩, .string ⟨#[50]⟩, .string ⟨#[51]⟩, .string ⟨#[52]⟩, .string ⟨#[54]⟩]) _ rfl
  match k, hk with
  | 0, _ => exact ⟨_, hB.cel 0 _ rfl, by decide +kernel⟩
  | 1, _ => exact ⟨_, hB.cel 1 _ rfl, by decide +kernel⟩
  | 2, _ => exact ⟨_, hB.cel 2 _ rfl, by decide +kernel⟩
  | 3, _ => exact ⟨_, hB.cel 3 _ rfl, by decide +kernel⟩
  | 4, _ => exact ⟨_, hB.cel 4 _ rfl, by decide +kernel⟩
  | 5, _ => exact ⟨_, hB.cel 5 _ rfl, by decide +kernel⟩
  | 6, _ => exact ⟨_, hB.cel 6 _ rfl, by decide +kernel⟩
  | k + 7, h => omega
set_option maxRecDepth 100000 in
set_option maxHeartbeats 8000000 in
theorem l12Draw_any (p : Nat) (a0 : Option Addr) (len cap : Nat) (w : World) (h : Src p a0 len cap w) :
    Calls Tryd.prog 35 #[.pointer (some ⟨p, 0, none⟩)] w (StrPost 4 p a0 len cap w) := by
  go_enter Tryd.func35, Tryd.ntmps35
  go_wp2_with fail
  refine (next_any _ p a0 len cap _ h).mono ?_
  rintro e w1 ⟨x, rfl, x0, x1, S1, O1⟩
  have x2 : x < 24 := x1 (by omega)
  clear x1
  have hp := S1.lt
  rcases hx : x == 0 with _ | _
  · go_wp2_with fail
    with_reducible refine (specGN_any _).mono ?_
    rintro z2 w2 ⟨rfl, X2, hb2⟩
    have S2 := S1.call hb2
    have O2 := O1.then hb2
    clear S1 O1
    go_wp2_with fail
    refine (next_any _ p a0 len cap _ S2).mono ?_
    rintro e w3 ⟨y, rfl, y0, y1, S3, O3⟩
    have y2 : y < 17 := y1 (by omega)
    clear y1
    obtain ⟨k, rfl⟩ := Int.eq_ofNat_of_zero_le y0
    have hk : k < 17 := by omega
    have c3 : w3.cell? ⟨w1.heap.size, k, none⟩ = some (.string (naB k)) := by
      rw [O3.cell (q := ⟨w1.heap.size, k, none⟩) X2.lt (by show w1.heap.size ≠ p; omega)]
      exact X2.str hk
    have O4 := O2.trans O3
    clear X2 O2 O3 S2 hb2
    go_wp2
    go_ret
    exact ⟨_, rfl, naB_size k hk, S3, O4⟩
  · have S1a := S1.alloc (.cells #[.string ⟨#[]⟩, .string ⟨#[112, 53]⟩, .string ⟨#[80, 52]⟩, .string ⟨#[112, 52, 32]⟩] 9)
    have O1a := O1.alloc (.cells #[.string ⟨#[]⟩, .string ⟨#[112, 53]⟩, .string ⟨#[80, 52]⟩, .string ⟨#[112, 52, 32]⟩] 9)
    go_wp2_with fail
    refine (next_any _ p a0 len cap _ S1a).mono ?_
    rintro e w3 ⟨y, rfl, y0, y1, S3, O3⟩
    have y2 : y < 4 := y1 (by omega)
    clear y1
    obtain ⟨k, rfl⟩ := Int.eq_ofNat_of_zero_le y0
    obtain ⟨s, hc, hsz⟩ := row4S w1 9 k (by omega)
    have c3 : w3.cell? ⟨w1.heap.size, k, none⟩ = some (.string s) := by
      rw [O3.cell (q := ⟨w1.heap.size, k, none⟩) (by simp) (by show w1.heap.size ≠ p; omega)]
      exact hc
    have O4 := O1a.trans O3
    clear O1a O3 S1a hc
    go_wp2
    go_ret
    exact ⟨s, rfl, hsz, S3, O4⟩
set_option maxRecDepth 100000 in
set_option maxHeartbeats 8000000 in
theorem drS_any (a0 : Option Addr) (len cap : Nat) (w : World) (hl : len ≤ 140737488355328) (hB : Bts a0 len w.heap.size w) :
    Calls Tryd.prog 24 #[.slice a0 len cap] w fun e w' => ∃ s : ByteArray, e = .returned (.string s) ∧ s.size ≤ 4 ∧ Below w.heap.size w w' := by
  go_enter Tryd.func24, Tryd.ntmps24
  go_wp2_with fail
  refine (from_any a0 len cap _ hl hB).mono ?_
  rintro e w1 ⟨rfl, S1, B1⟩
  go_wp2_with fail
  refine (l12Draw_any _ a0 len cap _ S1).mono ?_
  rintro e w2 ⟨s, rfl, hsz, S2, O2⟩
  have B2 := B1.trans (O2.below (Nat.le_refl _) B1.size)
  clear S1 O2 S2
  go_wp2
  go_ret
  exact ⟨s, rfl, hsz, B2⟩
set_option maxRecDepth 100000 in
set_option maxHeartbeats 8000000 in
theorem drC_any (a0 : Option Addr) (len cap : Nat) (w : World) (hl : len ≤ 140737488355328) (hB : Bts a0 len w.heap.size w) :
    Calls Tryd.prog 25 #[.slice a0 len cap] w fun e w' => ∃ s : ByteArray, e = .returned (.string s) ∧ s.size ≤ 21 ∧ Below w.heap.size w w' := by
  go_enter Tryd.func25, Tryd.ntmps25
  go_wp2_with fail
  refine (from_any a0 len cap _ hl hB).mono ?_
  rintro e w1 ⟨rfl, S1, B1⟩
  have HB := Lib.hid (fun (X : World) (hX : Only w.heap.size w1 X) => B1.trans (hX.below (Nat.le_refl _) B1.size))
  clear B1
  go_wp2_with fail
  refine (next_any _ w.heap.size a0 len cap _ S1).mono ?_
  rintro e w2 ⟨x, rfl, x0, x1, S2, O2⟩
  clear x1 S1
  have hp2 := S2.lt
  rcases hx : x == 0 with _ | _
  · go_wp2_with fail
    refine (next_any _ w.heap.size a0 len cap _ S2).mono ?_
    rintro e w3 ⟨n, rfl, n0, n1, S3, O3⟩
    have n2 : n < 8 := n1 (by omega)
    have O3' := O2.trans O3
    clear n1 S2 O2 O3
    go_wp2_with fail
    go_loopw [4, 5] (fun s4 s5 W => ∃ (a : ByteArray) (m : Nat), s4 = .string a ∧ s5 = .int .i64 (m : Int) ∧ a.size + m ≤ 7 ∧ Src w.heap.size a0 len cap W ∧ Only w.heap.size w1 W) (fun _ s5 _ => (intOf s5).toNat)
    case atStart =>
      obtain ⟨m, rfl⟩ := Int.eq_ofNat_of_zero_le n0
      exact ⟨⟨#[]⟩, m, rfl, rfl, by show 0 + m ≤ 7; omega, S3, O3'⟩
    case round =>
      obtain ⟨a, m, rfl, rfl, hsz, S, O⟩ := hrel
      clear S3 O3' n0 n2
      have hz2 : a.size ≤ 7 := by omega
      have hpl := S.lt
      by_cases hm : 0 < m
      · have hm1 : (0 : Int) < (m : Int) := by omega
        have hm2 : (m : Int) ≤ 7 := by omega
        have Sa := S.alloc (.cells #[.string ⟨#[111]⟩, .string ⟨#[42]⟩, .string ⟨#[120]⟩, .string ⟨#[50]⟩, .string ⟨#[51]⟩, .string ⟨#[52]⟩, .string ⟨#[54]⟩] 9)
        have Oa := O.alloc (.cells #[.string ⟨#[111]⟩, .string ⟨#[42]⟩, .string ⟨#[120]⟩, .string ⟨#[50]⟩, .string ⟨#[51]⟩, .string ⟨#[52]⟩, .string ⟨#[54]⟩] 9)
        go_wp2_with fail
        refine (next_any _ w.heap.size a0 len cap _ Sa).mono ?_
        rintro e w5 ⟨y, rfl, y0, y1, S5, O5⟩
        have y2 : y < 7 := y1 (by omega)
        clear y1
        obtain ⟨k, rfl⟩ := Int.eq_ofNat_of_zero_le y0
        obtain ⟨s, hc, hs1⟩ := row7S wr 9 k (by omega)
        have c5 : w5.cell? ⟨wr.heap.size, k, none⟩ = some (.string s) := by
          rw [O5.cell (q := ⟨wr.heap.size, k, none⟩) (by simp) (by show wr.heap.size ≠ w.heap.size; omega)]
          exact hc
        have O6 := Oa.trans O5
        clear Sa Oa O5 hc S O
        go_wp2
        go_roundw
        case rel => exact ⟨a ++ s, m - 1, rfl, by go_num, by rw [ByteArray.size_append]; omega, S5, O6⟩
        case measure => first | (simp [intOf]; done) | (simp [intOf]; omega)
      · obtain rfl : m = 0 := by omega
        go_wp2_with fail
        refine (next_any _ w.heap.size a0 len cap _ S).mono ?_
        rintro e w5 ⟨y, rfl, y0, y1, S5, O5⟩
        have O6 := O.trans O5
        clear y1 S O O5
        have hz53 : (⟨#[53]⟩ : ByteArray).size = 1 := rfl
        by_cases hy0 : y = 0
        · subst hy0
          go_wp2
          go_ret
          exact ⟨_, rfl, by rw [ByteArray.size_append, hz53]; omega, HB.out _ O6⟩
        have by0 : (y == 0) = false := by simpa using hy0
        by_cases hy1 : y = 1
        · subst hy1
          go_wp2_with fail
          go_loopw [4] (fun s4 W => ∃ (a : ByteArray), s4 = .string a ∧ a.size ≤ 20 ∧ W = w5) (fun s4 _ => 20 - (match s4 with | .string a => a.size | _ => 0))
          case atStart => exact ⟨a, rfl, by omega, rfl⟩
          case round =>
            obtain ⟨a9, rfl, hsz9, rfl⟩ := hrel
            have hz50 : (⟨#[50]⟩ : ByteArray).size = 1 := rfl
            by_cases h20 : a9.size < 20
            · have h21 : (a9.size : Int) < 20 := by omega
              go_wp2
              go_roundw
              case rel => exact ⟨_, rfl, by rw [ByteArray.size_append, hz50]; omega, trivial⟩
              case measure => (try simp only [ByteArray.size_append, hz50]); omega
            · have h21 : ¬ (a9.size : Int) < 20 := by omega
              go_wp2_with fail
              refine (next_any _ w.heap.size a0 len cap _ S5).mono ?_
              rintro e w7 ⟨z, rfl, zz0, zz1, S7, O7⟩
              have z2 : z < 2 := zz1 (by omega)
              have O8 := O6.trans O7
              clear zz1 S5 O7 O6 S7
              have hzz : z = 0 ∨ z = 1 := by omega
              rcases hzz with rfl | rfl
              · go_wp2
                go_ret
                exact ⟨_, rfl, by omega, HB.out _ O8⟩
              · go_wp2
                go_ret
                refine ⟨_, rfl, ?_, HB.out _ O8⟩
                rw [ByteArray.size_append]
                exact Nat.le_trans (Nat.add_le_add hsz9 (show _ ≤ 1 by decide +kernel)) (by omega)
        · have by1 : (y == 1) = false := by simpa using hy1
          go_wp2
          go_ret
          exact ⟨_, rfl, by omega, HB.out _ O6⟩
  · go_wp2_with fail
    with_reducible refine (specSgs_any _).mono ?_
    rintro z3 w3 ⟨rfl, X3, hb3⟩
    have S3 := S2.call hb3
    have O3 := O2.then hb3
    clear S2 O2
    go_wp2_with fail
    refine (next_any _ w.heap.size a0 len cap _ S3).mono ?_
    rintro e w4 ⟨y, rfl, y0, y1, S4, O4⟩
    have y2 : y < 17 := y1 (by omega)
    clear y1
    obtain ⟨k, rfl⟩ := Int.eq_ofNat_of_zero_le y0
    have hk : k < 17 := by omega
    have c4 : w4.cell? ⟨w2.heap.size, k, none⟩ = some (.string (sgB k)) := by
      rw [O4.cell (q := ⟨w2.heap.size, k, none⟩) X3.lt (by show w2.heap.size ≠ w.heap.size; omega)]
      exact X3.str hk
    have O5 := O3.trans O4
    clear X3 O3 O4 S3 hb3
    go_wp2
    go_ret
    exact ⟨_, rfl, Nat.le_trans (sgB_size k hk) (by omega), HB.out _ O5⟩
set_option maxRecDepth 100000 in
set_option maxHeartbeats 8000000 in
theorem lkTx_any (nm : Nat → ByteArray) (g g' c c' : Nat) (w : World) (h1 : Bx g (strL nm 17) w) (h2 : Bx g' (strL nm 17) w) :
    Calls Tryd.prog 28 #[.slice (some ⟨g, 0, none⟩) 17 c, .slice (some ⟨g', 0, none⟩) 17 c'] w fun z w' => z = .returned (.bool true) ∧ Below w.heap.size w w' := by
  have H1 := Lib.hid h1
  have H2 := Lib.hid h2
  clear h1 h2
  go_enter Tryd.func28, Tryd.ntmps28
  go_wp2_with fail
  go_loopw [5] (fun i W => ∃ k : Nat, i = .int .i64 (k : Int) ∧ k ≤ 17 ∧ Below w.heap.size w W) (fun i _ => 17 - (intOf i).toNat)
  case atStart => exact ⟨0, rfl, by omega, Below.refl _ _⟩
  case round =>
    obtain ⟨k, rfl, hk, hB⟩ := hrel
    by_cases hk1 : k < 17
    · have hk2 : (k : Int) < 17 := by omega
      have x1 := (H1.out.grow hB H1.out.lt).str hk1
      have x2 := (H2.out.grow hB H2.out.lt).str hk1
      generalize nm k = a at x1 x2
      have he : (a.toList == a.toList) = true := by simp
      have he2 : (a.toList != a.toList) = false := by simp
      go_wp2_with fail
      go_quiet (fail)
      go_wp2
      go_roundw
      case rel => exact ⟨k + 1, by go_num, by omega, below_drewS hB _⟩
      case measure => first | (simp [intOf]; done) | (simp [intOf]; omega)
    · obtain rfl : k = 17 := by omega
      go_wp2
      go_ret
      exact ⟨rfl, hB⟩
theorem cost48 : ∀ k, k < 17 → scR (sgB k).data.toList = (48, 0)
  | 0, _ => by decide +kernel
  | 1, _ => by decide +kernel
  | 2, _ => by decide +kernel
  | 3, _ => by decide +kernel
  | 4, _ => by decide +kernel
  | 5, _ => by decide +kernel
  | 6, _ => by decide +kernel
  | 7, _ => by decide +kernel
  | 8, _ => by decide +kernel
  | 9, _ => by decide +kernel
  | 10, _ => by decide +kernel
  | 11, _ => by decide +kernel
  | 12, _ => by decide +kernel
  | 13, _ => by decide +kernel
  | 14, _ => by decide +kernel
  | 15, _ => by decide +kernel
  | 16, _ => by decide +kernel
  | k + 17, h => absurd h (by omega)
theorem back17 : ∀ k, k < 17 → ixF sgB (sgB k) = some k
  | 0, _ => by decide +kernel
  | 1, _ => by decide +kernel
  | 2, _ => by decide +kernel
  | 3, _ => by decide +kernel
  | 4, _ => by decide +kernel
  | 5, _ => by decide +kernel
  | 6, _ => by decide +kernel
  | 7, _ => by decide +kernel
  | 8, _ => by decide +kernel
  | 9, _ => by decide +kernel
  | 10, _ => by decide +kernel
  | 11, _ => by decide +kernel
  | 12, _ => by decide +kernel
  | 13, _ => by decide +kernel
  | 14, _ => by decide +kernel
  | 15, _ => by decide +kernel
  | 16, _ => by decide +kernel
  | k + 17, h => absurd h (by omega)
theorem Bts.up {a0 : Option Addr} {len p p' : Nat} {W : World} (h : Bts a0 len p W) (hp : p ≤ p') : Bts a0 len p' W := by
  rcases h with h | ⟨b, off, e, hlt, hc⟩
  · exact .inl h
  · exact .inr ⟨b, off, e, by omega, hc⟩
set_option maxRecDepth 100000 in
set_option maxHeartbeats 16000000 in
theorem walkSig (a0 : Option Addr) (len cap : Nat) (zs : List Int) (w : World) (w0 : IsRow .u8 w a0 len cap zs) (hN : NamesOK w) :
    Calls Tryd.prog 8 #[.slice a0 len cap] w fun e w' => e = .returned (.bool true) ∧ Below w.heap.size w w' := by
  by_cases hbig : 4096 < len
  · have hb1 : (4096 : Int) < (len : Int) := by omega
    have hb2 : len ≤ 9223372036854775807 := by
      rcases w0 with ⟨_, h, _, _⟩ | ⟨x, rfl, h1, h2, h3, h4, h5⟩
      · omega
      · unfold maxLen at h2; omega
    go_enter Tryd.func8, Tryd.ntmps8
    go_wp2
    go_ret
    exact ⟨rfl, Below.refl _ _⟩
  have HB := Lib.hid (rowBts w0)
  have hl : len ≤ 4096 := by omega
  have HN := Lib.hid hN
  clear w0 hN hbig
  go_enter Tryd.func8, Tryd.ntmps8
  go_wp2_with (go_at_call 23; go_in)
  refine (drS_any a0 len cap _ (by omega) HB.out).mono ?_
  rintro e w1 ⟨s, rfl, hsz, B1⟩
  obtain ⟨a, c, hS⟩ : ∃ a c, sgT s = .tuple #[.string a, .int .i64 c] := by
    unfold sgT
    split
    · exact ⟨_, _, rfl⟩
    · exact ⟨_, _, rfl⟩
  obtain ⟨d, c2, hP⟩ : ∃ a c, poT s = .tuple #[.int .i64 a, .int .i64 c] := by
    unfold poT
    split
    · exact ⟨_, _, rfl⟩
    · exact ⟨_, _, rfl⟩
  have hS2 : (c = 4 ∧ True) ∨ ∃ k, k < 17 ∧ a = sgB k ∧ c = 0 ∧ ((naB k).toList == s.toList) = true := by
    unfold sgT at hS
    rcases hi : ixF naB s with _ | k
    · rw [hi] at hS
      simp only [Value.tuple.injEq, Array.mk.injEq, List.cons.injEq, Value.int.injEq, Value.string.injEq, true_and, and_true] at hS
      exact .inl ⟨hS.2.symm, trivial⟩
    · rw [hi] at hS
      simp only [Value.tuple.injEq, Array.mk.injEq, List.cons.injEq, Value.int.injEq, Value.string.injEq, true_and, and_true] at hS
      have h9 := List.find?_some hi
      exact .inr ⟨k, ixF_lt hi, hS.1.symm, hS.2.symm, h9⟩
  have HS := Lib.hid hS
  have HP := Lib.hid hP
  have HS2 := Lib.hid hS2
  clear hS hP hS2
  go_wp2_with fail
  with_reducible refine (implSg_any s _ (HN.out.call B1)).mono ?_
  rintro z2 w2 ⟨rfl, hb2⟩
  rw [HS.out]
  have B2 := bstep B1 hb2
  clear B1 hb2
  go_wp2_with fail
  with_reducible refine (specSg_any s _).mono ?_
  rintro z3 w3 ⟨rfl, hb3⟩
  rw [HS.out]
  have B3 := bstep B2 hb3
  clear B2 hb3
  go_wp2_with fail
  refine (drC_any a0 len cap _ (by omega) ((HB.out.call B3 (Nat.le_refl _)).up B3.size)).mono ?_
  rintro e w4 ⟨t, rfl, htz, hb4⟩
  have B4 := bstep B3 hb4
  clear B3 hb4
  obtain ⟨c0, c1, hR⟩ : ∃ a b, scR t.data.toList = (a, b) := ⟨_, _, rfl⟩
  obtain ⟨u, c3, hQ⟩ : ∃ a c, nsT t = .tuple #[.string a, .int .i64 c] := by
    unfold nsT
    split
    · exact ⟨_, _, rfl⟩
    · exact ⟨_, _, rfl⟩
  have HQ := Lib.hid hQ
  have CI := Lib.hid (fun W => (show Calls Tryd.prog 26 #[.string t] W fun z w' => z = .returned (.tuple #[.int .i64 c0, .int .i64 c1]) ∧ Below W.heap.size W w' from by have := implSc_any t W (by omega); rw [hR] at this; exact this))
  have CS := Lib.hid (fun W => (show Calls Tryd.prog 27 #[.string t] W fun z w' => z = .returned (.tuple #[.int .i64 c0, .int .i64 c1]) ∧ Below W.heap.size W w' from by have := specSc_any t W (by omega); rw [hR] at this; exact this))
  clear hR hQ
  go_wp2_with fail
  refine (CI.out _).mono ?_
  rintro z5 w5 ⟨rfl, hb5⟩
  have B5 := bstep B4 hb5
  clear B4 hb5
  go_wp2_with fail
  refine (CS.out _).mono ?_
  rintro z6 w6 ⟨rfl, hb6⟩
  have B6 := bstep B5 hb6
  clear B5 hb6
  go_wp2_with fail
  with_reducible refine (implNs_any t _ (HN.out.call B6)).mono ?_
  rintro z7 w7 ⟨rfl, hb7⟩
  rw [HQ.out]
  have B7 := bstep B6 hb7
  clear B6 hb7
  go_wp2_with fail
  with_reducible refine (specNs_any t _).mono ?_
  rintro z8 w8 ⟨rfl, hb8⟩
  rw [HQ.out]
  have B8 := bstep B7 hb8
  clear B7 hb8
  go_wp2_with fail
  with_reducible refine (implPo_any s _ (HN.out.call B8)).mono ?_
  rintro z9 w9 ⟨rfl, hb9⟩
  rw [HP.out]
  have B9 := bstep B8 hb9
  clear B8 hb9
  go_wp2_with fail
  with_reducible refine (specPo_any s _).mono ?_
  rintro z10 w10 ⟨rfl, hb10⟩
  rw [HP.out]
  have B10 := bstep B9 hb10
  clear B9 hb10
  have n1 : (c != c) = false := by simp
  have n2 : (a.toList != a.toList) = false := by simp
  have n3 : (c1 != c1) = false := by simp
  have n4 : (c0 != c0) = false := by simp
  have n5 : (c3 != c3) = false := by simp
  have n6 : (u.toList != u.toList) = false := by simp
  have n7 : (c2 != c2) = false := by simp
  have n8 : (d != d) = false := by simp
  go_wp2_with fail
  with_reducible refine (implGN_any _ (HN.out.call B10)).mono ?_
  rintro z11 w11 ⟨v11, rfl, o11, hb11⟩
  obtain ⟨g1, k1, rfl, hg1, Y1⟩ := own_BX o11 (by omega)
  have B11 := bstep B10 hb11
  clear o11 B10 hb11
  go_wp2_with fail
  with_reducible refine (specGN_any _).mono ?_
  rintro z12 w12 ⟨rfl, X2, hb12⟩
  have Y2 := Y1.bx.call hb12
  have B12 := bstep B11 hb12
  clear Y1 B11 hb12
  go_wp2_with fail
  with_reducible refine (lkTx_any naB g1 _ k1 17 _ Y2 X2).mono ?_
  rintro z13 w13 ⟨rfl, hb13⟩
  have B13 := bstep B12 hb13
  clear Y2 X2 B12 hb13
  rcases HS2.out with ⟨h4, _⟩ | ⟨k, hk, rfl, rfl, hq⟩
  · subst h4
    go_wp2
    go_ret
    exact ⟨rfl, B13⟩
  · have HQ2 := Lib.hid (show nsT (sgB k) = .tuple #[.string (naB k), .int .i64 0] by unfold nsT; rw [back17 k hk])
    have C2 := Lib.hid (fun W => (show Calls Tryd.prog 26 #[.string (sgB k)] W fun z w' => z = .returned (.tuple #[.int .i64 48, .int .i64 0]) ∧ Below W.heap.size W w' from by have := implSc_any (sgB k) W (Nat.le_trans (sgB_size k hk) (by omega)); rw [cost48 k hk] at this; exact this))
    have HK := Lib.hid hk
    clear hk HS HS2
    generalize sgB k = gk at *
    go_wp2_with fail
    refine (C2.out _).mono ?_
    rintro z14 w14 ⟨rfl, hb14⟩
    have B14 := bstep B13 hb14
    clear B13 hb14
    go_wp2_with fail
    with_reducible refine (implNs_any gk _ (HN.out.call B14)).mono ?_
    rintro z15 w15 ⟨rfl, hb15⟩
    rw [HQ2.out]
    have B15 := bstep B14 hb15
    clear B14 hb15
    go_wp2
    go_ret
    exact ⟨rfl, B15⟩
end Go.Proofs.YtjocmfnjfmlgiaaDoor
