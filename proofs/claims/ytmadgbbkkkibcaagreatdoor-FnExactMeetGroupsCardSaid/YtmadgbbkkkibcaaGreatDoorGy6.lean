/-
  Several of my texts in one: Mc6, Cg6.
-/
import Derived.Test.YtmadgbbkkkibcaaGreatDoorGz6
import Derived.Deep.RegionHeld3
import Derived.IntWalk
namespace Go.Proofs.YtmadgbbkkkibcaaGreatDoor
section
open Go.RowKit
set_option linter.unusedSimpArgs false
set_option linter.unusedVariables false

def NextCutS (w : World) (A B C : Int) (gq cq go co : Nat) (Q O : List M6) (m : M6) (s : Value) (wx : World) : Prop :=
  ∃ gn : Nat, s = .pointer (some ⟨gn, 0, none⟩) ∧ KM gn m.1 m.2.1 m.2.2.1 m.2.2.2.1 m.2.2.2.2.1 m.2.2.2.2.2 wx ∧ Kt w.heap.size A B C wx ∧ KOw gq (w.heap.size + 1) cq 36 Q wx ∧ KOw go (w.heap.size + 1) co 36 O wx ∧ Below w.heap.size w wx
def ClosS (A B C : Int) (R : List M6) (w : World) (e : Ending) (w' : World) : Prop :=
  ∃ (g cap : Nat) (O : List M6), e = .returned (.slice (some ⟨g, 0, none⟩) O.length cap) ∧ IsClos A B C R O ∧ KOw g w.heap.size cap 36 O w' ∧ Below w.heap.size w w'
theorem KOw.one {W : World} {base g : Nat} {T : TypeId} (m : M6) (hg : g = W.heap.size) (hb : base ≤ W.heap.size) : KOw g base 1 T [m] (W.alloc (.cells #[.int .i64 m.1, .int .i64 m.2.1, .int .i64 m.2.2.1, .int .i64 m.2.2.2.1, .int .i64 m.2.2.2.2.1, .int .i64 m.2.2.2.2.2] T)) := by
  subst hg
  have h := World.ownsRow_lit (base := base) (e := T) (size := 6) W #[.int .i64 m.1, .int .i64 m.2.1, .int .i64 m.2.2.1, .int .i64 m.2.2.2.1, .int .i64 m.2.2.2.2.1, .int .i64 m.2.2.2.2.2] 1 hb (by unfold maxLen; omega) rfl
  exact h
theorem KOw.lower {g base base' cap : Nat} {T : TypeId} {Q : List M6} {W : World} (h : KOw g base cap T Q W) (hb : base' ≤ base) : KOw g base' cap T Q W := ownsRow_lower h hb
theorem kow_lt {g base cap : Nat} {T : TypeId} {Q : List M6} {W : World} (h : KOw g base cap T Q W) : g < W.heap.size := (KOw.lt h).2
theorem up_one (m : M6) : Up [m] := List.pairwise_singleton _ _
set_option maxRecDepth 100000 in
set_option maxHeartbeats 16000000 in
theorem l06Close_any {lo hi : Nat} {v : Value} {R : List M6} {w : World} (f A B C : Int) (hf : frB f = true) (hl : latI A B C) (hR : GoodR f A B C R) (h : SRow lo hi 6 v R.length (fm R) w) (hn : R.length ≤ 1048576) :
    Calls Tryz.prog 99 #[.agg #[.int .i64 A, .int .i64 B, .int .i64 C], v] w (ClosS A B C R w) := by
  obtain ⟨i0, hinf, hz0, hz1, hz2⟩ := info_parts infoMo6
  have L0 : Kt w.heap.size A B C (w.alloc (.cells #[.int .i64 A, .int .i64 B, .int .i64 C] 25)) := Kt.at _ rfl
  have B0 : Below w.heap.size w (w.alloc (.cells #[.int .i64 A, .int .i64 B, .int .i64 C] 25)) := (Below.refl _ _).alloc (Nat.le_refl _) _
  have HR := Lib.hid hR
  have HN := Lib.hid hn
  have HF := Lib.hid hf
  have HL := Lib.hid hl
  have HA := Lib.hid h
  clear hR hn hf hl h
  go_enter Tryz.func99, Tryz.ntmps99
  go_wp2_with fail
  refine (l06Unit_any _).mono ?_
  rintro e w1 ⟨rfl, hb1⟩
  have L1 := L0.call hb1
  have B1 := bstep B0 hb1
  have z1 := kt_lt L1
  have O1 : KOw w1.heap.size (w.heap.size + 1) 1 36 [oneM] (w1.alloc (.cells #[.int .i64 1, .int .i64 0, .int .i64 0, .int .i64 1, .int .i64 0, .int .i64 0] 36)) := KOw.one oneM rfl (by omega)
  clear hb1 L0 B0
  go_wp2_with fail
  refine (l06Unit_any _).mono ?_
  rintro e w2 ⟨rfl, hb2⟩
  have L2 := Kt.call (Kt.alloc L1 _) hb2
  have O2 := O1.call hb2
  have B2 := bstep (Below.alloc B1 (by omega) _) hb2
  have z2 := kt_lt L2
  have Q2 : KOw w2.heap.size (w.heap.size + 1) 1 36 [oneM] (w2.alloc (.cells #[.int .i64 1, .int .i64 0, .int .i64 0, .int .i64 1, .int .i64 0, .int .i64 0] 36)) := KOw.one oneM rfl (by omega)
  have L3 : Kt w.heap.size A B C (w2.alloc (.cells #[.int .i64 1, .int .i64 0, .int .i64 0, .int .i64 1, .int .i64 0, .int .i64 0] 36)) := L2.alloc _
  have O3 : KOw w1.heap.size (w.heap.size + 1) 1 36 [oneM] (w2.alloc (.cells #[.int .i64 1, .int .i64 0, .int .i64 0, .int .i64 1, .int .i64 0, .int .i64 0] 36)) := O2.alloc _
  have B3 : Below w.heap.size w (w2.alloc (.cells #[.int .i64 1, .int .i64 0, .int .i64 0, .int .i64 1, .int .i64 0, .int .i64 0] 36)) := Below.alloc B2 (by omega) _
  clear hb2 L1 L2 O1 O2 B1 B2
  go_wp2_with fail
  go_loopw [5, 6, 7] (fun s5 s6 s7 W => ∃ i : Nat, s7 = .int .i64 (i : Int) ∧ ∃ (Q O : List M6) (gq cq go co : Nat), Grows A B C R Q i 0 ∧ i ≤ Q.length ∧ s6 = .slice (some ⟨gq, 0, none⟩) Q.length cq ∧ s5 = .slice (some ⟨go, 0, none⟩) O.length co ∧ KOw gq (w.heap.size + 1) cq 36 Q W ∧ KOw go (w.heap.size + 1) co 36 O W ∧ Up O ∧ (∀ m, m ∈ O ↔ m ∈ Q) ∧ Kt w.heap.size A B C W ∧ Below w.heap.size w W) (fun _ _ s7 _ => 769 - (intOf s7).toNat)
  case atStart => exact ⟨0, rfl, [oneM], [oneM], _, _, _, _, Grows.start A B C R, by simp, rfl, rfl, Q2, O3, up_one _, fun m => Iff.rfl, L3, B3⟩
  case round =>
    clear Q2 L3 O3 B3 z1 z2
    obtain ⟨i, rfl, Q, O, gq, cq, go, co, hG, hi, rfl, rfl, hQ, hO, hUp, hMem, hL, hB⟩ := hrel
    have hQl : Q.length ≤ 768 := hG.len HF.out HL.out HR.out
    have hi' : (i : Int) ≤ 768 := by omega
    by_cases hi1 : i < Q.length
    · have hi2 : (i : Int) < (Q.length : Int) := by omega
      obtain ⟨_, _, h1⟩ := id HA.out
      by_cases hz : R.length = 0
      · obtain ⟨ao, cap', rfl⟩ : ∃ ao cap, v = .slice ao 0 cap := by
          rcases h1 with ⟨_, h⟩ | ⟨g', cap', h, _⟩
          · exact h
          · exact ⟨_, cap', by rw [h, hz]⟩
        have hG1 : Grows A B C R Q (i + 1) 0 := Grows.next (by rw [hz]; exact hG)
        clear h1 hG hz
        go_wp2_with fail
        go_loopw [5, 6, 8] (fun s5 s6 s8 W => s5 = .slice (some ⟨go, 0, none⟩) O.length co ∧ s6 = .slice (some ⟨gq, 0, none⟩) Q.length cq ∧ s8 = .int .i64 ((0 : Nat) : Int) ∧ W = wr) (fun _ _ _ _ => 0)
        case atStart => exact ⟨rfl, rfl, rfl, rfl⟩
        case round =>
          obtain ⟨rfl, rfl, rfl, rfl⟩ := hrel
          go_wp2
          go_roundw
          case rel => exact ⟨i + 1, by go_num, Q, O, gq, cq, go, co, hG1, by omega, rfl, rfl, hQ, hO, hUp, hMem, hL, hB⟩
          case measure => first | (simp [intOf]; done) | (simp [intOf]; omega)
      · obtain ⟨ga, cap', rfl, _, hga, RA⟩ := h1.resolve_left (fun h => hz h.1)
        have hRA := HA.out.1
        have HRA := Lib.hid (show IRow ga (R.length * 6) (fm R) w ∧ ga < w.heap.size from ⟨RA, by omega⟩)
        clear h1 hz RA hga hRA
        go_wp2_with fail
        go_loopw [5, 6, 8] (fun s5 s6 s8 W => ∃ k : Nat, s8 = .int .i64 (k : Int) ∧ ∃ (Q O : List M6) (gq cq go co : Nat), i < Q.length ∧ Grows A B C R Q i k ∧ k ≤ R.length ∧ s6 = .slice (some ⟨gq, 0, none⟩) Q.length cq ∧ s5 = .slice (some ⟨go, 0, none⟩) O.length co ∧ KOw gq (w.heap.size + 1) cq 36 Q W ∧ KOw go (w.heap.size + 1) co 36 O W ∧ Up O ∧ (∀ m, m ∈ O ↔ m ∈ Q) ∧ Kt w.heap.size A B C W ∧ Below w.heap.size w W) (fun _ _ s8 _ => R.length - (intOf s8).toNat)
        case atStart => exact ⟨0, rfl, Q, O, gq, cq, go, co, hi1, hG, by omega, rfl, rfl, hQ, hO, hUp, hMem, hL, hB⟩
        case round =>
          clear hG hi1 hi2 hQl hQ hO hUp hMem hL hB
          have hi0 := hi'
          clear hi
          obtain ⟨k, rfl, Q, O, gq, cq, go, co, hi, hG, hk, rfl, rfl, hQ, hO, hUp, hMem, hL, hB⟩ := hrel
          have hQl : Q.length ≤ 768 := hG.len HF.out HL.out HR.out
          have hi2 : (i : Int) < (Q.length : Int) := by omega
          by_cases hk1 : k < R.length
          · have hk2 : (k : Int) < (R.length : Int) := by omega
            have hn := HN.out
            have hk3 : (k : Int) ≤ 1048576 := by omega
            have hOl : O.length ≤ Q.length := nodup_len O Q hUp.nodup fun m h => (hMem m).1 h
            have q1 := (HRA.out.1.grow hB HRA.out.2).mo k hk1
            have o1 := hQ.mo (by omega) i hi
            have HH := Lib.hid (fun h => hG.has hi hk1 h)
            have HD := Lib.hid (fun h => hG.adds hi hk1 h)
            have gm := HR.out _ (List.getElem_mem hk1)
            have gn := (hG.good HL.out HR.out) _ (List.getElem_mem hi)
            have cf := cmp_facts HF.out HL.out gm gn
            have HK := Lib.hid (show k < R.length ∧ i < Q.length ∧ Q.length ≤ 768 ∧ O.length ≤ 768 from ⟨hk1, hi, hQl, by omega⟩)
            have HU := Lib.hid hUp
            have HMm := Lib.hid hMem
            clear hG gm gn hUp hMem hOl
            generalize R[k] = m at q1 HH HD cf
            generalize Q[i] = n at o1 HH HD cf
            obtain ⟨a, b, c, d, x, y⟩ := m
            obtain ⟨a', b', c', d', x', y'⟩ := n
            dsimp only at q1 o1
            obtain ⟨f1, f2, f3, f4, f5, f6⟩ := cf
            have CA : Hid (∀ W, Calls Tryz.prog 112 #[.agg #[.int .i64 a, .int .i64 b, .int .i64 c, .int .i64 d, .int .i64 x, .int .i64 y], .agg #[.int .i64 a', .int .i64 b', .int .i64 c', .int .i64 d', .int .i64 x', .int .i64 y']] W fun e w' => e = .returned (.agg #[.int .i64 (a * a' + b * c'), .int .i64 (a * b' + b * d'), .int .i64 (c * a' + d * c'), .int .i64 (c * b' + d * d'), .int .i64 (a * x' + b * y' + x), .int .i64 (c * x' + d * y' + y)]) ∧ Below W.heap.size W w') := Lib.hid (fun W => l05Compose_any a b c d x y a' b' c' d' x' y' W f1 f2 f3 f4)
            have CR : Hid (∀ W, Calls Tryz.prog 97 #[.agg #[.int .i64 A, .int .i64 B, .int .i64 C], .agg #[.int .i64 (a * a' + b * c'), .int .i64 (a * b' + b * d'), .int .i64 (c * a' + d * c'), .int .i64 (c * b' + d * d'), .int .i64 (a * x' + b * y' + x), .int .i64 (c * x' + d * y' + y)]] W fun e w' => e = .returned (.agg #[.int .i64 (a * a' + b * c'), .int .i64 (a * b' + b * d'), .int .i64 (c * a' + d * c'), .int .i64 (c * b' + d * d'), .int .i64 (redX A B C (a * x' + b * y' + x) (c * x' + d * y' + y)), .int .i64 (redY C (c * x' + d * y' + y))]) ∧ Below W.heap.size W w') := Lib.hid (fun W => l06Reduce_any A B C _ _ _ _ _ _ W HL.out f5 f6)
            have HNX : Hid (mulM A B C (a, b, c, d, x, y) (a', b', c', d', x', y') = (a * a' + b * c', a * b' + b * d', c * a' + d * c', c * b' + d * d', redX A B C (a * x' + b * y' + x) (c * x' + d * y' + y), redY C (c * x' + d * y' + y))) := Lib.hid rfl
            clear f1 f2 f3 f4 f5 f6
            generalize a * a' + b * c' = e0 at CA CR HNX
            generalize a * b' + b * d' = e1 at CA CR HNX
            generalize c * a' + d * c' = e2 at CA CR HNX
            generalize c * b' + d * d' = e3 at CA CR HNX
            generalize a * x' + b * y' + x = e4 at CA CR HNX
            generalize c * x' + d * y' + y = e5 at CA CR HNX
            generalize redX A B C e4 e5 = p at CR HNX
            generalize redY C e5 = q at CR HNX
            generalize mulM A B C (a, b, c, d, x, y) (a', b', c', d', x', y') = nx at HH HD HNX
            have hnx := HNX.out
            subst hnx
            clear HNX
            have zB := hB.size
            have hLl := hL.1
            have hgl := ko_lt o1
            have hga := ko_lt q1
            have hgo := kow_lt hO
            have hgq := kow_lt hQ
            have q1c := q1.cells
            have o1c := o1.cells
            have hLc := hL.cells
            have hCO := Lib.hid (KOw.cap_le hO)
            go_upto_region 1 with fail
            go_cut [9] (fun s9 wx => NextCutS w A B C gq cq go co Q O (e0, e1, e2, e3, p, q) s9 wx)
            case first =>
              go_region_held3 (fun W => (W.cell? ⟨w.heap.size, 0, none⟩ = some (.int .i64 A) ∧ W.cell? ⟨w.heap.size, 1, none⟩ = some (.int .i64 B) ∧ W.cell? ⟨w.heap.size, 2, none⟩ = some (.int .i64 C)) ∧ (W.cell? ⟨ga, k * 6, none⟩ = some (.int .i64 a) ∧ W.cell? ⟨ga, k * 6 + 1, none⟩ = some (.int .i64 b) ∧ W.cell? ⟨ga, k * 6 + 2, none⟩ = some (.int .i64 c) ∧ W.cell? ⟨ga, k * 6 + 3, none⟩ = some (.int .i64 d) ∧ W.cell? ⟨ga, k * 6 + 4, none⟩ = some (.int .i64 x) ∧ W.cell? ⟨ga, k * 6 + 5, none⟩ = some (.int .i64 y)) ∧ (W.cell? ⟨gq, i * 6, none⟩ = some (.int .i64 a') ∧ W.cell? ⟨gq, i * 6 + 1, none⟩ = some (.int .i64 b') ∧ W.cell? ⟨gq, i * 6 + 2, none⟩ = some (.int .i64 c') ∧ W.cell? ⟨gq, i * 6 + 3, none⟩ = some (.int .i64 d') ∧ W.cell? ⟨gq, i * 6 + 4, none⟩ = some (.int .i64 x') ∧ W.cell? ⟨gq, i * 6 + 5, none⟩ = some (.int .i64 y'))) ((refine ⟨Kt.cells ?_, Ko6.cells ?_, Ko6.cells ?_⟩) <;> repeat (first | with_reducible assumption | with_reducible refine KM.drew ?_ | with_reducible refine KM.alloc ?_ _ | with_reducible refine KM.call ?_ (by with_reducible assumption) | with_reducible refine Km.drew ?_ | with_reducible refine Km.alloc ?_ _ | with_reducible refine Km.call ?_ (by with_reducible assumption) | with_reducible refine Kt.drew ?_ | with_reducible refine Kt.alloc ?_ _ | with_reducible refine Kt.call ?_ (by with_reducible assumption) | with_reducible refine Ko6.drew ?_ | with_reducible refine Ko6.alloc ?_ _ | with_reducible refine Ko6.call ?_ (by with_reducible assumption) | with_reducible refine KOw.drew ?_ | with_reducible refine KOw.alloc ?_ _ | with_reducible refine KOw.call ?_ (by with_reducible assumption) | ((with_reducible refine KOw.put ?_ ?_); (first | omega | (dsimp only; omega))) | ((with_reducible refine Ko6.put ?_ ?_); (first | omega | (dsimp only; omega))) | ((with_reducible refine KM.put ?_ ?_); (first | omega | (dsimp only; omega))) | ((with_reducible refine Km.put ?_ ?_); (first | omega | (dsimp only; omega))) | ((with_reducible refine Kt.put ?_ ?_); (first | omega | (dsimp only; omega))) | ((with_reducible refine KM.far ?_ ?_); (first | omega | (dsimp only; omega))) | ((with_reducible refine Km.far ?_ ?_); (first | omega | (dsimp only; omega)))))
                (first
                  | (go_at_call 112; with_reducible refine (CA.out _).mono ?_; rintro e u1 ⟨rfl, hb1⟩; have La1 : Kt w.heap.size A B C u1 := (by repeat (first | with_reducible assumption | with_reducible refine KM.drew ?_ | with_reducible refine KM.alloc ?_ _ | with_reducible refine KM.call ?_ (by with_reducible assumption) | with_reducible refine Km.drew ?_ | with_reducible refine Km.alloc ?_ _ | with_reducible refine Km.call ?_ (by with_reducible assumption) | with_reducible refine Kt.drew ?_ | with_reducible refine Kt.alloc ?_ _ | with_reducible refine Kt.call ?_ (by with_reducible assumption) | with_reducible refine Ko6.drew ?_ | with_reducible refine Ko6.alloc ?_ _ | with_reducible refine Ko6.call ?_ (by with_reducible assumption) | with_reducible refine KOw.drew ?_ | with_reducible refine KOw.alloc ?_ _ | with_reducible refine KOw.call ?_ (by with_reducible assumption))); have Oa1 : KOw go (w.heap.size + 1) co 36 O u1 := (by repeat (first | with_reducible assumption | with_reducible refine KM.drew ?_ | with_reducible refine KM.alloc ?_ _ | with_reducible refine KM.call ?_ (by with_reducible assumption) | with_reducible refine Km.drew ?_ | with_reducible refine Km.alloc ?_ _ | with_reducible refine Km.call ?_ (by with_reducible assumption) | with_reducible refine Kt.drew ?_ | with_reducible refine Kt.alloc ?_ _ | with_reducible refine Kt.call ?_ (by with_reducible assumption) | with_reducible refine Ko6.drew ?_ | with_reducible refine Ko6.alloc ?_ _ | with_reducible refine Ko6.call ?_ (by with_reducible assumption) | with_reducible refine KOw.drew ?_ | with_reducible refine KOw.alloc ?_ _ | with_reducible refine KOw.call ?_ (by with_reducible assumption))); have Qa1 : KOw gq (w.heap.size + 1) cq 36 Q u1 := (by repeat (first | with_reducible assumption | with_reducible refine KM.drew ?_ | with_reducible refine KM.alloc ?_ _ | with_reducible refine KM.call ?_ (by with_reducible assumption) | with_reducible refine Km.drew ?_ | with_reducible refine Km.alloc ?_ _ | with_reducible refine Km.call ?_ (by with_reducible assumption) | with_reducible refine Kt.drew ?_ | with_reducible refine Kt.alloc ?_ _ | with_reducible refine Kt.call ?_ (by with_reducible assumption) | with_reducible refine Ko6.drew ?_ | with_reducible refine Ko6.alloc ?_ _ | with_reducible refine Ko6.call ?_ (by with_reducible assumption) | with_reducible refine KOw.drew ?_ | with_reducible refine KOw.alloc ?_ _ | with_reducible refine KOw.call ?_ (by with_reducible assumption))); have Ra1 : Ko6 ga (k * 6) a b c d x y u1 := (by repeat (first | with_reducible assumption | with_reducible refine KM.drew ?_ | with_reducible refine KM.alloc ?_ _ | with_reducible refine KM.call ?_ (by with_reducible assumption) | with_reducible refine Km.drew ?_ | with_reducible refine Km.alloc ?_ _ | with_reducible refine Km.call ?_ (by with_reducible assumption) | with_reducible refine Kt.drew ?_ | with_reducible refine Kt.alloc ?_ _ | with_reducible refine Kt.call ?_ (by with_reducible assumption) | with_reducible refine Ko6.drew ?_ | with_reducible refine Ko6.alloc ?_ _ | with_reducible refine Ko6.call ?_ (by with_reducible assumption) | with_reducible refine KOw.drew ?_ | with_reducible refine KOw.alloc ?_ _ | with_reducible refine KOw.call ?_ (by with_reducible assumption))); have Na1 : Ko6 gq (i * 6) a' b' c' d' x' y' u1 := (by repeat (first | with_reducible assumption | with_reducible refine KM.drew ?_ | with_reducible refine KM.alloc ?_ _ | with_reducible refine KM.call ?_ (by with_reducible assumption) | with_reducible refine Km.drew ?_ | with_reducible refine Km.alloc ?_ _ | with_reducible refine Km.call ?_ (by with_reducible assumption) | with_reducible refine Kt.drew ?_ | with_reducible refine Kt.alloc ?_ _ | with_reducible refine Kt.call ?_ (by with_reducible assumption) | with_reducible refine Ko6.drew ?_ | with_reducible refine Ko6.alloc ?_ _ | with_reducible refine Ko6.call ?_ (by with_reducible assumption) | with_reducible refine KOw.drew ?_ | with_reducible refine KOw.alloc ?_ _ | with_reducible refine KOw.call ?_ (by with_reducible assumption))); have Ll1 := kt_lt La1; have Rl1 := ko_lt Ra1; have Nl1 := ko_lt Na1; have Ol1 := kow_lt Oa1; have Ql1 := kow_lt Qa1; (try ((refine useIt (P := KM wr.heap.size 0 0 0 0 0 0 u1) ?_ ?_); (repeat (first | with_reducible assumption | (with_reducible exact KM.at _ (by first | with_reducible rfl | (simp; done) | fail)) | with_reducible refine KM.drew ?_ | with_reducible refine KM.alloc ?_ _ | with_reducible refine KM.call ?_ (by with_reducible assumption) | with_reducible refine Km.drew ?_ | with_reducible refine Km.alloc ?_ _ | with_reducible refine Km.call ?_ (by with_reducible assumption) | with_reducible refine Kt.drew ?_ | with_reducible refine Kt.alloc ?_ _ | with_reducible refine Kt.call ?_ (by with_reducible assumption) | with_reducible refine Ko6.drew ?_ | with_reducible refine Ko6.alloc ?_ _ | with_reducible refine Ko6.call ?_ (by with_reducible assumption) | with_reducible refine KOw.drew ?_ | with_reducible refine KOw.alloc ?_ _ | with_reducible refine KOw.call ?_ (by with_reducible assumption))); intro Z1y0; have Z1y0c0 := Z1y0.c0; have Z1y0f0 := Z1y0.f0; have Z1y0c1 := Z1y0.c1; have Z1y0f1 := Z1y0.f1; have Z1y0c2 := Z1y0.c2; have Z1y0f2 := Z1y0.f2; have Z1y0c3 := Z1y0.c3; have Z1y0f3 := Z1y0.f3; have Z1y0c4 := Z1y0.c4; have Z1y0f4 := Z1y0.f4; have Z1y0c5 := Z1y0.c5; have Z1y0f5 := Z1y0.f5; have Z1y0l := Z1y0.lt)); have Ba1 : Below w.heap.size w u1 := (by repeat (first | with_reducible assumption | with_reducible exact Below.refl _ _ | with_reducible refine Below.alloc ?_ (by first | omega | (simp <;> omega)) _ | with_reducible refine bstep ?_ (by with_reducible assumption) | with_reducible refine Below.drew ?_)); have zz1 := Below.size Ba1)
                  | (go_at_call 97; with_reducible refine (CR.out _).mono ?_; rintro e u2 ⟨rfl, hb2⟩; have La2 : Kt w.heap.size A B C u2 := (by repeat (first | with_reducible assumption | with_reducible refine KM.drew ?_ | with_reducible refine KM.alloc ?_ _ | with_reducible refine KM.call ?_ (by with_reducible assumption) | with_reducible refine Km.drew ?_ | with_reducible refine Km.alloc ?_ _ | with_reducible refine Km.call ?_ (by with_reducible assumption) | with_reducible refine Kt.drew ?_ | with_reducible refine Kt.alloc ?_ _ | with_reducible refine Kt.call ?_ (by with_reducible assumption) | with_reducible refine Ko6.drew ?_ | with_reducible refine Ko6.alloc ?_ _ | with_reducible refine Ko6.call ?_ (by with_reducible assumption) | with_reducible refine KOw.drew ?_ | with_reducible refine KOw.alloc ?_ _ | with_reducible refine KOw.call ?_ (by with_reducible assumption))); have Oa2 : KOw go (w.heap.size + 1) co 36 O u2 := (by repeat (first | with_reducible assumption | with_reducible refine KM.drew ?_ | with_reducible refine KM.alloc ?_ _ | with_reducible refine KM.call ?_ (by with_reducible assumption) | with_reducible refine Km.drew ?_ | with_reducible refine Km.alloc ?_ _ | with_reducible refine Km.call ?_ (by with_reducible assumption) | with_reducible refine Kt.drew ?_ | with_reducible refine Kt.alloc ?_ _ | with_reducible refine Kt.call ?_ (by with_reducible assumption) | with_reducible refine Ko6.drew ?_ | with_reducible refine Ko6.alloc ?_ _ | with_reducible refine Ko6.call ?_ (by with_reducible assumption) | with_reducible refine KOw.drew ?_ | with_reducible refine KOw.alloc ?_ _ | with_reducible refine KOw.call ?_ (by with_reducible assumption))); have Qa2 : KOw gq (w.heap.size + 1) cq 36 Q u2 := (by repeat (first | with_reducible assumption | with_reducible refine KM.drew ?_ | with_reducible refine KM.alloc ?_ _ | with_reducible refine KM.call ?_ (by with_reducible assumption) | with_reducible refine Km.drew ?_ | with_reducible refine Km.alloc ?_ _ | with_reducible refine Km.call ?_ (by with_reducible assumption) | with_reducible refine Kt.drew ?_ | with_reducible refine Kt.alloc ?_ _ | with_reducible refine Kt.call ?_ (by with_reducible assumption) | with_reducible refine Ko6.drew ?_ | with_reducible refine Ko6.alloc ?_ _ | with_reducible refine Ko6.call ?_ (by with_reducible assumption) | with_reducible refine KOw.drew ?_ | with_reducible refine KOw.alloc ?_ _ | with_reducible refine KOw.call ?_ (by with_reducible assumption))); have Ra2 : Ko6 ga (k * 6) a b c d x y u2 := (by repeat (first | with_reducible assumption | with_reducible refine KM.drew ?_ | with_reducible refine KM.alloc ?_ _ | with_reducible refine KM.call ?_ (by with_reducible assumption) | with_reducible refine Km.drew ?_ | with_reducible refine Km.alloc ?_ _ | with_reducible refine Km.call ?_ (by with_reducible assumption) | with_reducible refine Kt.drew ?_ | with_reducible refine Kt.alloc ?_ _ | with_reducible refine Kt.call ?_ (by with_reducible assumption) | with_reducible refine Ko6.drew ?_ | with_reducible refine Ko6.alloc ?_ _ | with_reducible refine Ko6.call ?_ (by with_reducible assumption) | with_reducible refine KOw.drew ?_ | with_reducible refine KOw.alloc ?_ _ | with_reducible refine KOw.call ?_ (by with_reducible assumption))); have Na2 : Ko6 gq (i * 6) a' b' c' d' x' y' u2 := (by repeat (first | with_reducible assumption | with_reducible refine KM.drew ?_ | with_reducible refine KM.alloc ?_ _ | with_reducible refine KM.call ?_ (by with_reducible assumption) | with_reducible refine Km.drew ?_ | with_reducible refine Km.alloc ?_ _ | with_reducible refine Km.call ?_ (by with_reducible assumption) | with_reducible refine Kt.drew ?_ | with_reducible refine Kt.alloc ?_ _ | with_reducible refine Kt.call ?_ (by with_reducible assumption) | with_reducible refine Ko6.drew ?_ | with_reducible refine Ko6.alloc ?_ _ | with_reducible refine Ko6.call ?_ (by with_reducible assumption) | with_reducible refine KOw.drew ?_ | with_reducible refine KOw.alloc ?_ _ | with_reducible refine KOw.call ?_ (by with_reducible assumption))); have Ll2 := kt_lt La2; have Rl2 := ko_lt Ra2; have Nl2 := ko_lt Na2; have Ol2 := kow_lt Oa2; have Ql2 := kow_lt Qa2; (try ((refine useIt (P := KM wr.heap.size 0 0 0 0 0 0 u2) ?_ ?_); (repeat (first | with_reducible assumption | (with_reducible exact KM.at _ (by first | with_reducible rfl | (simp; done) | fail)) | with_reducible refine KM.drew ?_ | with_reducible refine KM.alloc ?_ _ | with_reducible refine KM.call ?_ (by with_reducible assumption) | with_reducible refine Km.drew ?_ | with_reducible refine Km.alloc ?_ _ | with_reducible refine Km.call ?_ (by with_reducible assumption) | with_reducible refine Kt.drew ?_ | with_reducible refine Kt.alloc ?_ _ | with_reducible refine Kt.call ?_ (by with_reducible assumption) | with_reducible refine Ko6.drew ?_ | with_reducible refine Ko6.alloc ?_ _ | with_reducible refine Ko6.call ?_ (by with_reducible assumption) | with_reducible refine KOw.drew ?_ | with_reducible refine KOw.alloc ?_ _ | with_reducible refine KOw.call ?_ (by with_reducible assumption))); intro Z2y0; have Z2y0c0 := Z2y0.c0; have Z2y0f0 := Z2y0.f0; have Z2y0c1 := Z2y0.c1; have Z2y0f1 := Z2y0.f1; have Z2y0c2 := Z2y0.c2; have Z2y0f2 := Z2y0.f2; have Z2y0c3 := Z2y0.c3; have Z2y0f3 := Z2y0.f3; have Z2y0c4 := Z2y0.c4; have Z2y0f4 := Z2y0.f4; have Z2y0c5 := Z2y0.c5; have Z2y0f5 := Z2y0.f5; have Z2y0l := Z2y0.lt)); (try ((refine useIt (P := KM u1.heap.size 0 0 0 0 0 0 u2) ?_ ?_); (repeat (first | with_reducible assumption | (with_reducible exact KM.at _ (by first | with_reducible rfl | (simp; done) | fail)) | with_reducible refine KM.drew ?_ | with_reducible refine KM.alloc ?_ _ | with_reducible refine KM.call ?_ (by with_reducible assumption) | with_reducible refine Km.drew ?_ | with_reducible refine Km.alloc ?_ _ | with_reducible refine Km.call ?_ (by with_reducible assumption) | with_reducible refine Kt.drew ?_ | with_reducible refine Kt.alloc ?_ _ | with_reducible refine Kt.call ?_ (by with_reducible assumption) | with_reducible refine Ko6.drew ?_ | with_reducible refine Ko6.alloc ?_ _ | with_reducible refine Ko6.call ?_ (by with_reducible assumption) | with_reducible refine KOw.drew ?_ | with_reducible refine KOw.alloc ?_ _ | with_reducible refine KOw.call ?_ (by with_reducible assumption))); intro Z2y1; have Z2y1c0 := Z2y1.c0; have Z2y1f0 := Z2y1.f0; have Z2y1c1 := Z2y1.c1; have Z2y1f1 := Z2y1.f1; have Z2y1c2 := Z2y1.c2; have Z2y1f2 := Z2y1.f2; have Z2y1c3 := Z2y1.c3; have Z2y1f3 := Z2y1.f3; have Z2y1c4 := Z2y1.c4; have Z2y1f4 := Z2y1.f4; have Z2y1c5 := Z2y1.c5; have Z2y1f5 := Z2y1.f5; have Z2y1l := Z2y1.lt)); have Ba2 : Below w.heap.size w u2 := (by repeat (first | with_reducible assumption | with_reducible exact Below.refl _ _ | with_reducible refine Below.alloc ?_ (by first | omega | (simp <;> omega)) _ | with_reducible refine bstep ?_ (by with_reducible assumption) | with_reducible refine Below.drew ?_)); have zz2 := Below.size Ba2))
              all_goals
                go_wp2_with fail
                go_meet
                exact ⟨_, rfl, (by first | (with_reducible exact KM.at _ (by first | with_reducible rfl | (simp; done) | fail)) | (with_reducible exact KM.store (by repeat (first | with_reducible assumption | (with_reducible exact KM.at _ (by first | with_reducible rfl | (simp; done) | fail)) | with_reducible refine KM.drew ?_ | with_reducible refine KM.alloc ?_ _ | with_reducible refine KM.call ?_ (by with_reducible assumption) | with_reducible refine Km.drew ?_ | with_reducible refine Km.alloc ?_ _ | with_reducible refine Km.call ?_ (by with_reducible assumption) | with_reducible refine Kt.drew ?_ | with_reducible refine Kt.alloc ?_ _ | with_reducible refine Kt.call ?_ (by with_reducible assumption) | with_reducible refine Ko6.drew ?_ | with_reducible refine Ko6.alloc ?_ _ | with_reducible refine Ko6.call ?_ (by with_reducible assumption) | with_reducible refine KOw.drew ?_ | with_reducible refine KOw.alloc ?_ _ | with_reducible refine KOw.call ?_ (by with_reducible assumption))) _ _ _ _ _ _) | fail), (by repeat (first | with_reducible assumption | with_reducible refine KM.drew ?_ | with_reducible refine KM.alloc ?_ _ | with_reducible refine KM.call ?_ (by with_reducible assumption) | with_reducible refine Km.drew ?_ | with_reducible refine Km.alloc ?_ _ | with_reducible refine Km.call ?_ (by with_reducible assumption) | with_reducible refine Kt.drew ?_ | with_reducible refine Kt.alloc ?_ _ | with_reducible refine Kt.call ?_ (by with_reducible assumption) | with_reducible refine Ko6.drew ?_ | with_reducible refine Ko6.alloc ?_ _ | with_reducible refine Ko6.call ?_ (by with_reducible assumption) | with_reducible refine KOw.drew ?_ | with_reducible refine KOw.alloc ?_ _ | with_reducible refine KOw.call ?_ (by with_reducible assumption) | ((with_reducible refine KOw.put ?_ ?_); (first | omega | (dsimp only; omega))) | ((with_reducible refine Ko6.put ?_ ?_); (first | omega | (dsimp only; omega))) | ((with_reducible refine KM.put ?_ ?_); (first | omega | (dsimp only; omega))) | ((with_reducible refine Km.put ?_ ?_); (first | omega | (dsimp only; omega))) | ((with_reducible refine Kt.put ?_ ?_); (first | omega | (dsimp only; omega))) | ((with_reducible refine KM.far ?_ ?_); (first | omega | (dsimp only; omega))) | ((with_reducible refine Km.far ?_ ?_); (first | omega | (dsimp only; omega))))), (by repeat (first | with_reducible assumption | with_reducible refine KM.drew ?_ | with_reducible refine KM.alloc ?_ _ | with_reducible refine KM.call ?_ (by with_reducible assumption) | with_reducible refine Km.drew ?_ | with_reducible refine Km.alloc ?_ _ | with_reducible refine Km.call ?_ (by with_reducible assumption) | with_reducible refine Kt.drew ?_ | with_reducible refine Kt.alloc ?_ _ | with_reducible refine Kt.call ?_ (by with_reducible assumption) | with_reducible refine Ko6.drew ?_ | with_reducible refine Ko6.alloc ?_ _ | with_reducible refine Ko6.call ?_ (by with_reducible assumption) | with_reducible refine KOw.drew ?_ | with_reducible refine KOw.alloc ?_ _ | with_reducible refine KOw.call ?_ (by with_reducible assumption) | ((with_reducible refine KOw.put ?_ ?_); (first | omega | (dsimp only; omega))) | ((with_reducible refine Ko6.put ?_ ?_); (first | omega | (dsimp only; omega))) | ((with_reducible refine KM.put ?_ ?_); (first | omega | (dsimp only; omega))) | ((with_reducible refine Km.put ?_ ?_); (first | omega | (dsimp only; omega))) | ((with_reducible refine Kt.put ?_ ?_); (first | omega | (dsimp only; omega))) | ((with_reducible refine KM.far ?_ ?_); (first | omega | (dsimp only; omega))) | ((with_reducible refine Km.far ?_ ?_); (first | omega | (dsimp only; omega))))), (by repeat (first | with_reducible assumption | with_reducible refine KM.drew ?_ | with_reducible refine KM.alloc ?_ _ | with_reducible refine KM.call ?_ (by with_reducible assumption) | with_reducible refine Km.drew ?_ | with_reducible refine Km.alloc ?_ _ | with_reducible refine Km.call ?_ (by with_reducible assumption) | with_reducible refine Kt.drew ?_ | with_reducible refine Kt.alloc ?_ _ | with_reducible refine Kt.call ?_ (by with_reducible assumption) | with_reducible refine Ko6.drew ?_ | with_reducible refine Ko6.alloc ?_ _ | with_reducible refine Ko6.call ?_ (by with_reducible assumption) | with_reducible refine KOw.drew ?_ | with_reducible refine KOw.alloc ?_ _ | with_reducible refine KOw.call ?_ (by with_reducible assumption) | ((with_reducible refine KOw.put ?_ ?_); (first | omega | (dsimp only; omega))) | ((with_reducible refine Ko6.put ?_ ?_); (first | omega | (dsimp only; omega))) | ((with_reducible refine KM.put ?_ ?_); (first | omega | (dsimp only; omega))) | ((with_reducible refine Km.put ?_ ?_); (first | omega | (dsimp only; omega))) | ((with_reducible refine Kt.put ?_ ?_); (first | omega | (dsimp only; omega))) | ((with_reducible refine KM.far ?_ ?_); (first | omega | (dsimp only; omega))) | ((with_reducible refine Km.far ?_ ?_); (first | omega | (dsimp only; omega))))), (by repeat (first | with_reducible assumption | with_reducible exact Below.refl _ _ | with_reducible refine Below.setCell ?_ (by first | omega | (simp <;> omega)) _ | with_reducible refine Below.alloc ?_ (by first | omega | (simp <;> omega)) _ | with_reducible refine bstep ?_ (by with_reducible assumption) | with_reducible refine Below.drew ?_))⟩
            case rest =>
              obtain ⟨gn, rfl, X, L, Ow, Oo, Bx⟩ := hcut
              obtain ⟨W4, hW4⟩ : ∃ z, z = wc := ⟨_, rfl⟩
              subst hW4
              clear CA CR q1 o1 q1c o1c hLc hL hQ hO hB hLl hgl hga hgo hgq
              have Xc := X.cells5
              have Xl := X.lt
              have zx := Bx.size
              have SO := SRow.of6 Oo (by have := HK.out; omega)
              have CH := Lib.hid (l06Has_any e0 e1 e2 e3 p q SO HU.out (by have := HK.out; omega))
              have HDEC : Hid (decide ((e0, e1, e2, e3, p, q) ∈ O) = decide ((e0, e1, e2, e3, p, q) ∈ Q)) := Lib.hid (decide_eq_decide.2 (HMm.out _))
              rcases hd : decide ((e0, e1, e2, e3, p, q) ∈ O) with _ | _
              · have HG2 := Lib.hid (HD.out (of_decide_eq_false (HDEC.out.symm.trans hd)))
                rw [hd] at CH
                have HFD := Lib.hid hd
                clear HH HD hd SO
                go_wp2_with fail
                refine CH.out.mono ?_
                rintro e w5 ⟨rfl, hb5⟩
                have X5 := X.call hb5
                have L5 := L.call hb5
                have Q5 := Ow.call hb5
                have O5 := Oo.call hb5
                have B5 := bstep Bx hb5
                have X5c := X5.cells5
                have S5 := SRow.of6 O5 (by have := HK.out; omega)
                have z5 := kt_lt L5
                have CI := Lib.hid (l06Insert_any e0 e1 e2 e3 p q O5 ⟨_, _, rfl⟩ S5 (by omega) HU.out (by have := HK.out; omega))
                clear hb5 CH X L Ow Oo Bx Xc Xl zx S5
                go_wp2_with fail
                refine CI.out.mono ?_
                rintro e w6 ⟨g6, cap6, rfl, O6, hg6, hb6⟩
                have hg6 := hg6 HFD.out
                have X6 := X5.call hb6
                have L6 := L5.call hb6
                have Q6 := Q5.call hb6
                have B6 := bstep B5 hb6
                have X6c := X6.cells5
                have z6 := kt_lt L6
                have hql := (KOw.lt Q5).2
                have hgg : g6 ≠ gq := by omega
                clear hb6 CI X5 L5 Q5 O5 B5 X5c hql hg6
                have HGG := Lib.hid hgg
                clear hgg
                go_wp2_with (at_builtin; refine wpList_append_own _ rfl _ _ 26 rfl (w.heap.size + 1) 36 i0 (.agg #[.int .i64 0, .int .i64 0, .int .i64 0, .int .i64 0, .int .i64 0, .int .i64 0]) 6 48 Tryz.underlying26 hinf hz0 hz1 hz2 rfl (by decide) _ _ _ rfl (Q6.alloc _) ⟨w6.heap.size, 0, none⟩ 1 1 [.int .i64 e0, .int .i64 e1, .int .i64 e2, .int .i64 e3, .int .i64 p, .int .i64 q] rfl rfl (new_six _ _ _ _ _ _ _ rfl) one_six (by have := HK.out; unfold maxLen; omega) (by have := HK.out; omega) (by have hz := z6; (try simp); omega) ?_; intro v9 w9 hown9 hgrow _)
                obtain ⟨g9, cap9, rfl, Q9⟩ := KOw.of (own_next6 hown9) (by simp)
                have O9 : KOw g6 (w.heap.size + 1) cap6 36 (putM O (e0, e1, e2, e3, p, q)) w9 := KOw.kept (O6.alloc _) hgrow (fun e => by have e2 : some g6 = some gq := e; exact HGG.out (Option.some.inj e2))
                have hq0 := (KOw.lt Q6).1
                have L9 : Kt w.heap.size A B C w9 := Kt.grown (L6.alloc _) hgrow (fun e => by have e2 : some w.heap.size = some gq := e; have e3 := Option.some.inj e2; omega)
                have B9 : Below w.heap.size w w9 := Below.grown (Below.alloc B6 (by omega) _) hgrow (by simp; omega) (fun r hr => by have e2 : some gq = some r := hr; have e3 := Option.some.inj e2; omega)
                clear hown9 hgrow X6 X6c L6 Q6 O6 B6
                go_wp2
                go_roundw
                case rel => exact ⟨k + 1, by go_num, Q ++ [(e0, e1, e2, e3, p, q)], putM O (e0, e1, e2, e3, p, q), g9, cap9, g6, cap6, by have := HK.out; simp; omega, HG2.out, by have := HK.out; omega, rfl, rfl, Q9, O9, putM_up HU.out, fun m => by rw [putM_mem, List.mem_append, HMm.out]; simp [or_comm], L9, B9⟩
                case measure => (have := HK.out); first | (simp [intOf]; done) | (simp [intOf]; omega)
              · have HG2 := Lib.hid (HH.out (of_decide_eq_true (HDEC.out.symm.trans hd)))
                rw [hd] at CH
                clear HH HD hd SO
                go_wp2_with fail
                refine CH.out.mono ?_
                rintro e w5 ⟨rfl, hb5⟩
                have L5 := L.call hb5
                have Q5 := Ow.call hb5
                have O5 := Oo.call hb5
                have B5 := bstep Bx hb5
                clear hb5 CH X L Ow Oo Bx Xc Xl zx
                go_wp2
                go_roundw
                case rel => exact ⟨k + 1, by go_num, Q, O, gq, cq, go, co, by have := HK.out; omega, HG2.out, by have := HK.out; omega, rfl, rfl, Q5, O5, HU.out, HMm.out, L5, B5⟩
                case measure => (have := HK.out); first | (simp [intOf]; done) | (simp [intOf]; omega)
          · obtain rfl : k = R.length := by omega
            have HG2 := Lib.hid hG.next
            have HK := Lib.hid (show i < Q.length ∧ i ≤ 768 from ⟨hi, by omega⟩)
            clear hG hk hk1 hi hi2 hQl hi0
            go_wp2
            go_roundw
            case rel => exact ⟨i + 1, by go_num, Q, O, gq, cq, go, co, HG2.out, by have := HK.out; omega, rfl, rfl, hQ, hO, hUp, hMem, hL, hB⟩
            case measure => (have := HK.out); first | (simp [intOf]; done) | (simp [intOf]; omega)
    · obtain rfl : i = Q.length := by omega
      have HGM := Lib.hid hG
      clear hG hL
      go_wp2
      go_ret
      exact ⟨go, co, O, rfl, ⟨hUp, fun m => (hMem m).trans (HGM.out.mem m)⟩, KOw.lower hO (by omega), hB⟩
end
end Go.Proofs.YtmadgbbkkkibcaaGreatDoor

namespace Go.Proofs.YtmadgbbkkkibcaaGreatDoor
section
open Go.RowKit
set_option linter.unusedSimpArgs false
set_option linter.unusedVariables false

theorem Ko6.grown {g o : Nat} {a b c d x y : Int} {W w1 : World} {row : Option Nat} (h : Ko6 g o a b c d x y W) (hg : W.grownBy w1 row) (hne : some g ≠ row) : Ko6 g o a b c d x y w1 :=
  ⟨Nat.lt_of_lt_of_le h.1 hg.size, hg.cell h.2.1 hne, hg.cell h.2.2.1 hne, hg.cell h.2.2.2.1 hne, hg.cell h.2.2.2.2.1 hne, hg.cell h.2.2.2.2.2.1 hne, hg.cell h.2.2.2.2.2.2 hne⟩
theorem good_in {f A B C : Int} (hf : frB f = true) (hl : latI A B C) {m : M6} (h : suiQ f A B C m ∧ redM A B C m = m) : m ∈ allQ f A C := by
  obtain ⟨⟨hk, _⟩, hr⟩ := h
  have hb := redM_bd hl m
  rw [hr] at hb
  obtain ⟨a, b, c, d, x, y⟩ := m
  simp only at hb hk
  unfold allQ
  refine List.mem_flatMap.2 ⟨(a, b, c, d), matsL_mem hf hk, List.mem_flatMap.2 ⟨x.toNat, List.mem_range.2 (by omega), List.mem_map.2 ⟨y.toNat, List.mem_range.2 (by omega), ?_⟩⟩⟩
  have e1 : ((x.toNat : Nat) : Int) = x := by omega
  have e2 : ((y.toNat : Nat) : Int) = y := by omega
  simp only [e1, e2]
theorem srow_shape {lo hi K n : Nat} {v : Value} {F : Nat → Int} {W : World} (h : SRow lo hi K v n F W) : ∃ ao cap, v = .slice ao n cap := by
  rcases h.2.2 with ⟨rfl, ao, cap, rfl⟩ | ⟨g, cap, rfl, _⟩
  · exact ⟨ao, cap, rfl⟩
  · exact ⟨_, cap, rfl⟩
def cloB (f A B C : Int) (xs : List M6) : Bool := decide (xs.length ≤ 8) && allOk f A B C xs
def CloL (f A B C : Int) (xs L : List M6) : Prop := ((flB f A B C && cloB f A B C xs) = true → IsClos A B C (xs.map (redM A B C)) L) ∧ ((flB f A B C && cloB f A B C xs) = false → L = [])
theorem clos_ex {f A B C : Int} (hf : frB f = true) (hl : latI A B C) {R : List M6} (hR : GoodR f A B C R) : ∃ L, IsClos A B C R L := by
  classical
  refine ⟨putAll ((allQ f A C).filter fun m => decide (Reach A B C R m)), putAll_up _, fun m => ?_⟩
  rw [putAll_mem, List.mem_filter]
  constructor
  · rintro ⟨_, h⟩
    exact of_decide_eq_true h
  · intro h
    exact ⟨good_in hf hl (reach_good hl hR h), decide_eq_true h⟩
theorem cloL_ex (f A B C : Int) (xs : List M6) : ∃ L, CloL f A B C xs L := by
  rcases h : (flB f A B C && cloB f A B C xs) with _ | _
  · exact ⟨[], ⟨fun e => (by rw [h] at e; cases e), fun _ => rfl⟩⟩
  · have h2 := h
    simp only [cloB, Bool.and_eq_true, decide_eq_true_eq] at h2
    obtain ⟨hf, hl⟩ := flB_parts h2.1
    obtain ⟨L, hL⟩ := clos_ex hf hl (all_good h2.2.2)
    exact ⟨L, ⟨fun _ => hL, fun e => (by rw [h] at e; cases e)⟩⟩
theorem cloL_len {f A B C : Int} {xs L : List M6} (h : CloL f A B C xs L) : L.length ≤ 768 := by
  rcases hq : (flB f A B C && cloB f A B C xs) with _ | _
  · rw [h.2 hq]; simp
  · have h2 := hq
    simp only [cloB, Bool.and_eq_true, decide_eq_true_eq] at h2
    obtain ⟨hf, hl⟩ := flB_parts h2.1
    exact clos_len hf hl (all_good h2.2.2) (h.1 hq)
def LAns (K : Nat) (n : Nat) (F : Nat → Int) (c : Int) (w : World) (e : Ending) (w' : World) : Prop :=
  ∃ v : Value, e = .returned (.tuple #[v, .int .i64 c]) ∧ SRow w.heap.size w'.heap.size K v n F w' ∧ Below w.heap.size w w'
theorem LAns.nil {K : Nat} {F : Nat → Int} {c c' : Int} {w w' : World} (hc : c' = c) (hb : Below w.heap.size w w') : LAns K 0 F c w (.returned (.tuple #[.slice none 0 0, .int .i64 c'])) w' :=
  ⟨_, by rw [hc], ⟨Nat.le_refl _, Nat.zero_le _, .inl ⟨rfl, none, 0, rfl⟩⟩, hb⟩
set_option maxRecDepth 100000 in
set_option maxHeartbeats 8000000 in
theorem asMotions_any {lo hi : Nat} {v : Value} {xs : List M6} {w : World} (h : SRow lo hi 6 v xs.length (fm xs) w) (hn : xs.length ≤ 1048576) :
    Calls Tryz.prog 94 #[v] w fun e w' => ∃ v' : Value, e = .returned v' ∧ w'.ownsRow w.heap.size 36 6 v' xs.length (cells6 xs) ∧ Below w.heap.size w w' := by
  obtain ⟨i0, hinf, hz0, hz1, hz2⟩ := info_parts infoMo6
  have HN := Lib.hid hn
  have HA := Lib.hid h
  obtain ⟨ao, cap, rfl⟩ := srow_shape h
  have hnn : (xs.length : Int) ≤ 1048576 := by omega
  clear h hn
  go_enter Tryz.func94, Tryz.ntmps94
  go_wp2_with fail
  go_loopw [3, 8] (fun s3 s8 W => ∃ k : Nat, s8 = .int .i64 (k : Int) ∧ k ≤ xs.length ∧ W.ownsRow w.heap.size 36 6 s3 (xs.take k).length (cells6 (xs.take k)) ∧ Below w.heap.size w W) (fun _ s8 _ => xs.length - (intOf s8).toNat)
  case atStart => exact ⟨0, rfl, by omega, own_nil6 _ _ _, Below.refl _ _⟩
  case round =>
    obtain ⟨k, rfl, hk, hown, hB⟩ := hrel
    by_cases hk1 : k < xs.length
    · have hk2 : (k : Int) < (xs.length : Int) := by omega
      have hk3 : (k : Int) ≤ 1048576 := by omega
      have hres := HA.out.2.2.resolve_left (fun h => by omega)
      have hhi := HA.out.1
      obtain ⟨g, cap', e9, _, hg, RA⟩ := hres
      simp only [Value.slice.injEq, true_and] at e9
      obtain ⟨rfl, rfl⟩ := e9
      have q1 := (RA.grow hB (by omega)).mo k hk1
      have HT := Lib.hid (show xs.take (k + 1) = xs.take k ++ [xs[k]] from List.take_succ_eq_append_getElem hk1)
      have HTL := Lib.hid (show (xs.take k).length ≤ 1048576 by rw [List.length_take]; omega)
      have HK := Lib.hid hk1
      clear RA hg hhi hk
      generalize xs[k] = m at q1 HT
      clear hk1
      obtain ⟨a, b, c, d, x, y⟩ := m
      dsimp only at q1
      generalize xs.take k = ys at hown HT HTL
      have zB := hB.size
      have hgl := ko_lt q1
      have q1c := q1.cells
      have X0 : KM wr.heap.size a b c d x y (wr.alloc (.cells #[.int .i64 a, .int .i64 b, .int .i64 c, .int .i64 d, .int .i64 x, .int .i64 y] 115)) := KM.at _ rfl
      have O3 := World.ownsRow.alloc hown (.cells #[.int .i64 a, .int .i64 b, .int .i64 c, .int .i64 d, .int .i64 x, .int .i64 y] 115)
      have B3 : Below w.heap.size w (wr.alloc (.cells #[.int .i64 a, .int .i64 b, .int .i64 c, .int .i64 d, .int .i64 x, .int .i64 y] 115)) := hB.alloc zB _
      have X0c := X0.cells5
      clear hown hB
      go_wp2_with fail
      refine (asMo_any _ _ _ _ _ _ _).mono ?_
      rintro e w3 ⟨rfl, hb3⟩
      have O4 := ownsRow_call O3 hb3
      have B4 := bstep B3 hb3
      have z4 := B4.size
      clear hb3 X0 O3 B3 X0c q1 q1c
      go_wp2_with (at_builtin; refine wpList_append_own _ rfl _ _ 26 rfl w.heap.size 36 i0 (.agg #[.int .i64 0, .int .i64 0, .int .i64 0, .int .i64 0, .int .i64 0, .int .i64 0]) 6 48 Tryz.underlying26 hinf hz0 hz1 hz2 rfl (by decide) _ _ _ rfl (O4.alloc _) ⟨w3.heap.size, 0, none⟩ 1 1 [.int .i64 a, .int .i64 b, .int .i64 c, .int .i64 d, .int .i64 x, .int .i64 y] rfl rfl (new_six _ _ _ _ _ _ _ rfl) one_six (by have := HTL.out; unfold maxLen; omega) (by have := HTL.out; omega) (by (try simp); omega) ?_; intro v9 w9 hown9 hgrow _)
      have O9 := own_next6 hown9
      have B9 : Below w.heap.size w w9 := Below.grown (Below.alloc B4 (by omega) _) hgrow (by simp; omega) (fun r hr => by have := (O4.lt r hr).1; omega)
      clear hown9 hgrow O4 B4
      go_wp2
      go_roundw
      case rel => exact ⟨k + 1, by go_num, by have := HK.out; omega, by rw [HT.out]; exact O9, B9⟩
      case measure => (have := HK.out); first | (simp [intOf]; done) | (simp [intOf]; omega)
    · obtain rfl : k = xs.length := by omega
      rw [List.take_length] at hown
      clear hk hk1
      go_wp2
      go_ret
      exact ⟨_, rfl, hown, hB⟩

set_option maxRecDepth 100000 in
set_option maxHeartbeats 8000000 in
theorem implClose_any {lo hi : Nat} {v : Value} {xs L : List M6} {w : World} (f A B C : Int) (hCL : CloL f A B C xs L) (h : SRow lo hi 6 v xs.length (fm xs) w) (hn : xs.length ≤ 1048576) (hU : UnitOK w) :
    Calls Tryz.prog 21 #[.int .i64 f, .agg #[.int .i64 A, .int .i64 B, .int .i64 C], v] w (LAns 6 L.length (fm L) (cod6 f A B C (cloB f A B C xs)) w) := by
  have HN := Lib.hid hn
  have L0 : Kt w.heap.size A B C (w.alloc (.cells #[.int .i64 A, .int .i64 B, .int .i64 C] 25)) := Kt.at _ rfl
  have B0 : Below w.heap.size w (w.alloc (.cells #[.int .i64 A, .int .i64 B, .int .i64 C] 25)) := (Below.refl _ _).alloc (Nat.le_refl _) _
  have A0 : SRow lo hi 6 v xs.length (fm xs) (w.alloc (.cells #[.int .i64 A, .int .i64 B, .int .i64 C] 25)) := h.grow ((Below.refl w.heap.size w).alloc (Nat.le_refl _) _) h.1
  have L0c := L0.cells
  rcases hF : flB f A B C with _ | _
  · have HE := Lib.hid (show cod6 f A B C (cloB f A B C xs) = 1 by simp [cod6, hF])
    have HC := Lib.hid (show cod6 f A B C (allOk f A B C xs) = 1 by simp [cod6, hF])
    have HV := Lib.hid (show (flB f A B C && allOk f A B C xs) = false by simp [hF])
    have HL0 := Lib.hid (hCL.2 (by simp [hF]))
    clear hn h
    go_enter Tryz.func21, Tryz.ntmps21
    go_wp2_with fail
    refine (redMs_any f A B C A0 HN.out).mono ?_
    rintro e w1 ⟨v1, he, hv, _, hb1⟩
    rw [HC.out] at he
    have hv1 : v1 = .slice none 0 0 := by simpa [HV.out] using hv
    subst hv1 he
    have B1 := bstep B0 hb1
    clear hv hb1 B0 A0 L0 L0c
    go_wp2
    go_ret2
    rw [HL0.out]
    exact LAns.nil HE.out.symm B1
  rcases hK : allOk f A B C xs with _ | _
  · have HE := Lib.hid (show cod6 f A B C (cloB f A B C xs) = 2 by simp [cod6, hF, cloB, hK])
    have HC := Lib.hid (show cod6 f A B C (allOk f A B C xs) = 2 by simp [cod6, hF, hK])
    have HV := Lib.hid (show (flB f A B C && allOk f A B C xs) = false by simp [hK])
    have HL0 := Lib.hid (hCL.2 (by simp [cloB, hK]))
    clear hn h
    go_enter Tryz.func21, Tryz.ntmps21
    go_wp2_with fail
    refine (redMs_any f A B C A0 HN.out).mono ?_
    rintro e w1 ⟨v1, he, hv, _, hb1⟩
    rw [HC.out] at he
    have hv1 : v1 = .slice none 0 0 := by simpa [HV.out] using hv
    subst hv1 he
    have B1 := bstep B0 hb1
    clear hv hb1 B0 A0 L0 L0c
    go_wp2
    go_ret2
    rw [HL0.out]
    exact LAns.nil HE.out.symm B1
  obtain ⟨ao, cap, rfl⟩ := srow_shape h
  have HC := Lib.hid (show cod6 f A B C (allOk f A B C xs) = 0 by simp [cod6, hF, hK])
  have HK := Lib.hid (show flB f A B C = true ∧ allOk f A B C xs = true from ⟨hF, hK⟩)
  have hn2 : (xs.length : Int) ≤ 1048576 := by omega
  by_cases h8 : xs.length ≤ 8
  · have HE := Lib.hid (show cod6 f A B C (cloB f A B C xs) = 0 by simp [cod6, hF, cloB, hK, h8])
    have HCL := Lib.hid (hCL.1 (by simp [hF, cloB, hK, h8]))
    obtain ⟨hf, hl⟩ := flB_parts hF
    have HFr := Lib.hid hf
    have HL := Lib.hid hl
    have HR := Lib.hid (all_good hK)
    have HU := Lib.hid hU
    have h8i : ¬ (8 : Int) < (xs.length : Int) := by omega
    have h8j : (xs.length : Int) ≤ 8 := by omega
    clear hf hl hF hK hn hU h hCL h8
    go_enter Tryz.func21, Tryz.ntmps21
    go_wp2_with fail
    refine (redMs_any f A B C A0 HN.out).mono ?_
    rintro e w1 ⟨v1, he, _, hr, hb1⟩
    rw [HC.out] at he
    subst he
    have O1 := hr HK.out.1 HK.out.2
    have L1 := L0.call hb1
    have B1 := bstep B0 hb1
    have U1 : UnitOK w1 := Kq.call HU.out B1
    clear hr hb1 B0 A0 L0 L0c
    have hml : (xs.map (redM A B C)).length = xs.length := List.length_map ..
    rw [← hml] at O1
    have S1 := SRow.big6 O1 (by rw [hml]; exact HN.out)
    have L1c := L1.cells
    have hml2 : (xs.map (redM A B C)).length ≤ 1048576 := by rw [hml]; exact HN.out
    clear hml O1
    go_wp2_with fail
    refine (closure_any f A B C HFr.out HL.out HR.out S1 hml2 U1).mono ?_
    rintro e w2 ⟨v2, L2, rfl, hC2, hr2, hb2⟩
    obtain rfl := clos_unique hC2 HCL.out
    have B2 := bstep B1 hb2
    have HLEN := Lib.hid (clos_len HFr.out HL.out HR.out hC2)
    have S2 := SRow.big6 hr2 (by have := HLEN.out; omega)
    clear S1 U1 L1 L1c B1 hb2 hml2 hC2 hr2
    go_wp2_with fail
    refine (asMotions_any S2 (by have := HLEN.out; omega)).mono ?_
    rintro e w3 ⟨v3, rfl, hr3, hb3⟩
    have z2 := B2.size
    have B3 := bstep B2 hb3
    have S3 : SRow w.heap.size w3.heap.size 6 v3 L2.length (fm L2) w3 := SRow.big6 (ownsRow_lower hr3 z2) (by have := HLEN.out; omega)
    clear S2 hr3 hb3 B2 z2
    go_wp2
    go_ret2
    exact ⟨_, ret_pair (by rfl) HE.out.symm, S3, B3⟩
  · have HE := Lib.hid (show cod6 f A B C (cloB f A B C xs) = 2 by simp [cod6, hF, cloB, h8])
    have HL0 := Lib.hid (hCL.2 (by simp [cloB, h8]))
    have h8i : (8 : Int) < (xs.length : Int) := by omega
    clear hF hK hn hU h hCL h8
    go_enter Tryz.func21, Tryz.ntmps21
    go_wp2_with fail
    refine (redMs_any f A B C A0 HN.out).mono ?_
    rintro e w1 ⟨v1, he, _, hr, hb1⟩
    rw [HC.out] at he
    subst he
    have B1 := bstep B0 hb1
    clear hr hb1 B0 A0 L0 L0c
    go_wp2
    go_ret2
    rw [HL0.out]
    exact LAns.nil HE.out.symm B1

theorem cod6_tt {f A B C : Int} {q : Bool} (h : flB f A B C = true) : cod6 f A B C q = if q = true then 0 else 2 := by rcases q with _ | _ <;> simp [cod6, h]
set_option maxRecDepth 100000 in
set_option maxHeartbeats 16000000 in
theorem specClose_any {lo hi : Nat} {v : Value} {xs L : List M6} {w : World} (f A B C : Int) (hCL : CloL f A B C xs L) (h : SRow lo hi 6 v xs.length (fm xs) w) (hn : xs.length ≤ 1048576) :
    Calls Tryz.prog 22 #[.int .i64 f, .agg #[.int .i64 A, .int .i64 B, .int .i64 C], v] w (LAns 6 L.length (fm L) (cod6 f A B C (cloB f A B C xs)) w) := by
  obtain ⟨i0, hinf, hz0, hz1, hz2⟩ := info_parts infoMo6
  have HCL := Lib.hid hCL
  have HN := Lib.hid hn
  have HA := Lib.hid h
  obtain ⟨ao, cap, rfl⟩ := srow_shape h
  have L0 : Kt w.heap.size A B C ((w.alloc (.cells #[.int .i64 A, .int .i64 B, .int .i64 C] 25)).alloc (.cells #[] 36)) := (Kt.at _ rfl).alloc _
  have B0 : Below w.heap.size w ((w.alloc (.cells #[.int .i64 A, .int .i64 B, .int .i64 C] 25)).alloc (.cells #[] 36)) := ((Below.refl _ _).alloc (Nat.le_refl _) _).alloc (by simp) _
  have O0 : KOwV (w.heap.size + 1) 36 (.slice (some ⟨w.heap.size + 1, 0, none⟩) 0 0) [] ((w.alloc (.cells #[.int .i64 A, .int .i64 B, .int .i64 C] 25)).alloc (.cells #[] 36)) := lit6 _ _ (by simp) (by simp)
  have hn2 : (xs.length : Int) ≤ 1048576 := by omega
  clear h hn hCL
  go_enter Tryz.func22, Tryz.ntmps22
  go_wp2_with fail
  go_loopw [8, 9, 10] (fun s8 s9 s10 W => ∃ (k : Nat) (q : Bool), s8 = .bool q ∧ s10 = .int .i64 (k : Int) ∧ k ≤ xs.length ∧ (q = true → xs.length ≤ 8 ∧ allOk f A B C (xs.take k) = true) ∧ (q = false → cloB f A B C xs = false) ∧ (q = true → W.ownsRow (w.heap.size + 1) 36 6 s9 ((xs.take k).map (redM A B C)).length (cells6 ((xs.take k).map (redM A B C)))) ∧ Kt w.heap.size A B C W ∧ Below w.heap.size w W) (fun _ _ s10 _ => xs.length + 1 - (intOf s10).toNat)
  case atStart => exact ⟨0, decide ((xs.length : Int) ≤ 8), rfl, rfl, by omega, (fun h => ⟨(by have := of_decide_eq_true h; omega), by simp [allOk]⟩), (fun h => by have := of_decide_eq_false h; have h2 : ¬ xs.length ≤ 8 := (by omega); simp [cloB, h2]), fun _ => O0, L0, B0⟩
  case round =>
    clear L0 B0 O0
    obtain ⟨k, q, rfl, rfl, hk, hq1, hq2, hown, hL, hB⟩ := hrel
    rcases q with _ | _
    · have HE := Lib.hid (hq2 rfl)
      have CC := Lib.hid (fun W => l06Code_any f A B C false W)
      clear hq1 hq2 hown
      have hLc := hL.cells
      go_wp2_with fail
      refine (CC.out _).mono ?_
      rintro e w1 ⟨rfl, hb1⟩
      have B1 := bstep hB hb1
      have HL0 := Lib.hid (HCL.out.2 (by rw [HE.out]; simp))
      have HC : Hid (cod6 f A B C false = cod6 f A B C (cloB f A B C xs)) := Lib.hid (by rw [HE.out])
      have hne : (cod6 f A B C false != 0) = true := by rcases hF : flB f A B C with _ | _ <;> simp [cod6, hF]
      clear hb1 hB hL hLc CC
      generalize cod6 f A B C false = cc at HC hne
      go_wp2
      go_ret2
      rw [HL0.out]
      exact LAns.nil HC.out B1
    · obtain ⟨h8, hok⟩ := hq1 rfl
      have HOK := Lib.hid (show xs.length ≤ 8 ∧ allOk f A B C (xs.take k) = true from ⟨h8, hok⟩)
      replace hown := hown rfl
      clear hq1 hq2 h8 hok
      by_cases hk1 : k < xs.length
      · have hk2 : (k : Int) < (xs.length : Int) := by omega
        have hk3 : (k : Int) ≤ 1048576 := by omega
        have hres := HA.out.2.2.resolve_left (fun h => by omega)
        have hhi := HA.out.1
        obtain ⟨g, cap', e9, _, hg, RA⟩ := hres
        simp only [Value.slice.injEq, true_and] at e9
        obtain ⟨rfl, rfl⟩ := e9
        have hgl : g < w.heap.size := by omega
        have q1 := (RA.grow hB hgl).mo k hk1
        have HM := Lib.hid (redM_take (A := A) (B := B) (C := C) hk1)
        have HO := Lib.hid (allOk_take (f := f) (A := A) (B := B) (C := C) hk1)
        have HBd := Lib.hid (fun hb => allOk_bad (f := f) (A := A) (B := B) (C := C) hk1 hb)
        have HK := Lib.hid hk1
        have HT := Lib.hid (show ((xs.take k).map (redM A B C)).length ≤ 1048576 by simp; omega)
        clear RA hg hhi hk
        generalize xs[k] = m at q1 HM HO HBd
        clear hk1
        generalize (xs.take k).map (redM A B C) = ys at hown HM HT
        obtain ⟨a, b, c, d, x, y⟩ := m
        dsimp only at q1
        have CS := Lib.hid (fun W => specSuit_any f A B C a b c d x y W)
        rw [suit_ok] at CS
        have q1c := q1.cells
        have hLc := hL.cells
        have hLl := hL.1
        rcases hs : okM f A B C (a, b, c, d, x, y) with _ | _
        · have hbad := HBd.out hs
          have HBAD := Lib.hid (show cloB f A B C xs = false by simp [cloB, hbad])
          rw [hs] at CS
          clear hs hbad hown HO HBd HM
          go_wp2_with fail
          go_region_held3 (fun W => (W.cell? ⟨w.heap.size, 0, none⟩ = some (.int .i64 A) ∧ W.cell? ⟨w.heap.size, 1, none⟩ = some (.int .i64 B) ∧ W.cell? ⟨w.heap.size, 2, none⟩ = some (.int .i64 C)) ∧ (W.cell? ⟨g, k * 6, none⟩ = some (.int .i64 a) ∧ W.cell? ⟨g, k * 6 + 1, none⟩ = some (.int .i64 b) ∧ W.cell? ⟨g, k * 6 + 2, none⟩ = some (.int .i64 c) ∧ W.cell? ⟨g, k * 6 + 3, none⟩ = some (.int .i64 d) ∧ W.cell? ⟨g, k * 6 + 4, none⟩ = some (.int .i64 x) ∧ W.cell? ⟨g, k * 6 + 5, none⟩ = some (.int .i64 y))) ((refine And.intro (Kt.cells ?_) (Ko6.cells ?_)) <;> repeat (first | with_reducible assumption | with_reducible refine Kt.drew ?_ | with_reducible refine Kt.alloc ?_ _ | with_reducible refine Kt.call ?_ (by with_reducible assumption) | with_reducible refine Ko6.drew ?_ | with_reducible refine Ko6.alloc ?_ _ | with_reducible refine Ko6.call ?_ (by with_reducible assumption)))
            (first
              | (go_at_call 96; with_reducible refine (CS.out _).mono ?_; rintro e u1 ⟨rfl, hb1⟩; have L1 : Kt w.heap.size A B C u1 := (by repeat (first | with_reducible assumption | with_reducible refine Kt.drew ?_ | with_reducible refine Kt.alloc ?_ _ | with_reducible refine Kt.call ?_ (by with_reducible assumption) | with_reducible refine Ko6.drew ?_ | with_reducible refine Ko6.alloc ?_ _ | with_reducible refine Ko6.call ?_ (by with_reducible assumption))); have X1 : Ko6 g (k * 6) a b c d x y u1 := (by repeat (first | with_reducible assumption | with_reducible refine Kt.drew ?_ | with_reducible refine Kt.alloc ?_ _ | with_reducible refine Kt.call ?_ (by with_reducible assumption) | with_reducible refine Ko6.drew ?_ | with_reducible refine Ko6.alloc ?_ _ | with_reducible refine Ko6.call ?_ (by with_reducible assumption))); have B1 : Below w.heap.size w u1 := (by repeat (first | with_reducible assumption | with_reducible exact Below.refl _ _ | with_reducible refine Below.alloc ?_ (by first | omega | (simp <;> omega)) _ | with_reducible refine bstep ?_ (by with_reducible assumption) | with_reducible refine Below.drew ?_))))
          all_goals
            go_wp2
            go_roundw
            case rel => exact ⟨k + 1, false, rfl, by go_num, by have := HK.out; omega, (fun h => by cases h), fun _ => HBAD.out, (fun h => by cases h), by repeat (first | with_reducible assumption | with_reducible refine Kt.drew ?_ | with_reducible refine Kt.alloc ?_ _ | with_reducible refine Kt.call ?_ (by with_reducible assumption) | with_reducible refine Ko6.drew ?_ | with_reducible refine Ko6.alloc ?_ _ | with_reducible refine Ko6.call ?_ (by with_reducible assumption)), by repeat (first | with_reducible assumption | with_reducible exact Below.refl _ _ | with_reducible refine Below.alloc ?_ (by first | omega | (simp <;> omega)) _ | with_reducible refine bstep ?_ (by with_reducible assumption) | with_reducible refine Below.drew ?_)⟩
            case measure => (have := HK.out); first | (simp [intOf]; done) | (simp [intOf]; omega)
        · obtain ⟨hl, hx, hy⟩ := ok_mid hs
          have CR : Hid (∀ W, Calls Tryz.prog 97 #[.agg #[.int .i64 A, .int .i64 B, .int .i64 C], .agg #[.int .i64 a, .int .i64 b, .int .i64 c, .int .i64 d, .int .i64 x, .int .i64 y]] W fun e w' => e = .returned (.agg #[.int .i64 a, .int .i64 b, .int .i64 c, .int .i64 d, .int .i64 (redX A B C x y), .int .i64 (redY C y)]) ∧ Below W.heap.size W w') := Lib.hid (fun W => l06Reduce_any A B C a b c d x y W hl hx hy)
          have HR : Hid (redM A B C (a, b, c, d, x, y) = (a, b, c, d, redX A B C x y, redY C y)) := Lib.hid rfl
          have HS := Lib.hid hs
          rw [hs] at CS
          clear hs hl hx hy HBd
          generalize redX A B C x y = p at CR HR
          generalize redY C y = q at CR HR
          go_wp2_with fail
          go_region_held3 (fun W => (W.cell? ⟨w.heap.size, 0, none⟩ = some (.int .i64 A) ∧ W.cell? ⟨w.heap.size, 1, none⟩ = some (.int .i64 B) ∧ W.cell? ⟨w.heap.size, 2, none⟩ = some (.int .i64 C)) ∧ (W.cell? ⟨g, k * 6, none⟩ = some (.int .i64 a) ∧ W.cell? ⟨g, k * 6 + 1, none⟩ = some (.int .i64 b) ∧ W.cell? ⟨g, k * 6 + 2, none⟩ = some (.int .i64 c) ∧ W.cell? ⟨g, k * 6 + 3, none⟩ = some (.int .i64 d) ∧ W.cell? ⟨g, k * 6 + 4, none⟩ = some (.int .i64 x) ∧ W.cell? ⟨g, k * 6 + 5, none⟩ = some (.int .i64 y))) ((refine And.intro (Kt.cells ?_) (Ko6.cells ?_)) <;> repeat (first | with_reducible assumption | with_reducible refine Kt.drew ?_ | with_reducible refine Kt.alloc ?_ _ | with_reducible refine Kt.call ?_ (by with_reducible assumption) | with_reducible refine Ko6.drew ?_ | with_reducible refine Ko6.alloc ?_ _ | with_reducible refine Ko6.call ?_ (by with_reducible assumption)))
            (first
              | (go_at_call 96; with_reducible refine (CS.out _).mono ?_; rintro e u1 ⟨rfl, hb1⟩; have L1 : Kt w.heap.size A B C u1 := (by repeat (first | with_reducible assumption | with_reducible refine Kt.drew ?_ | with_reducible refine Kt.alloc ?_ _ | with_reducible refine Kt.call ?_ (by with_reducible assumption) | with_reducible refine Ko6.drew ?_ | with_reducible refine Ko6.alloc ?_ _ | with_reducible refine Ko6.call ?_ (by with_reducible assumption))); have X1 : Ko6 g (k * 6) a b c d x y u1 := (by repeat (first | with_reducible assumption | with_reducible refine Kt.drew ?_ | with_reducible refine Kt.alloc ?_ _ | with_reducible refine Kt.call ?_ (by with_reducible assumption) | with_reducible refine Ko6.drew ?_ | with_reducible refine Ko6.alloc ?_ _ | with_reducible refine Ko6.call ?_ (by with_reducible assumption))); have O1 : u1.ownsRow (w.heap.size + 1) 36 6 u9 ys.length (cells6 ys) := (by repeat (first | with_reducible assumption | with_reducible refine ownsRow_call ?_ (by with_reducible assumption) | with_reducible refine ownsRow_call ?_ (Below.drew (Below.refl _ _)) | with_reducible refine ownsRow_call ?_ (Below.alloc (Below.refl _ _) (Nat.le_refl _) _))); have B1 : Below w.heap.size w u1 := (by repeat (first | with_reducible assumption | with_reducible exact Below.refl _ _ | with_reducible refine Below.alloc ?_ (by first | omega | (simp <;> omega)) _ | with_reducible refine bstep ?_ (by with_reducible assumption) | with_reducible refine Below.drew ?_))))
          all_goals
            have l1 : w.heap.size < u1.heap.size := L1.1
            have z1 := B1.size
            have q1c := X1.cells
            have hLc := L1.cells
            have HQ : Hid (∀ r, u9.ownBlock = some r → w.heap.size + 1 ≤ r) := Lib.hid (fun r hr => (O1.lt r hr).1)
            go_wp2_with fail
            go_region_held3 (fun W => (W.cell? ⟨w.heap.size, 0, none⟩ = some (.int .i64 A) ∧ W.cell? ⟨w.heap.size, 1, none⟩ = some (.int .i64 B) ∧ W.cell? ⟨w.heap.size, 2, none⟩ = some (.int .i64 C)) ∧ (W.cell? ⟨g, k * 6, none⟩ = some (.int .i64 a) ∧ W.cell? ⟨g, k * 6 + 1, none⟩ = some (.int .i64 b) ∧ W.cell? ⟨g, k * 6 + 2, none⟩ = some (.int .i64 c) ∧ W.cell? ⟨g, k * 6 + 3, none⟩ = some (.int .i64 d) ∧ W.cell? ⟨g, k * 6 + 4, none⟩ = some (.int .i64 x) ∧ W.cell? ⟨g, k * 6 + 5, none⟩ = some (.int .i64 y))) ((refine And.intro (Kt.cells ?_) (Ko6.cells ?_)) <;> repeat (first | with_reducible assumption | with_reducible refine Kt.drew ?_ | with_reducible refine Kt.alloc ?_ _ | with_reducible refine Kt.call ?_ (by with_reducible assumption) | with_reducible refine Ko6.drew ?_ | with_reducible refine Ko6.alloc ?_ _ | with_reducible refine Ko6.call ?_ (by with_reducible assumption)))
              (first
                | (go_at_call 97; with_reducible refine (CR.out _).mono ?_; rintro e u2 ⟨rfl, hb2⟩; have L2 : Kt w.heap.size A B C u2 := (by repeat (first | with_reducible assumption | with_reducible refine Kt.drew ?_ | with_reducible refine Kt.alloc ?_ _ | with_reducible refine Kt.call ?_ (by with_reducible assumption) | with_reducible refine Ko6.drew ?_ | with_reducible refine Ko6.alloc ?_ _ | with_reducible refine Ko6.call ?_ (by with_reducible assumption))); have X2 : Ko6 g (k * 6) a b c d x y u2 := (by repeat (first | with_reducible assumption | with_reducible refine Kt.drew ?_ | with_reducible refine Kt.alloc ?_ _ | with_reducible refine Kt.call ?_ (by with_reducible assumption) | with_reducible refine Ko6.drew ?_ | with_reducible refine Ko6.alloc ?_ _ | with_reducible refine Ko6.call ?_ (by with_reducible assumption))); have O2 : u2.ownsRow (w.heap.size + 1) 36 6 u9 ys.length (cells6 ys) := (by repeat (first | with_reducible assumption | with_reducible refine ownsRow_call ?_ (by with_reducible assumption) | with_reducible refine ownsRow_call ?_ (Below.drew (Below.refl _ _)) | with_reducible refine ownsRow_call ?_ (Below.alloc (Below.refl _ _) (Nat.le_refl _) _))); have B2 : Below w.heap.size w u2 := (by repeat (first | with_reducible assumption | with_reducible exact Below.refl _ _ | with_reducible refine Below.alloc ?_ (by first | omega | (simp <;> omega)) _ | with_reducible refine bstep ?_ (by with_reducible assumption) | with_reducible refine Below.drew ?_)); have zz2 := B2.size; have l2 := kt_lt L2)
                | (rw [if_pos (by rfl)]; refine wp_append_own _ _ _ 26 rfl (w.heap.size + 1) 36 i0 (.agg #[.int .i64 0, .int .i64 0, .int .i64 0, .int .i64 0, .int .i64 0, .int .i64 0]) 6 48 Tryz.underlying26 hinf hz0 hz1 hz2 rfl (by decide) _ _ _ rfl (O2.alloc _) ⟨u2.heap.size, 0, none⟩ 1 1 [.int .i64 a, .int .i64 b, .int .i64 c, .int .i64 d, .int .i64 p, .int .i64 q] rfl rfl (new_six _ _ _ _ _ _ _ rfl) one_six (by have := HT.out; unfold maxLen; omega) (by have := HT.out; omega) (by (try simp); omega) ?_; intro v9 w9 hown9 hgrow _; have O9 : w9.ownsRow (w.heap.size + 1) 36 6 v9 (ys ++ [(a, b, c, d, p, q)]).length (cells6 (ys ++ [(a, b, c, d, p, q)])) := own_next6 hown9; have B9 : Below w.heap.size w w9 := Below.grown (B2.alloc zz2 _) hgrow (by simp; omega) (fun r hr => by have := HQ.out _ hr; omega); have L9 : Kt w.heap.size A B C w9 := Kt.grown (Kt.alloc L2 _) hgrow (fun e => by have := HQ.out _ e.symm; omega); have X9 : Ko6 g (k * 6) a b c d x y w9 := Ko6.grown (Ko6.alloc X2 _) hgrow (fun e => by have h9 := HQ.out _ e.symm; omega)))
            all_goals
              have o9 := O9
              have l9 := L9
              have b9 := B9
              clear O9 L9 B9 X9 hown9 hgrow L1 X1 B1
              go_wp2
              go_roundw
              case rel => exact ⟨k + 1, true, rfl, by go_num, by have := HK.out; omega, fun _ => ⟨HOK.out.1, by rw [HO.out, HOK.out.2, HS.out]; rfl⟩, (fun h => by cases h), (fun _ => by rw [HM.out, HR.out]; exact o9), l9, b9⟩
              case measure => (have := HK.out); first | (simp [intOf]; done) | (simp [intOf]; omega)
      · obtain rfl : k = xs.length := by omega
        rw [List.take_length] at hown HOK
        have HEQ := Lib.hid (show cloB f A B C xs = true by simp [cloB, HOK.out.1, HOK.out.2])
        have CC := Lib.hid (fun W => l06Code_any f A B C true W)
        have hLc := hL.cells
        clear hk hk1
        rcases hF : flB f A B C with _ | _
        · have HC : Hid (cod6 f A B C (cloB f A B C xs) = 1) := Lib.hid (by simp [cod6, hF])
          have HL0 := Lib.hid (HCL.out.2 (by rw [hF]; simp))
          rw [show cod6 f A B C true = 1 by simp [cod6, hF]] at CC
          clear hF
          go_wp2_with fail
          refine (CC.out _).mono ?_
          rintro e w1 ⟨rfl, hb1⟩
          have B1 := bstep hB hb1
          clear hb1 hB hL hLc CC
          go_wp2
          go_ret2
          rw [HL0.out]
          exact LAns.nil HC.out.symm B1
        · have HC : Hid (cod6 f A B C (cloB f A B C xs) = 0) := Lib.hid (by simp [cod6, hF, HEQ.out])
          have HL1 := Lib.hid (HCL.out.1 (by rw [hF, HEQ.out]; rfl))
          rw [show cod6 f A B C true = 0 by simp [cod6, hF]] at CC
          obtain ⟨hf, hl⟩ := flB_parts hF
          have HFr := Lib.hid hf
          have HLt := Lib.hid hl
          have HR := Lib.hid (all_good HOK.out.2)
          clear hF hf hl
          go_wp2_with fail
          refine (CC.out _).mono ?_
          rintro e w1 ⟨rfl, hb1⟩
          have B1 := bstep hB hb1
          have L1 := hL.call hb1
          have O1 := ownsRow_call hown hb1
          have hml : (xs.map (redM A B C)).length ≤ 1048576 := by rw [List.length_map]; exact HN.out
          have S1 := SRow.big6 O1 hml
          have L1c := L1.cells
          clear hb1 hB hL hLc CC hown O1
          go_wp2_with fail
          refine (l06Close_any f A B C HFr.out HLt.out HR.out S1 hml).mono ?_
          rintro e w2 ⟨g2, cap2, O2, rfl, hC2, hK2, hb2⟩
          obtain rfl := clos_unique hC2 HL1.out
          have HLEN := Lib.hid (clos_len HFr.out HLt.out HR.out hC2)
          have z1 := B1.size
          have B2 := bstep B1 hb2
          have S2 : SRow w.heap.size w2.heap.size 6 (.slice (some ⟨g2, 0, none⟩) O2.length cap2) O2.length (fm O2) w2 := SRow.big6 (ownsRow_lower (show w2.ownsRow w1.heap.size _ 6 _ _ _ from hK2) z1) (by have := HLEN.out; omega)
          clear S1 B1 L1 L1c hml hC2 hK2 hb2 z1
          go_wp2
          go_ret2
          exact ⟨_, ret_pair (by rfl) HC.out.symm, S2, B2⟩
end
end Go.Proofs.YtmadgbbkkkibcaaGreatDoor

