/-
  The contract of the model's closure: the new slice holds, in order, just the motions that a list of suitable and reduced motions reaches. Condition: the list's length is below the model's bound.
-/
import Derived.Test.YtkfeajjpbmbmpaaGreatDoorPl6
import Derived.Test.YtkfeajjpbmbmpaaGreatDoorMo3
import Derived.Deep.RegionHeld3
import Derived.IntWalk
namespace Go.Proofs.YtkfeajjpbmbmpaaGreatDoor
open Go.RowKit
set_option linter.unusedSimpArgs false
set_option linter.unusedVariables false

def NextCutS (w : World) (A B C : Int) (gq cq go co : Nat) (Q O : List M6) (m : M6) (s : Value) (wx : World) : Prop :=
  ∃ gn : Nat, s = .pointer (some ⟨gn, 0, none⟩) ∧ KM gn m.1 m.2.1 m.2.2.1 m.2.2.2.1 m.2.2.2.2.1 m.2.2.2.2.2 wx ∧ Kt w.heap.size A B C wx ∧ KOw gq (w.heap.size + 1) cq 37 Q wx ∧ KOw go (w.heap.size + 1) co 37 O wx ∧ Below w.heap.size w wx
def ClosS (A B C : Int) (R : List M6) (w : World) (e : Ending) (w' : World) : Prop :=
  ∃ (g cap : Nat) (O : List M6), e = .returned (.slice (some ⟨g, 0, none⟩) O.length cap) ∧ IsClos A B C R O ∧ KOw g w.heap.size cap 37 O w' ∧ Below w.heap.size w w'
theorem KOw.one {W : World} {base g : Nat} {T : TypeId} (m : M6) (hg : g = W.heap.size) (hb : base ≤ W.heap.size) : KOw g base 1 T [m] (W.alloc (.cells #[.int .i64 m.1, .int .i64 m.2.1, .int .i64 m.2.2.1, .int .i64 m.2.2.2.1, .int .i64 m.2.2.2.2.1, .int .i64 m.2.2.2.2.2] T)) := by
  subst hg
  have h := World.ownsRow_lit (base := base) (e := T) (size := 6) W #[.int .i64 m.1, .int .i64 m.2.1, .int .i64 m.2.2.1, .int .i64 m.2.2.2.1, .int .i64 m.2.2.2.2.1, .int .i64 m.2.2.2.2.2] 1 hb (by unfold maxLen; omega) rfl
  exact h
theorem KOw.lower {g base base' cap : Nat} {T : TypeId} {Q : List M6} {W : World} (h : KOw g base cap T Q W) (hb : base' ≤ base) : KOw g base' cap T Q W := ownsRow_lower h hb
theorem kow_lt {g base cap : Nat} {T : TypeId} {Q : List M6} {W : World} (h : KOw g base cap T Q W) : g < W.heap.size := (KOw.lt h).2
theorem up_one (m : M6) : Up [m] := List.pairwise_singleton _ _
set_option maxRecDepth 100000 in
set_option maxHeartbeats 16000000 in
theorem l06Close_any {lo hi : Nat} {v : Value} {R : List M6} {w : World} (f A B C : Int) (hf : frB f = true) (hl : latI A B C) (hR : GoodR f A B C R) (h : SRow lo hi 6 v R.length (fm R) w) (hn : R.length ≤ 1048576) :
    Calls Tryz.prog 158 #[.agg #[.int .i64 A, .int .i64 B, .int .i64 C], v] w (ClosS A B C R w) := by
  obtain ⟨i0, hinf, hz0, hz1, hz2⟩ := info_parts infoMo6
  have L0 : Kt w.heap.size A B C (w.alloc (.cells #[.int .i64 A, .int .i64 B, .int .i64 C] 25)) := Kt.at _ rfl
  have B0 : Below w.heap.size w (w.alloc (.cells #[.int .i64 A, .int .i64 B, .int .i64 C] 25)) := (Below.refl _ _).alloc (Nat.le_refl _) _
  have HR := Lib.hid hR
  have HN := Lib.hid hn
  have HF := Lib.hid hf
  have HL := Lib.hid hl
  have HA := Lib.hid h
  clear hR hn hf hl h
  go_enter Tryz.func158, Tryz.ntmps158
  go_wp2_with fail
  refine (l06Unit_any _).mono ?_
  rintro e w1 ⟨rfl, hb1⟩
  have L1 := L0.call hb1
  have B1 := bstep B0 hb1
  have z1 := kt_lt L1
  have O1 : KOw w1.heap.size (w.heap.size + 1) 1 37 [oneM] (w1.alloc (.cells #[.int .i64 1, .int .i64 0, .int .i64 0, .int .i64 1, .int .i64 0, .int .i64 0] 37)) := KOw.one oneM rfl (by omega)
  clear hb1 L0 B0
  go_wp2_with fail
  refine (l06Unit_any _).mono ?_
  rintro e w2 ⟨rfl, hb2⟩
  have L2 := Kt.call (Kt.alloc L1 _) hb2
  have O2 := O1.call hb2
  have B2 := bstep (Below.alloc B1 (by omega) _) hb2
  have z2 := kt_lt L2
  have Q2 : KOw w2.heap.size (w.heap.size + 1) 1 37 [oneM] (w2.alloc (.cells #[.int .i64 1, .int .i64 0, .int .i64 0, .int .i64 1, .int .i64 0, .int .i64 0] 37)) := KOw.one oneM rfl (by omega)
  have L3 : Kt w.heap.size A B C (w2.alloc (.cells #[.int .i64 1, .int .i64 0, .int .i64 0, .int .i64 1, .int .i64 0, .int .i64 0] 37)) := L2.alloc _
  have O3 : KOw w1.heap.size (w.heap.size + 1) 1 37 [oneM] (w2.alloc (.cells #[.int .i64 1, .int .i64 0, .int .i64 0, .int .i64 1, .int .i64 0, .int .i64 0] 37)) := O2.alloc _
  have B3 : Below w.heap.size w (w2.alloc (.cells #[.int .i64 1, .int .i64 0, .int .i64 0, .int .i64 1, .int .i64 0, .int .i64 0] 37)) := Below.alloc B2 (by omega) _
  clear hb2 L1 L2 O1 O2 B1 B2
  go_wp2_with fail
  go_loopw [5, 6, 7] (fun s5 s6 s7 W => ∃ i : Nat, s7 = .int .i64 (i : Int) ∧ ∃ (Q O : List M6) (gq cq go co : Nat), Grows A B C R Q i 0 ∧ i ≤ Q.length ∧ s6 = .slice (some ⟨gq, 0, none⟩) Q.length cq ∧ s5 = .slice (some ⟨go, 0, none⟩) O.length co ∧ KOw gq (w.heap.size + 1) cq 37 Q W ∧ KOw go (w.heap.size + 1) co 37 O W ∧ Up O ∧ (∀ m, m ∈ O ↔ m ∈ Q) ∧ Kt w.heap.size A B C W ∧ Below w.heap.size w W) (fun _ _ s7 _ => 769 - (intOf s7).toNat)
  case atStart => exact ⟨0, rfl, [oneM], [oneM], _, _, _, _, Grows.start A B C R, by simp, rfl, rfl, Q2, O3, up_one _, fun m => Iff.rfl, L3, B3⟩
  case round =>
    clear Q2 L3 O3 B3 z1 z2
    obtain ⟨i, rfl, Q, O, gq, cq, go, co, hG, hi, rfl, rfl, hQ, hO, hUp, hMem, hL, hB⟩ := hrel
    have hQl : Q.length ≤ 768 := hG.len HF.out HL.out HR.out
    have hi' : (i : Int) ≤ 768 := by omega
    by_cases hi1 : i < Q.length
    · have hi2 : (i : Int) < (Q.length : Int) := by omega
      obtain ⟨_, _, h1⟩ := id HA.out
      by_cases hz : R.length = 0
      · obtain ⟨ao, cap', rfl⟩ : ∃ ao cap, v = .slice ao 0 cap := by
          rcases h1 with ⟨_, h⟩ | ⟨g', cap', h, _⟩
          · exact h
          · exact ⟨_, cap', by rw [h, hz]⟩
        have hG1 : Grows A B C R Q (i + 1) 0 := Grows.next (by rw [hz]; exact hG)
        clear h1 hG hz
        go_wp2_with fail
        go_loopw [5, 6, 8] (fun s5 s6 s8 W => s5 = .slice (some ⟨go, 0, none⟩) O.length co ∧ s6 = .slice (some ⟨gq, 0, none⟩) Q.length cq ∧ s8 = .int .i64 ((0 : Nat) : Int) ∧ W = wr) (fun _ _ _ _ => 0)
        case atStart => exact ⟨rfl, rfl, rfl, rfl⟩
        case round =>
          obtain ⟨rfl, rfl, rfl, rfl⟩ := hrel
          go_wp2
          go_roundw
          case rel => exact ⟨i + 1, by go_num, Q, O, gq, cq, go, co, hG1, by omega, rfl, rfl, hQ, hO, hUp, hMem, hL, hB⟩
          case measure => first | (simp [intOf]; done) | (simp [intOf]; omega)
      · obtain ⟨ga, cap', rfl, _, hga, RA⟩ := h1.resolve_left (fun h => hz h.1)
        have hRA := HA.out.1
        have HRA := Lib.hid (show IRow ga (R.length * 6) (fm R) w ∧ ga < w.heap.size from ⟨RA, by omega⟩)
        clear h1 hz RA hga hRA
        go_wp2_with fail
        go_loopw [5, 6, 8] (fun s5 s6 s8 W => ∃ k : Nat, s8 = .int .i64 (k : Int) ∧ ∃ (Q O : List M6) (gq cq go co : Nat), i < Q.length ∧ Grows A B C R Q i k ∧ k ≤ R.length ∧ s6 = .slice (some ⟨gq, 0, none⟩) Q.length cq ∧ s5 = .slice (some ⟨go, 0, none⟩) O.length co ∧ KOw gq (w.heap.size + 1) cq 37 Q W ∧ KOw go (w.heap.size + 1) co 37 O W ∧ Up O ∧ (∀ m, m ∈ O ↔ m ∈ Q) ∧ Kt w.heap.size A B C W ∧ Below w.heap.size w W) (fun _ _ s8 _ => R.length - (intOf s8).toNat)
        case atStart => exact ⟨0, rfl, Q, O, gq, cq, go, co, hi1, hG, by omega, rfl, rfl, hQ, hO, hUp, hMem, hL, hB⟩
        case round =>
          clear hG hi1 hi2 hQl hQ hO hUp hMem hL hB
          have hi0 := hi'
          clear hi
          obtain ⟨k, rfl, Q, O, gq, cq, go, co, hi, hG, hk, rfl, rfl, hQ, hO, hUp, hMem, hL, hB⟩ := hrel
          have hQl : Q.length ≤ 768 := hG.len HF.out HL.out HR.out
          have hi2 : (i : Int) < (Q.length : Int) := by omega
          by_cases hk1 : k < R.length
          · have hk2 : (k : Int) < (R.length : Int) := by omega
            have hn := HN.out
            have hk3 : (k : Int) ≤ 1048576 := by omega
            have hOl : O.length ≤ Q.length := nodup_len O Q hUp.nodup fun m h => (hMem m).1 h
            have q1 := (HRA.out.1.grow hB HRA.out.2).mo k hk1
            have o1 := hQ.mo (by omega) i hi
            have HH := Lib.hid (fun h => hG.has hi hk1 h)
            have HD := Lib.hid (fun h => hG.adds hi hk1 h)
            have gm := HR.out _ (List.getElem_mem hk1)
            have gn := (hG.good HL.out HR.out) _ (List.getElem_mem hi)
            have cf := cmp_facts HF.out HL.out gm gn
            have HK := Lib.hid (show k < R.length ∧ i < Q.length ∧ Q.length ≤ 768 ∧ O.length ≤ 768 from ⟨hk1, hi, hQl, by omega⟩)
            have HU := Lib.hid hUp
            have HMm := Lib.hid hMem
            clear hG gm gn hUp hMem hOl
            generalize R[k] = m at q1 HH HD cf
            generalize Q[i] = n at o1 HH HD cf
            obtain ⟨a, b, c, d, x, y⟩ := m
            obtain ⟨a', b', c', d', x', y'⟩ := n
            dsimp only at q1 o1
            obtain ⟨f1, f2, f3, f4, f5, f6⟩ := cf
            have CA : Hid (∀ W, Calls Tryz.prog 165 #[.agg #[.int .i64 a, .int .i64 b, .int .i64 c, .int .i64 d, .int .i64 x, .int .i64 y], .agg #[.int .i64 a', .int .i64 b', .int .i64 c', .int .i64 d', .int .i64 x', .int .i64 y']] W fun e w' => e = .returned (.agg #[.int .i64 (a * a' + b * c'), .int .i64 (a * b' + b * d'), .int .i64 (c * a' + d * c'), .int .i64 (c * b' + d * d'), .int .i64 (a * x' + b * y' + x), .int .i64 (c * x' + d * y' + y)]) ∧ Below W.heap.size W w') := Lib.hid (fun W => l05Compose_any a b c d x y a' b' c' d' x' y' W f1 f2 f3 f4)
            have CR : Hid (∀ W, Calls Tryz.prog 157 #[.agg #[.int .i64 A, .int .i64 B, .int .i64 C], .agg #[.int .i64 (a * a' + b * c'), .int .i64 (a * b' + b * d'), .int .i64 (c * a' + d * c'), .int .i64 (c * b' + d * d'), .int .i64 (a * x' + b * y' + x), .int .i64 (c * x' + d * y' + y)]] W fun e w' => e = .returned (.agg #[.int .i64 (a * a' + b * c'), .int .i64 (a * b' + b * d'), .int .i64 (c * a' + d * c'), .int .i64 (c * b' + d * d'), .int .i64 (redX A B C (a * x' + b * y' + x) (c * x' + d * y' + y)), .int .i64 (redY C (c * x' + d * y' + y))]) ∧ Below W.heap.size W w') := Lib.hid (fun W => l06Reduce_any A B C _ _ _ _ _ _ W HL.out f5 f6)
            have HNX : Hid (mulM A B C (a, b, c, d, x, y) (a', b', c', d', x', y') = (a * a' + b * c', a * b' + b * d', c * a' + d * c', c * b' + d * d', redX A B C (a * x' + b * y' + x) (c * x' + d * y' + y), redY C (c * x' + d * y' + y))) := Lib.hid rfl
            clear f1 f2 f3 f4 f5 f6
            generalize a * a' + b * c' = e0 at CA CR HNX
            generalize a * b' + b * d' = e1 at CA CR HNX
            generalize c * a' + d * c' = e2 at CA CR HNX
            generalize c * b' + d * d' = e3 at CA CR HNX
            generalize a * x' + b * y' + x = e4 at CA CR HNX
            generalize c * x' + d * y' + y = e5 at CA CR HNX
            generalize redX A B C e4 e5 = p at CR HNX
            generalize redY C e5 = q at CR HNX
            generalize mulM A B C (a, b, c, d, x, y) (a', b', c', d', x', y') = nx at HH HD HNX
            have hnx := HNX.out
            subst hnx
            clear HNX
            have zB := hB.size
            have hLl := hL.1
            have hgl := ko_lt o1
            have hga := ko_lt q1
            have hgo := kow_lt hO
            have hgq := kow_lt hQ
            have q1c := q1.cells
            have o1c := o1.cells
            have hLc := hL.cells
            have hCO := Lib.hid (KOw.cap_le hO)
            go_upto_region 1 with fail
            go_cut [9] (fun s9 wx => NextCutS w A B C gq cq go co Q O (e0, e1, e2, e3, p, q) s9 wx)
            case first =>
              go_region_held3 (fun W => (W.cell? ⟨w.heap.size, 0, none⟩ = some (.int .i64 A) ∧ W.cell? ⟨w.heap.size, 1, none⟩ = some (.int .i64 B) ∧ W.cell? ⟨w.heap.size, 2, none⟩ = some (.int .i64 C)) ∧ (W.cell? ⟨ga, k * 6, none⟩ = some (.int .i64 a) ∧ W.cell? ⟨ga, k * 6 + 1, none⟩ = some (.int .i64 b) ∧ W.cell? ⟨ga, k * 6 + 2, none⟩ = some (.int .i64 c) ∧ W.cell? ⟨ga, k * 6 + 3, none⟩ = some (.int .i64 d) ∧ W.cell? ⟨ga, k * 6 + 4, none⟩ = some (.int .i64 x) ∧ W.cell? ⟨ga, k * 6 + 5, none⟩ = some (.int .i64 y)) ∧ (W.cell? ⟨gq, i * 6, none⟩ = some (.int .i64 a') ∧ W.cell? ⟨gq, i * 6 + 1, none⟩ = some (.int .i64 b') ∧ W.cell? ⟨gq, i * 6 + 2, none⟩ = some (.int .i64 c') ∧ W.cell? ⟨gq, i * 6 + 3, none⟩ = some (.int .i64 d') ∧ W.cell? ⟨gq, i * 6 + 4, none⟩ = some (.int .i64 x') ∧ W.cell? ⟨gq, i * 6 + 5, none⟩ = some (.int .i64 y'))) ((refine ⟨Kt.cells ?_, Ko6.cells ?_, Ko6.cells ?_⟩) <;> repeat (first | with_reducible assumption | with_reducible refine KM.drew ?_ | with_reducible refine KM.alloc ?_ _ | with_reducible refine KM.call ?_ (by with_reducible assumption) | with_reducible refine Km.drew ?_ | with_reducible refine Km.alloc ?_ _ | with_reducible refine Km.call ?_ (by with_reducible assumption) | with_reducible refine Kt.drew ?_ | with_reducible refine Kt.alloc ?_ _ | with_reducible refine Kt.call ?_ (by with_reducible assumption) | with_reducible refine Ko6.drew ?_ | with_reducible refine Ko6.alloc ?_ _ | with_reducible refine Ko6.call ?_ (by with_reducible assumption) | with_reducible refine KOw.drew ?_ | with_reducible refine KOw.alloc ?_ _ | with_reducible refine KOw.call ?_ (by with_reducible assumption) | ((with_reducible refine KOw.put ?_ ?_); (first | omega | (dsimp only; omega))) | ((with_reducible refine Ko6.put ?_ ?_); (first | omega | (dsimp only; omega))) | ((with_reducible refine KM.put ?_ ?_); (first | omega | (dsimp only; omega))) | ((with_reducible refine Km.put ?_ ?_); (first | omega | (dsimp only; omega))) | ((with_reducible refine Kt.put ?_ ?_); (first | omega | (dsimp only; omega))) | ((with_reducible refine KM.far ?_ ?_); (first | omega | (dsimp only; omega))) | ((with_reducible refine Km.far ?_ ?_); (first | omega | (dsimp only; omega)))))
                (first
                  | (go_at_call 165; with_reducible refine (CA.out _).mono ?_; rintro e u1 ⟨rfl, hb1⟩; have La1 : Kt w.heap.size A B C u1 := (by repeat (first | with_reducible assumption | with_reducible refine KM.drew ?_ | with_reducible refine KM.alloc ?_ _ | with_reducible refine KM.call ?_ (by with_reducible assumption) | with_reducible refine Km.drew ?_ | with_reducible refine Km.alloc ?_ _ | with_reducible refine Km.call ?_ (by with_reducible assumption) | with_reducible refine Kt.drew ?_ | with_reducible refine Kt.alloc ?_ _ | with_reducible refine Kt.call ?_ (by with_reducible assumption) | with_reducible refine Ko6.drew ?_ | with_reducible refine Ko6.alloc ?_ _ | with_reducible refine Ko6.call ?_ (by with_reducible assumption) | with_reducible refine KOw.drew ?_ | with_reducible refine KOw.alloc ?_ _ | with_reducible refine KOw.call ?_ (by with_reducible assumption))); have Oa1 : KOw go (w.heap.size + 1) co 37 O u1 := (by repeat (first | with_reducible assumption | with_reducible refine KM.drew ?_ | with_reducible refine KM.alloc ?_ _ | with_reducible refine KM.call ?_ (by with_reducible assumption) | with_reducible refine Km.drew ?_ | with_reducible refine Km.alloc ?_ _ | with_reducible refine Km.call ?_ (by with_reducible assumption) | with_reducible refine Kt.drew ?_ | with_reducible refine Kt.alloc ?_ _ | with_reducible refine Kt.call ?_ (by with_reducible assumption) | with_reducible refine Ko6.drew ?_ | with_reducible refine Ko6.alloc ?_ _ | with_reducible refine Ko6.call ?_ (by with_reducible assumption) | with_reducible refine KOw.drew ?_ | with_reducible refine KOw.alloc ?_ _ | with_reducible refine KOw.call ?_ (by with_reducible assumption))); have Qa1 : KOw gq (w.heap.size + 1) cq 37 Q u1 := (by repeat (first | with_reducible assumption | with_reducible refine KM.drew ?_ | with_reducible refine KM.alloc ?_ _ | with_reducible refine KM.call ?_ (by with_reducible assumption) | with_reducible refine Km.drew ?_ | with_reducible refine Km.alloc ?_ _ | with_reducible refine Km.call ?_ (by with_reducible assumption) | with_reducible refine Kt.drew ?_ | with_reducible refine Kt.alloc ?_ _ | with_reducible refine Kt.call ?_ (by with_reducible assumption) | with_reducible refine Ko6.drew ?_ | with_reducible refine Ko6.alloc ?_ _ | with_reducible refine Ko6.call ?_ (by with_reducible assumption) | with_reducible refine KOw.drew ?_ | with_reducible refine KOw.alloc ?_ _ | with_reducible refine KOw.call ?_ (by with_reducible assumption))); have Ra1 : Ko6 ga (k * 6) a b c d x y u1 := (by repeat (first | with_reducible assumption | with_reducible refine KM.drew ?_ | with_reducible refine KM.alloc ?_ _ | with_reducible refine KM.call ?_ (by with_reducible assumption) | with_reducible refine Km.drew ?_ | with_reducible refine Km.alloc ?_ _ | with_reducible refine Km.call ?_ (by with_reducible assumption) | with_reducible refine Kt.drew ?_ | with_reducible refine Kt.alloc ?_ _ | with_reducible refine Kt.call ?_ (by with_reducible assumption) | with_reducible refine Ko6.drew ?_ | with_reducible refine Ko6.alloc ?_ _ | with_reducible refine Ko6.call ?_ (by with_reducible assumption) | with_reducible refine KOw.drew ?_ | with_reducible refine KOw.alloc ?_ _ | with_reducible refine KOw.call ?_ (by with_reducible assumption))); have Na1 : Ko6 gq (i * 6) a' b' c' d' x' y' u1 := (by repeat (first | with_reducible assumption | with_reducible refine KM.drew ?_ | with_reducible refine KM.alloc ?_ _ | with_reducible refine KM.call ?_ (by with_reducible assumption) | with_reducible refine Km.drew ?_ | with_reducible refine Km.alloc ?_ _ | with_reducible refine Km.call ?_ (by with_reducible assumption) | with_reducible refine Kt.drew ?_ | with_reducible refine Kt.alloc ?_ _ | with_reducible refine Kt.call ?_ (by with_reducible assumption) | with_reducible refine Ko6.drew ?_ | with_reducible refine Ko6.alloc ?_ _ | with_reducible refine Ko6.call ?_ (by with_reducible assumption) | with_reducible refine KOw.drew ?_ | with_reducible refine KOw.alloc ?_ _ | with_reducible refine KOw.call ?_ (by with_reducible assumption))); have Ll1 := kt_lt La1; have Rl1 := ko_lt Ra1; have Nl1 := ko_lt Na1; have Ol1 := kow_lt Oa1; have Ql1 := kow_lt Qa1; (try ((refine useIt (P := KM wr.heap.size 0 0 0 0 0 0 u1) ?_ ?_); (repeat (first | with_reducible assumption | (with_reducible exact KM.at _ (by first | with_reducible rfl | (simp; done) | fail)) | with_reducible refine KM.drew ?_ | with_reducible refine KM.alloc ?_ _ | with_reducible refine KM.call ?_ (by with_reducible assumption) | with_reducible refine Km.drew ?_ | with_reducible refine Km.alloc ?_ _ | with_reducible refine Km.call ?_ (by with_reducible assumption) | with_reducible refine Kt.drew ?_ | with_reducible refine Kt.alloc ?_ _ | with_reducible refine Kt.call ?_ (by with_reducible assumption) | with_reducible refine Ko6.drew ?_ | with_reducible refine Ko6.alloc ?_ _ | with_reducible refine Ko6.call ?_ (by with_reducible assumption) | with_reducible refine KOw.drew ?_ | with_reducible refine KOw.alloc ?_ _ | with_reducible refine KOw.call ?_ (by with_reducible assumption))); intro Z1y0; have Z1y0c0 := Z1y0.c0; have Z1y0f0 := Z1y0.f0; have Z1y0c1 := Z1y0.c1; have Z1y0f1 := Z1y0.f1; have Z1y0c2 := Z1y0.c2; have Z1y0f2 := Z1y0.f2; have Z1y0c3 := Z1y0.c3; have Z1y0f3 := Z1y0.f3; have Z1y0c4 := Z1y0.c4; have Z1y0f4 := Z1y0.f4; have Z1y0c5 := Z1y0.c5; have Z1y0f5 := Z1y0.f5; have Z1y0l := Z1y0.lt)); have Ba1 : Below w.heap.size w u1 := (by repeat (first | with_reducible assumption | with_reducible exact Below.refl _ _ | with_reducible refine Below.alloc ?_ (by first | omega | (simp <;> omega)) _ | with_reducible refine bstep ?_ (by with_reducible assumption) | with_reducible refine Below.drew ?_)); have zz1 := Below.size Ba1)
                  | (go_at_call 157; with_reducible refine (CR.out _).mono ?_; rintro e u2 ⟨rfl, hb2⟩; have La2 : Kt w.heap.size A B C u2 := (by repeat (first | with_reducible assumption | with_reducible refine KM.drew ?_ | with_reducible refine KM.alloc ?_ _ | with_reducible refine KM.call ?_ (by with_reducible assumption) | with_reducible refine Km.drew ?_ | with_reducible refine Km.alloc ?_ _ | with_reducible refine Km.call ?_ (by with_reducible assumption) | with_reducible refine Kt.drew ?_ | with_reducible refine Kt.alloc ?_ _ | with_reducible refine Kt.call ?_ (by with_reducible assumption) | with_reducible refine Ko6.drew ?_ | with_reducible refine Ko6.alloc ?_ _ | with_reducible refine Ko6.call ?_ (by with_reducible assumption) | with_reducible refine KOw.drew ?_ | with_reducible refine KOw.alloc ?_ _ | with_reducible refine KOw.call ?_ (by with_reducible assumption))); have Oa2 : KOw go (w.heap.size + 1) co 37 O u2 := (by repeat (first | with_reducible assumption | with_reducible refine KM.drew ?_ | with_reducible refine KM.alloc ?_ _ | with_reducible refine KM.call ?_ (by with_reducible assumption) | with_reducible refine Km.drew ?_ | with_reducible refine Km.alloc ?_ _ | with_reducible refine Km.call ?_ (by with_reducible assumption) | with_reducible refine Kt.drew ?_ | with_reducible refine Kt.alloc ?_ _ | with_reducible refine Kt.call ?_ (by with_reducible assumption) | with_reducible refine Ko6.drew ?_ | with_reducible refine Ko6.alloc ?_ _ | with_reducible refine Ko6.call ?_ (by with_reducible assumption) | with_reducible refine KOw.drew ?_ | with_reducible refine KOw.alloc ?_ _ | with_reducible refine KOw.call ?_ (by with_reducible assumption))); have Qa2 : KOw gq (w.heap.size + 1) cq 37 Q u2 := (by repeat (first | with_reducible assumption | with_reducible refine KM.drew ?_ | with_reducible refine KM.alloc ?_ _ | with_reducible refine KM.call ?_ (by with_reducible assumption) | with_reducible refine Km.drew ?_ | with_reducible refine Km.alloc ?_ _ | with_reducible refine Km.call ?_ (by with_reducible assumption) | with_reducible refine Kt.drew ?_ | with_reducible refine Kt.alloc ?_ _ | with_reducible refine Kt.call ?_ (by with_reducible assumption) | with_reducible refine Ko6.drew ?_ | with_reducible refine Ko6.alloc ?_ _ | with_reducible refine Ko6.call ?_ (by with_reducible assumption) | with_reducible refine KOw.drew ?_ | with_reducible refine KOw.alloc ?_ _ | with_reducible refine KOw.call ?_ (by with_reducible assumption))); have Ra2 : Ko6 ga (k * 6) a b c d x y u2 := (by repeat (first | with_reducible assumption | with_reducible refine KM.drew ?_ | with_reducible refine KM.alloc ?_ _ | with_reducible refine KM.call ?_ (by with_reducible assumption) | with_reducible refine Km.drew ?_ | with_reducible refine Km.alloc ?_ _ | with_reducible refine Km.call ?_ (by with_reducible assumption) | with_reducible refine Kt.drew ?_ | with_reducible refine Kt.alloc ?_ _ | with_reducible refine Kt.call ?_ (by with_reducible assumption) | with_reducible refine Ko6.drew ?_ | with_reducible refine Ko6.alloc ?_ _ | with_reducible refine Ko6.call ?_ (by with_reducible assumption) | with_reducible refine KOw.drew ?_ | with_reducible refine KOw.alloc ?_ _ | with_reducible refine KOw.call ?_ (by with_reducible assumption))); have Na2 : Ko6 gq (i * 6) a' b' c' d' x' y' u2 := (by repeat (first | with_reducible assumption | with_reducible refine KM.drew ?_ | with_reducible refine KM.alloc ?_ _ | with_reducible refine KM.call ?_ (by with_reducible assumption) | with_reducible refine Km.drew ?_ | with_reducible refine Km.alloc ?_ _ | with_reducible refine Km.call ?_ (by with_reducible assumption) | with_reducible refine Kt.drew ?_ | with_reducible refine Kt.alloc ?_ _ | with_reducible refine Kt.call ?_ (by with_reducible assumption) | with_reducible refine Ko6.drew ?_ | with_reducible refine Ko6.alloc ?_ _ | with_reducible refine Ko6.call ?_ (by with_reducible assumption) | with_reducible refine KOw.drew ?_ | with_reducible refine KOw.alloc ?_ _ | with_reducible refine KOw.call ?_ (by with_reducible assumption))); have Ll2 := kt_lt La2; have Rl2 := ko_lt Ra2; have Nl2 := ko_lt Na2; have Ol2 := kow_lt Oa2; have Ql2 := kow_lt Qa2; (try ((refine useIt (P := KM wr.heap.size 0 0 0 0 0 0 u2) ?_ ?_); (repeat (first | with_reducible assumption | (with_reducible exact KM.at _ (by first | with_reducible rfl | (simp; done) | fail)) | with_reducible refine KM.drew ?_ | with_reducible refine KM.alloc ?_ _ | with_reducible refine KM.call ?_ (by with_reducible assumption) | with_reducible refine Km.drew ?_ | with_reducible refine Km.alloc ?_ _ | with_reducible refine Km.call ?_ (by with_reducible assumption) | with_reducible refine Kt.drew ?_ | with_reducible refine Kt.alloc ?_ _ | with_reducible refine Kt.call ?_ (by with_reducible assumption) | with_reducible refine Ko6.drew ?_ | with_reducible refine Ko6.alloc ?_ _ | with_reducible refine Ko6.call ?_ (by with_reducible assumption) | with_reducible refine KOw.drew ?_ | with_reducible refine KOw.alloc ?_ _ | with_reducible refine KOw.call ?_ (by with_reducible assumption))); intro Z2y0; have Z2y0c0 := Z2y0.c0; have Z2y0f0 := Z2y0.f0; have Z2y0c1 := Z2y0.c1; have Z2y0f1 := Z2y0.f1; have Z2y0c2 := Z2y0.c2; have Z2y0f2 := Z2y0.f2; have Z2y0c3 := Z2y0.c3; have Z2y0f3 := Z2y0.f3; have Z2y0c4 := Z2y0.c4; have Z2y0f4 := Z2y0.f4; have Z2y0c5 := Z2y0.c5; have Z2y0f5 := Z2y0.f5; have Z2y0l := Z2y0.lt)); (try ((refine useIt (P := KM u1.heap.size 0 0 0 0 0 0 u2) ?_ ?_); (repeat (first | with_reducible assumption | (with_reducible exact KM.at _ (by first | with_reducible rfl | (simp; done) | fail)) | with_reducible refine KM.drew ?_ | with_reducible refine KM.alloc ?_ _ | with_reducible refine KM.call ?_ (by with_reducible assumption) | with_reducible refine Km.drew ?_ | with_reducible refine Km.alloc ?_ _ | with_reducible refine Km.call ?_ (by with_reducible assumption) | with_reducible refine Kt.drew ?_ | with_reducible refine Kt.alloc ?_ _ | with_reducible refine Kt.call ?_ (by with_reducible assumption) | with_reducible refine Ko6.drew ?_ | with_reducible refine Ko6.alloc ?_ _ | with_reducible refine Ko6.call ?_ (by with_reducible assumption) | with_reducible refine KOw.drew ?_ | with_reducible refine KOw.alloc ?_ _ | with_reducible refine KOw.call ?_ (by with_reducible assumption))); intro Z2y1; have Z2y1c0 := Z2y1.c0; have Z2y1f0 := Z2y1.f0; have Z2y1c1 := Z2y1.c1; have Z2y1f1 := Z2y1.f1; have Z2y1c2 := Z2y1.c2; have Z2y1f2 := Z2y1.f2; have Z2y1c3 := Z2y1.c3; have Z2y1f3 := Z2y1.f3; have Z2y1c4 := Z2y1.c4; have Z2y1f4 := Z2y1.f4; have Z2y1c5 := Z2y1.c5; have Z2y1f5 := Z2y1.f5; have Z2y1l := Z2y1.lt)); have Ba2 : Below w.heap.size w u2 := (by repeat (first | with_reducible assumption | with_reducible exact Below.refl _ _ | with_reducible refine Below.alloc ?_ (by first | omega | (simp <;> omega)) _ | with_reducible refine bstep ?_ (by with_reducible assumption) | with_reducible refine Below.drew ?_)); have zz2 := Below.size Ba2))
              all_goals
                go_wp2_with fail
                go_meet
                exact ⟨_, rfl, (by first | (with_reducible exact KM.at _ (by first | with_reducible rfl | (simp; done) | fail)) | (with_reducible exact KM.store (by repeat (first | with_reducible assumption | (with_reducible exact KM.at _ (by first | with_reducible rfl | (simp; done) | fail)) | with_reducible refine KM.drew ?_ | with_reducible refine KM.alloc ?_ _ | with_reducible refine KM.call ?_ (by with_reducible assumption) | with_reducible refine Km.drew ?_ | with_reducible refine Km.alloc ?_ _ | with_reducible refine Km.call ?_ (by with_reducible assumption) | with_reducible refine Kt.drew ?_ | with_reducible refine Kt.alloc ?_ _ | with_reducible refine Kt.call ?_ (by with_reducible assumption) | with_reducible refine Ko6.drew ?_ | with_reducible refine Ko6.alloc ?_ _ | with_reducible refine Ko6.call ?_ (by with_reducible assumption) | with_reducible refine KOw.drew ?_ | with_reducible refine KOw.alloc ?_ _ | with_reducible refine KOw.call ?_ (by with_reducible assumption))) _ _ _ _ _ _) | fail), (by repeat (first | with_reducible assumption | with_reducible refine KM.drew ?_ | with_reducible refine KM.alloc ?_ _ | with_reducible refine KM.call ?_ (by with_reducible assumption) | with_reducible refine Km.drew ?_ | with_reducible refine Km.alloc ?_ _ | with_reducible refine Km.call ?_ (by with_reducible assumption) | with_reducible refine Kt.drew ?_ | with_reducible refine Kt.alloc ?_ _ | with_reducible refine Kt.call ?_ (by with_reducible assumption) | with_reducible refine Ko6.drew ?_ | with_reducible refine Ko6.alloc ?_ _ | with_reducible refine Ko6.call ?_ (by with_reducible assumption) | with_reducible refine KOw.drew ?_ | with_reducible refine KOw.alloc ?_ _ | with_reducible refine KOw.call ?_ (by with_reducible assumption) | ((with_reducible refine KOw.put ?_ ?_); (first | omega | (dsimp only; omega))) | ((with_reducible refine Ko6.put ?_ ?_); (first | omega | (dsimp only; omega))) | ((with_reducible refine KM.put ?_ ?_); (first | omega | (dsimp only; omega))) | ((with_reducible refine Km.put ?_ ?_); (first | omega | (dsimp only; omega))) | ((with_reducible refine Kt.put ?_ ?_); (first | omega | (dsimp only; omega))) | ((with_reducible refine KM.far ?_ ?_); (first | omega | (dsimp only; omega))) | ((with_reducible refine Km.far ?_ ?_); (first | omega | (dsimp only; omega))))), (by repeat (first | with_reducible assumption | with_reducible refine KM.drew ?_ | with_reducible refine KM.alloc ?_ _ | with_reducible refine KM.call ?_ (by with_reducible assumption) | with_reducible refine Km.drew ?_ | with_reducible refine Km.alloc ?_ _ | with_reducible refine Km.call ?_ (by with_reducible assumption) | with_reducible refine Kt.drew ?_ | with_reducible refine Kt.alloc ?_ _ | with_reducible refine Kt.call ?_ (by with_reducible assumption) | with_reducible refine Ko6.drew ?_ | with_reducible refine Ko6.alloc ?_ _ | with_reducible refine Ko6.call ?_ (by with_reducible assumption) | with_reducible refine KOw.drew ?_ | with_reducible refine KOw.alloc ?_ _ | with_reducible refine KOw.call ?_ (by with_reducible assumption) | ((with_reducible refine KOw.put ?_ ?_); (first | omega | (dsimp only; omega))) | ((with_reducible refine Ko6.put ?_ ?_); (first | omega | (dsimp only; omega))) | ((with_reducible refine KM.put ?_ ?_); (first | omega | (dsimp only; omega))) | ((with_reducible refine Km.put ?_ ?_); (first | omega | (dsimp only; omega))) | ((with_reducible refine Kt.put ?_ ?_); (first | omega | (dsimp only; omega))) | ((with_reducible refine KM.far ?_ ?_); (first | omega | (dsimp only; omega))) | ((with_reducible refine Km.far ?_ ?_); (first | omega | (dsimp only; omega))))), (by repeat (first | with_reducible assumption | with_reducible refine KM.drew ?_ | with_reducible refine KM.alloc ?_ _ | with_reducible refine KM.call ?_ (by with_reducible assumption) | with_reducible refine Km.drew ?_ | with_reducible refine Km.alloc ?_ _ | with_reducible refine Km.call ?_ (by with_reducible assumption) | with_reducible refine Kt.drew ?_ | with_reducible refine Kt.alloc ?_ _ | with_reducible refine Kt.call ?_ (by with_reducible assumption) | with_reducible refine Ko6.drew ?_ | with_reducible refine Ko6.alloc ?_ _ | with_reducible refine Ko6.call ?_ (by with_reducible assumption) | with_reducible refine KOw.drew ?_ | with_reducible refine KOw.alloc ?_ _ | with_reducible refine KOw.call ?_ (by with_reducible assumption) | ((with_reducible refine KOw.put ?_ ?_); (first | omega | (dsimp only; omega))) | ((with_reducible refine Ko6.put ?_ ?_); (first | omega | (dsimp only; omega))) | ((with_reducible refine KM.put ?_ ?_); (first | omega | (dsimp only; omega))) | ((with_reducible refine Km.put ?_ ?_); (first | omega | (dsimp only; omega))) | ((with_reducible refine Kt.put ?_ ?_); (first | omega | (dsimp only; omega))) | ((with_reducible refine KM.far ?_ ?_); (first | omega | (dsimp only; omega))) | ((with_reducible refine Km.far ?_ ?_); (first | omega | (dsimp only; omega))))), (by repeat (first | with_reducible assumption | with_reducible exact Below.refl _ _ | with_reducible refine Below.setCell ?_ (by first | omega | (simp <;> omega)) _ | with_reducible refine Below.alloc ?_ (by first | omega | (simp <;> omega)) _ | with_reducible refine bstep ?_ (by with_reducible assumption) | with_reducible refine Below.drew ?_))⟩
            case rest =>
              obtain ⟨gn, rfl, X, L, Ow, Oo, Bx⟩ := hcut
              obtain ⟨W4, hW4⟩ : ∃ z, z = wc := ⟨_, rfl⟩
              subst hW4
              clear CA CR q1 o1 q1c o1c hLc hL hQ hO hB hLl hgl hga hgo hgq
              have Xc := X.cells5
              have Xl := X.lt
              have zx := Bx.size
              have SO := SRow.of6 Oo (by have := HK.out; omega)
              have CH := Lib.hid (l06Has_any e0 e1 e2 e3 p q SO HU.out (by have := HK.out; omega))
              have HDEC : Hid (decide ((e0, e1, e2, e3, p, q) ∈ O) = decide ((e0, e1, e2, e3, p, q) ∈ Q)) := Lib.hid (decide_eq_decide.2 (HMm.out _))
              rcases hd : decide ((e0, e1, e2, e3, p, q) ∈ O) with _ | _
              · have HG2 := Lib.hid (HD.out (of_decide_eq_false (HDEC.out.symm.trans hd)))
                rw [hd] at CH
                have HFD := Lib.hid hd
                clear HH HD hd SO
                go_wp2_with fail
                refine CH.out.mono ?_
                rintro e w5 ⟨rfl, hb5⟩
                have X5 := X.call hb5
                have L5 := L.call hb5
                have Q5 := Ow.call hb5
                have O5 := Oo.call hb5
                have B5 := bstep Bx hb5
                have X5c := X5.cells5
                have S5 := SRow.of6 O5 (by have := HK.out; omega)
                have z5 := kt_lt L5
                have CI := Lib.hid (l06Insert_any e0 e1 e2 e3 p q O5 ⟨_, _, rfl⟩ S5 (by omega) HU.out (by have := HK.out; omega))
                clear hb5 CH X L Ow Oo Bx Xc Xl zx S5
                go_wp2_with fail
                refine CI.out.mono ?_
                rintro e w6 ⟨g6, cap6, rfl, O6, hg6, hb6⟩
                have hg6 := hg6 HFD.out
                have X6 := X5.call hb6
                have L6 := L5.call hb6
                have Q6 := Q5.call hb6
                have B6 := bstep B5 hb6
                have X6c := X6.cells5
                have z6 := kt_lt L6
                have hql := (KOw.lt Q5).2
                have hgg : g6 ≠ gq := by omega
                clear hb6 CI X5 L5 Q5 O5 B5 X5c hql hg6
                have HGG := Lib.hid hgg
                clear hgg
                go_wp2_with (at_builtin; refine wpList_append_own _ rfl _ _ 48 rfl (w.heap.size + 1) 37 i0 (.agg #[.int .i64 0, .int .i64 0, .int .i64 0, .int .i64 0, .int .i64 0, .int .i64 0]) 6 48 Tryz.underlying48 hinf hz0 hz1 hz2 rfl (by decide) _ _ _ rfl (Q6.alloc _) ⟨w6.heap.size, 0, none⟩ 1 1 [.int .i64 e0, .int .i64 e1, .int .i64 e2, .int .i64 e3, .int .i64 p, .int .i64 q] rfl rfl (new_six _ _ _ _ _ _ _ rfl) one_six (by have := HK.out; unfold maxLen; omega) (by have := HK.out; omega) (by have hz := z6; (try simp); omega) ?_; intro v9 w9 hown9 hgrow _)
                obtain ⟨g9, cap9, rfl, Q9⟩ := KOw.of (own_next6 hown9) (by simp)
                have O9 : KOw g6 (w.heap.size + 1) cap6 37 (putM O (e0, e1, e2, e3, p, q)) w9 := KOw.kept (O6.alloc _) hgrow (fun e => by have e2 : some g6 = some gq := e; exact HGG.out (Option.some.inj e2))
                have hq0 := (KOw.lt Q6).1
                have L9 : Kt w.heap.size A B C w9 := Kt.grown (L6.alloc _) hgrow (fun e => by have e2 : some w.heap.size = some gq := e; have e3 := Option.some.inj e2; omega)
                have B9 : Below w.heap.size w w9 := Below.grown (Below.alloc B6 (by omega) _) hgrow (by simp; omega) (fun r hr => by have e2 : some gq = some r := hr; have e3 := Option.some.inj e2; omega)
                clear hown9 hgrow X6 X6c L6 Q6 O6 B6
                go_wp2
                go_roundw
                case rel => exact ⟨k + 1, by go_num, Q ++ [(e0, e1, e2, e3, p, q)], putM O (e0, e1, e2, e3, p, q), g9, cap9, g6, cap6, by have := HK.out; simp; omega, HG2.out, by have := HK.out; omega, rfl, rfl, Q9, O9, putM_up HU.out, fun m => by rw [putM_mem, List.mem_append, HMm.out]; simp [or_comm], L9, B9⟩
                case measure => (have := HK.out); first | (simp [intOf]; done) | (simp [intOf]; omega)
              · have HG2 := Lib.hid (HH.out (of_decide_eq_true (HDEC.out.symm.trans hd)))
                rw [hd] at CH
                clear HH HD hd SO
                go_wp2_with fail
                refine CH.out.mono ?_
                rintro e w5 ⟨rfl, hb5⟩
                have L5 := L.call hb5
                have Q5 := Ow.call hb5
                have O5 := Oo.call hb5
                have B5 := bstep Bx hb5
                clear hb5 CH X L Ow Oo Bx Xc Xl zx
                go_wp2
                go_roundw
                case rel => exact ⟨k + 1, by go_num, Q, O, gq, cq, go, co, by have := HK.out; omega, HG2.out, by have := HK.out; omega, rfl, rfl, Q5, O5, HU.out, HMm.out, L5, B5⟩
                case measure => (have := HK.out); first | (simp [intOf]; done) | (simp [intOf]; omega)
          · obtain rfl : k = R.length := by omega
            have HG2 := Lib.hid hG.next
            have HK := Lib.hid (show i < Q.length ∧ i ≤ 768 from ⟨hi, by omega⟩)
            clear hG hk hk1 hi hi2 hQl hi0
            go_wp2
            go_roundw
            case rel => exact ⟨i + 1, by go_num, Q, O, gq, cq, go, co, HG2.out, by have := HK.out; omega, rfl, rfl, hQ, hO, hUp, hMem, hL, hB⟩
            case measure => (have := HK.out); first | (simp [intOf]; done) | (simp [intOf]; omega)
    · obtain rfl : i = Q.length := by omega
      have HGM := Lib.hid hG
      clear hG hL
      go_wp2
      go_ret
      exact ⟨go, co, O, rfl, ⟨hUp, fun m => (hMem m).trans (HGM.out.mem m)⟩, KOw.lower hO (by omega), hB⟩

end Go.Proofs.YtkfeajjpbmbmpaaGreatDoor
