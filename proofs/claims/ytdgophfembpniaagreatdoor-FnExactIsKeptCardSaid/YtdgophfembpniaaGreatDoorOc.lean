/-
 The program's orbitColours: the colour of each orbit, and whether the motions keep the pattern. Conditions: a valid pattern and a group modulo its lattice.
-/
import Derived.Test.YtdgophfembpniaaGreatDoorKpF
import Derived.Test.YtdgophfembpniaaGreatDoorOb
import Derived.Test.YtdgophfembpniaaGreatDoorPtA
import Derived.Deep.RegionHeld3
import Derived.IntWalk
import Derived.Laws.Rows
import Derived.Laws.Tables
import Derived.Laws.MakeOwn
import Derived.Laws.OwnMore
namespace Go.Proofs.YtdgophfembpniaaGreatDoor
open Go.RowKit
set_option linter.unusedSimpArgs false
set_option linter.unusedVariables false

def inV (zs : List Int) : List Value := zs.map (Value.int .i64)
theorem inV_snoc (zs : List Int) (z : Int) : inV (zs ++ [z]) = inV zs ++ [.int .i64 z] := by simp [inV]
theorem inV_int (zs : List Int) : ∀ u ∈ inV zs, ∃ z, u = .int .i64 z := by
 intro u hu
 obtain ⟨z, _, rfl⟩ := List.mem_map.1 hu
 exact ⟨z, rfl⟩
theorem inV_at {zs : List Int} {t : Nat} (ht : t < zs.length) : (inV zs)[t]? = some (.int .i64 zs[t]) := by simp [inV, ht]
theorem new_oneK {W : World} {g : Nat} (T : TypeId) (a : Value) (hg : g = W.heap.size) : ∀ (j : Nat) (u : Value), [a][j]? = some u → (W.alloc (.cells #[a] T)).cell? ((⟨g, 0, none⟩ : Addr).add j) = some u := by
 intro j u hu
 subst hg
 match j, hu with
 | 0, hu => simp at hu; subst hu; simp [Addr.add]
theorem infoI64K : (Tryz.prog.info? 2).map (fun i => (i.zero, i.size, i.bytes)) = some (some (.int .i64 0), 1, 8) := by kernel_rfl
theorem own_shK {W : World} {base n : Nat} {e : TypeId} {size : Nat} {v : Value} {xs : List Value} (h : W.ownsRow base e size v n xs) : ∃ ao cap, v = .slice ao n cap := by
 rcases h.2 with ⟨rfl, h2, _⟩ | ⟨g, cap, cur, rfl, _⟩
 ·exact ⟨none, 0, by simp⟩
 ·exact ⟨_, cap, rfl⟩
theorem own_callK {W w1 : World} {base : Nat} {e : TypeId} {size : Nat} {v : Value} {n : Nat} {xs : List Value} (h : W.ownsRow base e size v n xs) (hb : Below W.heap.size W w1) : w1.ownsRow base e size v n xs := by
 obtain ⟨h1, h2⟩ := h
 refine ⟨h1, h2.imp id ?_⟩
 rintro ⟨g, cap, cur, rfl, hg, hb9, r⟩
 exact ⟨g, cap, cur, rfl, hg, (hb.block g (Array.getElem?_eq_some_iff.1 hb9).1).trans hb9, r⟩
/- the answer -/
def ocF (p q : Nat) (B : Int) (G : List M6) (F : Nat → Int) : Nat → Int := intAt (inV (ocL p q B G F))
def OcPost (p q : Nat) (B : Int) (G : List M6) (F : Nat → Int) (W : World) (e : Ending) (w' : World) : Prop :=
 ∃ v' : Value, e = .returned (.tuple #[v', .bool (kpG p B q F G)]) ∧ (kpG p B q F G = true → SRow W.heap.size w'.heap.size 1 v' (ocL p q B G F).length (ocF p q B G F) w') ∧ (kpG p B q F G = false → v' = .slice none 0 0) ∧ Below W.heap.size W w'
theorem OcPost.no {p q : Nat} {B : Int} {G : List M6} {F : Nat → Int} {W w' : World} (h : kpG p B q F G = false) (hb : Below W.heap.size W w') : OcPost p q B G F W (.returned (.tuple #[.slice none 0 0, .bool false])) w' :=
 ⟨_, by rw [h], (fun e => by rw [h] at e; cases e), fun _ => rfl, hb⟩
theorem OcPost.yes {p q : Nat} {B : Int} {G : List M6} {F : Nat → Int} {W w' : World} {v' : Value} (h : kpG p B q F G = true) (hs : SRow W.heap.size w'.heap.size 1 v' (ocL p q B G F).length (ocF p q B G F) w') (hb : Below W.heap.size W w') : OcPost p q B G F W (.returned (.tuple #[v', .bool true])) w' :=
 ⟨_, by rw [h], fun _ => hs, (fun e => by rw [h] at e; cases e), hb⟩
set_option maxRecDepth 100000 in
set_option maxHeartbeats 16000000 in
theorem orbitColours_any {lo hi p q n gm capm : Nat} {f B : Int} {v : Value} {F : Nat → Int} {G : List M6} {W : World} (h : PatI f p B q n F) (hv : SRow lo hi 1 v n F W) (hG : grpB f (p : Int) B (q : Int) G = true) (hg : IRow gm (G.length * 6) (fm G) W) :
  Calls Tryz.prog 50 #[.agg #[.int .i64 f, .int .i64 (p : Int), .int .i64 B, .int .i64 (q : Int), v], .slice (some ⟨gm, 0, none⟩) G.length capm] W (OcPost p q B G F W) := by
 obtain ⟨i0, hinf, hz0, hz1, hz2⟩ := info_parts infoI64K
 have R := Lib.hid hv
 have HG := Lib.hid hG
 obtain ⟨hp1, hp2, hq1, hq2, hn64, hn1⟩ := h.bd
 have hnn := h.nn
 obtain ⟨g, cap, rfl, hgl, _, r⟩ := hv.irow hn1
 have hgs := hv.1
 have hgw : g < W.heap.size := by omega
 have P0 : Bx W.heap.size [.int .i64 f, .int .i64 (p : Int), .int .i64 B, .int .i64 (q : Int), .slice (some ⟨g, 0, none⟩) n cap] (W.alloc (.cells #[.int .i64 f, .int .i64 (p : Int), .int .i64 B, .int .i64 (q : Int), .slice (some ⟨g, 0, none⟩) n cap] 34)) := Bx.at _ rfl
 have B0 : Below W.heap.size W (W.alloc (.cells #[.int .i64 f, .int .i64 (p : Int), .int .i64 B, .int .i64 (q : Int), .slice (some ⟨g, 0, none⟩) n cap] 34)) := (Below.refl _ _).alloc (Nat.le_refl _) _
 have CO := Lib.hid (orbI_any (cap := capm) hG (hg.call B0))
 have HPQ := Lib.hid hnn
 have HR := Lib.hid r
 have hn2 : (n : Int) ≤ 64 := by omega
 have hlen := orbF_len64 B G (p := p) (q := q) (by omega)
 have HLN := Lib.hid hlen
 clear hv h hG hg r hp1 hp2 hq1 hq2 hnn hlen
 go_enter Tryz.func50, Tryz.ntmps50
 have p0c0 := P0.c0
 have p0c1 := P0.c1
 have p0c2 := P0.c2
 have p0c3 := P0.c3
 have p0c4 := P0.c4
 have p0l := P0.lt
 go_wp2_with fail
 refine CO.out.mono ?_
 rintro e w2 ⟨J, I, rfl, hM, hb2⟩
 have HM := Lib.hid hM
 have P2 := P0.call hb2
 have B2 := bstep B0 hb2
 have hn0 : (w2.alloc (.cells #[.int .i64 0, .int .i64 0, .int .i64 0, .int .i64 0, .int .i64 0, .int .i64 0, .int .i64 0, .int .i64 0, .int .i64 0, .int .i64 0, .int .i64 0, .int .i64 0, .int .i64 0, .int .i64 0, .int .i64 0, .int .i64 0, .int .i64 0, .int .i64 0, .int .i64 0, .int .i64 0, .int .i64 0, .int .i64 0, .int .i64 0, .int .i64 0, .int .i64 0, .int .i64 0, .int .i64 0, .int .i64 0, .int .i64 0, .int .i64 0, .int .i64 0, .int .i64 0, .int .i64 0, .int .i64 0, .int .i64 0, .int .i64 0, .int .i64 0, .int .i64 0, .int .i64 0, .int .i64 0, .int .i64 0, .int .i64 0, .int .i64 0, .int .i64 0, .int .i64 0, .int .i64 0, .int .i64 0, .int .i64 0, .int .i64 0, .int .i64 0, .int .i64 0, .int .i64 0, .int .i64 0, .int .i64 0, .int .i64 0, .int .i64 0, .int .i64 0, .int .i64 0, .int .i64 0, .int .i64 0, .int .i64 0, .int .i64 0, .int .i64 0, .int .i64 0] 100)).heap[w2.heap.size]? = some (.cells (rowI fun _ => 0) 100 (0, 0)) := by rw [show (#[.int .i64 0, .int .i64 0, .int .i64 0, .int .i64 0, .int .i64 0, .int .i64 0, .int .i64 0, .int .i64 0, .int .i64 0, .int .i64 0, .int .i64 0, .int .i64 0, .int .i64 0, .int .i64 0, .int .i64 0, .int .i64 0, .int .i64 0, .int .i64 0, .int .i64 0, .int .i64 0, .int .i64 0, .int .i64 0, .int .i64 0, .int .i64 0, .int .i64 0, .int .i64 0, .int .i64 0, .int .i64 0, .int .i64 0, .int .i64 0, .int .i64 0, .int .i64 0, .int .i64 0, .int .i64 0, .int .i64 0, .int .i64 0, .int .i64 0, .int .i64 0, .int .i64 0, .int .i64 0, .int .i64 0, .int .i64 0, .int .i64 0, .int .i64 0, .int .i64 0, .int .i64 0, .int .i64 0, .int .i64 0, .int .i64 0, .int .i64 0, .int .i64 0, .int .i64 0, .int .i64 0, .int .i64 0, .int .i64 0, .int .i64 0, .int .i64 0, .int .i64 0, .int .i64 0, .int .i64 0, .int .i64 0, .int .i64 0, .int .i64 0, .int .i64 0] : Array Value) = rowI (fun _ => 0) from rfl]; exact World.alloc_heap_new _ _
 have hst : Sem.run Tryz.prog (storeCells ⟨w2.heap.size, 0, none⟩ (rowI I).toList 0) (w2.alloc (.cells #[.int .i64 0, .int .i64 0, .int .i64 0, .int .i64 0, .int .i64 0, .int .i64 0, .int .i64 0, .int .i64 0, .int .i64 0, .int .i64 0, .int .i64 0, .int .i64 0, .int .i64 0, .int .i64 0, .int .i64 0, .int .i64 0, .int .i64 0, .int .i64 0, .int .i64 0, .int .i64 0, .int .i64 0, .int .i64 0, .int .i64 0, .int .i64 0, .int .i64 0, .int .i64 0, .int .i64 0, .int .i64 0, .int .i64 0, .int .i64 0, .int .i64 0, .int .i64 0, .int .i64 0, .int .i64 0, .int .i64 0, .int .i64 0, .int .i64 0, .int .i64 0, .int .i64 0, .int .i64 0, .int .i64 0, .int .i64 0, .int .i64 0, .int .i64 0, .int .i64 0, .int .i64 0, .int .i64 0, .int .i64 0, .int .i64 0, .int .i64 0, .int .i64 0, .int .i64 0, .int .i64 0, .int .i64 0, .int .i64 0, .int .i64 0, .int .i64 0, .int .i64 0, .int .i64 0, .int .i64 0, .int .i64 0, .int .i64 0, .int .i64 0, .int .i64 0] 100)) = .ok () ((w2.alloc (.cells #[.int .i64 0, .int .i64 0, .int .i64 0, .int .i64 0, .int .i64 0, .int .i64 0, .int .i64 0, .int .i64 0, .int .i64 0, .int .i64 0, .int .i64 0, .int .i64 0, .int .i64 0, .int .i64 0, .int .i64 0, .int .i64 0, .int .i64 0, .int .i64 0, .int .i64 0, .int .i64 0, .int .i64 0, .int .i64 0, .int .i64 0, .int .i64 0, .int .i64 0, .int .i64 0, .int .i64 0, .int .i64 0, .int .i64 0, .int .i64 0, .int .i64 0, .int .i64 0, .int .i64 0, .int .i64 0, .int .i64 0, .int .i64 0, .int .i64 0, .int .i64 0, .int .i64 0, .int .i64 0, .int .i64 0, .int .i64 0, .int .i64 0, .int .i64 0, .int .i64 0, .int .i64 0, .int .i64 0, .int .i64 0, .int .i64 0, .int .i64 0, .int .i64 0, .int .i64 0, .int .i64 0, .int .i64 0, .int .i64 0, .int .i64 0, .int .i64 0, .int .i64 0, .int .i64 0, .int .i64 0, .int .i64 0, .int .i64 0, .int .i64 0, .int .i64 0] 100)).setRow w2.heap.size (rowI I)) := store64 hn0
 have hA3 : ARI w2.heap.size I ((w2.alloc (.cells #[.int .i64 0, .int .i64 0, .int .i64 0, .int .i64 0, .int .i64 0, .int .i64 0, .int .i64 0, .int .i64 0, .int .i64 0, .int .i64 0, .int .i64 0, .int .i64 0, .int .i64 0, .int .i64 0, .int .i64 0, .int .i64 0, .int .i64 0, .int .i64 0, .int .i64 0, .int .i64 0, .int .i64 0, .int .i64 0, .int .i64 0, .int .i64 0, .int .i64 0, .int .i64 0, .int .i64 0, .int .i64 0, .int .i64 0, .int .i64 0, .int .i64 0, .int .i64 0, .int .i64 0, .int .i64 0, .int .i64 0, .int .i64 0, .int .i64 0, .int .i64 0, .int .i64 0, .int .i64 0, .int .i64 0, .int .i64 0, .int .i64 0, .int .i64 0, .int .i64 0, .int .i64 0, .int .i64 0, .int .i64 0, .int .i64 0, .int .i64 0, .int .i64 0, .int .i64 0, .int .i64 0, .int .i64 0, .int .i64 0, .int .i64 0, .int .i64 0, .int .i64 0, .int .i64 0, .int .i64 0, .int .i64 0, .int .i64 0, .int .i64 0, .int .i64 0] 100)).setRow w2.heap.size (rowI I)) := setRow_heap _ _ _ _ _ _ hn0
 have hb3 : Below w2.heap.size w2 ((w2.alloc (.cells #[.int .i64 0, .int .i64 0, .int .i64 0, .int .i64 0, .int .i64 0, .int .i64 0, .int .i64 0, .int .i64 0, .int .i64 0, .int .i64 0, .int .i64 0, .int .i64 0, .int .i64 0, .int .i64 0, .int .i64 0, .int .i64 0, .int .i64 0, .int .i64 0, .int .i64 0, .int .i64 0, .int .i64 0, .int .i64 0, .int .i64 0, .int .i64 0, .int .i64 0, .int .i64 0, .int .i64 0, .int .i64 0, .int .i64 0, .int .i64 0, .int .i64 0, .int .i64 0, .int .i64 0, .int .i64 0, .int .i64 0, .int .i64 0, .int .i64 0, .int .i64 0, .int .i64 0, .int .i64 0, .int .i64 0, .int .i64 0, .int .i64 0, .int .i64 0, .int .i64 0, .int .i64 0, .int .i64 0, .int .i64 0, .int .i64 0, .int .i64 0, .int .i64 0, .int .i64 0, .int .i64 0, .int .i64 0, .int .i64 0, .int .i64 0, .int .i64 0, .int .i64 0, .int .i64 0, .int .i64 0, .int .i64 0, .int .i64 0, .int .i64 0, .int .i64 0] 100)).setRow w2.heap.size (rowI I)) := below_row ((Below.refl _ _).alloc (Nat.le_refl _) _) (Nat.le_refl _) _
 have P3 := P2.call hb3
 have B3 := bstep B2 hb3
 clear hn0 hb2 hb3 P2 P0 B0 B2 CO hM p0c0 p0c1 p0c2 p0c3 p0c4 p0l
 generalize ((w2.alloc (.cells #[.int .i64 0, .int .i64 0, .int .i64 0, .int .i64 0, .int .i64 0, .int .i64 0, .int .i64 0, .int .i64 0, .int .i64 0, .int .i64 0, .int .i64 0, .int .i64 0, .int .i64 0, .int .i64 0, .int .i64 0, .int .i64 0, .int .i64 0, .int .i64 0, .int .i64 0, .int .i64 0, .int .i64 0, .int .i64 0, .int .i64 0, .int .i64 0, .int .i64 0, .int .i64 0, .int .i64 0, .int .i64 0, .int .i64 0, .int .i64 0, .int .i64 0, .int .i64 0, .int .i64 0, .int .i64 0, .int .i64 0, .int .i64 0, .int .i64 0, .int .i64 0, .int .i64 0, .int .i64 0, .int .i64 0, .int .i64 0, .int .i64 0, .int .i64 0, .int .i64 0, .int .i64 0, .int .i64 0, .int .i64 0, .int .i64 0, .int .i64 0, .int .i64 0, .int .i64 0, .int .i64 0, .int .i64 0, .int .i64 0, .int .i64 0, .int .i64 0, .int .i64 0, .int .i64 0, .int .i64 0, .int .i64 0, .int .i64 0, .int .i64 0, .int .i64 0] 100)).setRow w2.heap.size (rowI I)) = w3 at hst hA3 P3 B3
 obtain ⟨w4, hmk, hown4, hgr4⟩ := run_make_own (P := Tryz.prog) w3 w3.heap.size 24 2 i0 (.int .i64 0) 1 Tryz.underlying24 hinf hz0 hz1 .i64 .i64 (orbF p q B G).length (by have := HLN.out; rw [hz2]; omega) (by have := HLN.out; unfold maxLen; omega) (Nat.le_refl _)
 have hb4 : Below w3.heap.size w3 w4 := Below.grown (Below.refl _ _) hgr4 (Nat.le_refl _) (fun r hr => by cases hr)
 have P4 := P3.call hb4
 have A4 := hA3.call hb4
 have B4 := bstep B3 hb4
 have z4 := hb4.size
 have z3 : w2.heap.size < w3.heap.size := hA3.lt
 have HMK := Lib.hid hmk
 clear hgr4 P3 A4 B4 z4
 have p4c0 := P4.c0
 have p4c1 := P4.c1
 have p4c2 := P4.c2
 have p4c3 := P4.c3
 have p4c4 := P4.c4
 have p4l := P4.lt
 go_wp2_with (first | (rw [hmk]; done) | fail)
 have O4 : w4.ownsRow w3.heap.size 2 1 (.slice (some ⟨w3.heap.size, 0, none⟩) 0 (orbF p q B G).length) (ocK p q B G F 0).length (inV (ocK p q B G F 0)) := hown4
 clear hown4 hmk HMK p4c0 p4c1 p4c2 p4c3 p4c4 p4l
 go_loopw [8, 24] (fun u s X => ∃ k : Nat, s = .int .i64 (k : Int) ∧ k ≤ n ∧ X.ownsRow w3.heap.size 2 1 u (ocK p q B G F k).length (inV (ocK p q B G F k)) ∧ KpI p q B G F k ∧ Below w3.heap.size w3 X) (fun _ s _ => n - (intOf s).toNat)
 case atStart => exact ⟨0, rfl, by omega, O4, KpI.start p q B G F, hb4⟩
 case round =>
  clear O4
  obtain ⟨k, rfl, hk, OO, hkp, hB⟩ := hrel
  have HKP := Lib.hid hkp
  clear hkp
  have hB2 := B3.trans (hB.mono (by have := B3.size; omega))
  obtain ⟨m, hm⟩ : ∃ m, m = (ocK p q B G F k).length := ⟨_, rfl⟩
  rw [← hm] at OO
  have HMM := Lib.hid hm
  have hm64 : m ≤ 64 := by rw [hm]; exact Nat.le_trans (ocK_len p q B G F k) HLN.out
  have hm65 : (m : Int) ≤ 64 := by omega
  obtain ⟨ao8, cap8, rfl⟩ := own_shK OO
  have OO2 := Lib.hid OO
  by_cases hk1 : k < n
  ·have hk2 : (k : Int) < (n : Int) := by omega
   have hk3 : k < 64 := by omega
   have hkpq : k < p * q := by rw [← HPQ.out]; exact hk1
   have hF1 := (HR.out.grow (B := W.heap.size) hB2 hgw).at k (by omega)
   have hI1 := (hA3.call hB).at k (by omega)
   have hz := hB.size
   have HFS := oc_step HG.out HM.out F hkpq
   obtain ⟨x, hx⟩ : ∃ x, x = F k := ⟨_, rfl⟩
   rw [← hx] at hF1
   have HX := Lib.hid hx
   have HK := Lib.hid hkpq
   clear hx hkpq
   rcases HFS with ⟨i, hi, hii, hfs, hor⟩ | ⟨hii, hfs⟩
   ·rw [hii] at hI1
    have hi2 : i < (ocK p q B G F k).length := by unfold ocK; rw [List.length_map]; exact hi
    obtain ⟨c, hc⟩ : ∃ c, c = F (nb (q : Int) (fsK p q B G k)[i]) := ⟨_, rfl⟩
    have hc2 : (ocK p q B G F k)[i] = c := by rw [hc]; simp [ocK]
    have him : i < m := by rw [hm]; exact hi2
    obtain ⟨g8, rfl⟩ : ∃ g8, ao8 = some ⟨g8, 0, none⟩ := by
     rcases OO.2 with ⟨h1, h2⟩ | ⟨g8, c8, cur, e8, _⟩
     ·omega
     ·simp only [Value.slice.injEq] at e8
      exact ⟨g8, e8.1⟩
    have hgo := OO.cellAt i (by omega)
    rw [inV_at hi2, hc2] at hgo
    have HNX : Hid (ocK p q B G F (k + 1) = ocK p q B G F k) := Lib.hid (by unfold ocK; rw [hfs])
    have he : ((i : Int) == (m : Int)) = false := by simp; omega
    have hi3 : (i : Int) < (m : Int) := by omega
    have HI := Lib.hid hi
    have HO := Lib.hid hor
    have HFK := Lib.hid hfs
    clear hm hi2 hii hc2 hor hfs
    by_cases hcx : c = x
    ·have HKN := Lib.hid (KpI.old HKP.out HI.out HFK.out HO.out (by rw [← hc, ← HX.out]; exact hcx))
     clear hc
     subst hcx
     go_wp2
     go_roundw
     case rel => exact ⟨k + 1, by go_num, by omega, by rw [HNX.out, ← HMM.out]; exact OO2.out, HKN.out, hB⟩
     case measure => first | (simp [intOf]; done) | (simp [intOf]; omega)
    ·have HNO := Lib.hid (kp_no (F := F) HG.out HK.out HI.out HO.out (by rw [← hc, ← HX.out]; exact hcx))
     clear hc
     have hne : (c != x) = true := by simp [hcx]
     go_wp2
     go_ret2
     exact OcPost.no HNO.out hB2
   ·have him : I k = (m : Int) := by rw [hii, hm]; simp [ocK]
    rw [him] at hI1
    have HNX : Hid (ocK p q B G F (k + 1) = ocK p q B G F k ++ [x]) := Lib.hid (by rw [HX.out]; unfold ocK; rw [hfs, List.map_append, List.map_singleton, (cl_cel HK.out).2])
    have HKN := Lib.hid (KpI.new HG.out HK.out HKP.out hfs)
    clear hm hii hfs him
    go_wp2_with (at_builtin; refine wpList_append_own _ rfl _ _ 24 rfl w3.heap.size 2 i0 (.int .i64 0) 1 8 Tryz.underlying24 hinf hz0 hz1 hz2 rfl (by decide) _ _ _ rfl (OO.alloc _) ⟨wr.heap.size, 0, none⟩ 1 1 [.int .i64 x] rfl rfl ?c1 ?c2 ?c3 ?c4 ?c5 ?_)
    case c1 => exact new_oneK _ _ rfl
    case c2 => intro u hu; simp at hu; subst hu; rfl
    case c3 => unfold maxLen; omega
    case c4 => omega
    case c5 => simp; omega
    intro v' w5 hown' hgrow _
    have B5 : Below w3.heap.size w3 w5 := Below.grown (Below.alloc hB (by omega) _) hgrow (by simp; omega) (fun j hj => (OO.lt j hj).1)
    have O5 : w5.ownsRow w3.heap.size 2 1 v' (ocK p q B G F (k + 1)).length (inV (ocK p q B G F (k + 1))) := by rw [HNX.out, List.length_append, inV_snoc, ← HMM.out]; exact hown'
    clear hgrow hown' OO
    go_wp2
    go_roundw
    case rel => exact ⟨k + 1, by go_num, by omega, O5, HKN.out, B5⟩
    case measure => first | (simp [intOf]; done) | (simp [intOf]; omega)
  ·obtain rfl : k = n := by omega
   have hz := hB.size
   have HY := Lib.hid (KpI.fin HG.out HM.out (F := F) (by rw [← HPQ.out]; exact HKP.out))
   have h9 := SRow.of OO (inV_int _) (by omega)
   have HE : Hid (ocK p q B G F k = ocL p q B G F) := Lib.hid (by rw [HPQ.out]; exact ocK_end p q B G F)
   have H9 : Hid (SRow W.heap.size wr.heap.size 1 (.slice ao8 m cap8) (ocL p q B G F).length (ocF p q B G F) wr) := Lib.hid (by
    have h8 := SRow.low h9 (lo' := W.heap.size) (by have := B3.size; omega)
    rw [HMM.out, HE.out] at h8
    rw [HMM.out, HE.out]
    exact h8)
   clear h9 hm
   go_wp2
   go_ret2
   exact OcPost.yes HY.out H9.out hB2
end Go.Proofs.YtdgophfembpniaaGreatDoor
