/-
 SeedPattern in the program and in the model. Conditions: a slice that lies in blocks of its own, the list's length is below the model's bound; the program's variable unitMatrix holds the unit.
-/
import Derived.Test.YtdgophfembpniaaGreatDoorPo
import Derived.Deep.RegionHeld3
import Derived.IntWalk
import Derived.Laws.MakeOwn
import Derived.Laws.OwnMore
import Derived.Deep.DeepCutAuto
import Derived.Deep.RegionWith
namespace Go.Proofs.YtdgophfembpniaaGreatDoor
open Go.RowKit
set_option linter.unusedSimpArgs false
set_option linter.unusedVariables false

theorem pkSe0 {P : Prop} (h : P := by repeat (first | with_reducible exact Below.refl _ _ | with_reducible assumption | with_reducible refine Below.setCell ?_ (by first | omega | (dsimp only; omega) | (simp <;> omega)) _ | with_reducible refine Below.alloc ?_ (by first | omega | (simp <;> omega)) _ | with_reducible refine bstep ?_ (by with_reducible assumption) | with_reducible refine Below.drew ?_ | with_reducible refine below_drewN ?_ _)) : P := h
theorem pkSe1 {P : Prop} (h : P := by repeat (first | with_reducible assumption | with_reducible exact Below.refl _ _ | with_reducible refine Below.drew ?_ | with_reducible refine Below.alloc ?_ (by first | omega | (simp <;> omega)) _ | with_reducible refine Below.setCell ?_ (by first | omega | (dsimp only; omega)) _ | with_reducible refine bstep ?_ (by with_reducible assumption))) : P := h
theorem pkSe2 {P : Prop} (h : P := by repeat (first | assumption | refine Bx.drew ?_ | refine KQ7.drew ?_ | refine Ko2.drew ?_ | refine IRow.drewP ?_ | refine Two.drew ?_ | refine Bx.call ?_ (by assumption) | refine KQ7.call ?_ (by assumption) | refine Ko2.call ?_ (by assumption) | refine IRow.call ?_ (by assumption) | refine Two.call ?_ (by assumption))) : P := h
theorem pkSe5 {P : Prop} (h : P := by repeat (first | assumption | refine Bx.drew ?_ | refine Bx.alloc ?_ _ | refine Bx.call ?_ (by assumption))) : P := h
def seG (A B C : Int) (G : List M6) (v : V2) (t : Nat) : Int := if Orb A B C G v (clK C.toNat t) then 1 else 0
def seR (f A B C : Int) (xs : List M6) (x y : Int) : PK := if sbB f A B C xs x y = true then (f, A, B, C, A.toNat * C.toNat, seG A B C xs (x, y), 0) else noPK (cod6 f A B C false)
theorem se_bad {f A B C x y : Int} {xs : List M6} (h : sbB f A B C xs x y = false) : seR f A B C xs x y = noPK (cod6 f A B C false) := by simp [seR, h]
theorem se_good {f : Int} {p q : Nat} {B x y : Int} {xs : List M6} (h : sbB f (p : Int) B (q : Int) xs x y = true) : seR f (p : Int) B (q : Int) xs x y = (f, (p : Int), B, (q : Int), p * q, seG (p : Int) B (q : Int) xs (x, y), 0) := by simp [seR, h]
theorem made_zeroK (n : Nat) : ∀ u ∈ (madeCells (Value.cells (.int .i64 0)) (n * 1)).toList, u = .int .i64 0 := by
 intro u hu
 unfold madeCells at hu
 simp only [Array.toList_map, List.mem_map] at hu
 obtain ⟨k, _, rfl⟩ := hu
 simp [Value.cells, Nat.mod_one]
theorem row_ofK {g2 n cap : Nat} {F : Nat → Int} {W : World} (h : IRow g2 (n * 1) F W) (hn : n ≤ 64) : SRow g2 (g2 + 1) 1 (.slice (some ⟨g2, 0, none⟩) n cap) n F W := ⟨h.1, by omega, .inr ⟨g2, cap, rfl, Nat.le_refl _, by omega, h⟩⟩
theorem SRow.extK {lo hi n : Nat} {v : Value} {F F' : Nat → Int} {W : World} (h : SRow lo hi 1 v n F W) (he : ∀ t, t < n → F t = F' t) : SRow lo hi 1 v n F' W := by
 obtain ⟨h1, h2, h3⟩ := h
 refine ⟨h1, h2, h3.imp id ?_⟩
 rintro ⟨g, cap, e, a, b, r⟩
 exact ⟨g, cap, e, a, b, r.ext (fun t ht => he t (by omega))⟩
theorem se_orb {f : Int} {p q : Nat} {B : Int} {G : List M6} (hG : grpB f (p : Int) B (q : Int) G = true) {v : V2} (hv : celB (p : Int) (q : Int) v = true) {t : Nat} (ht : t < p * q) : (nuX p q B G t = nuX p q B G (nb (q : Int) v)) ↔ Orb (p : Int) B (q : Int) G v (clK q t) := by
 have hl := (grp_good hG).1
 obtain ⟨N, hN⟩ := num_ex hG
 have h1 := nuI_is hN
 have cov : ∀ u, celB (p : Int) (q : Int) u = true → ∃ k, ∃ hk : k < (orbF p q B G).length, Orb (p : Int) B (q : Int) G (orbF p q B G)[k] u ∧ nuX p q B G (nb (q : Int) u) = k := fun u hu => by
  obtain ⟨w, hw, ho⟩ := (fst_cov hG (cellP q p) (fun v hv => cellP_mem7.1 hv)).1 _ (cellP_mem7.2 hu)
  obtain ⟨k, hk, hkw⟩ := List.getElem_of_mem (show w ∈ orbF p q B G from hw)
  rw [← hkw] at ho
  have h2 := h1 _ hu k hk ho
  exact ⟨k, hk, ho, by unfold nuX; rw [h2]; simp⟩
 obtain ⟨k, hk, hko, hkx⟩ := cov v hv
 obtain ⟨j, hj, hjo, hjx⟩ := cov _ (cl_cel ht).1
 rw [(cl_cel ht).2] at hjx
 rw [hkx, hjx]
 constructor
 ·intro e
  subst e
  exact orb_trans hG (orb_symm hG (orbF_cel hG hk) hko) hjo
 ·intro ho
  have h3 := orb_trans hG hko ho
  rcases Nat.lt_trichotomy j k with h | h | h
  ·exact absurd h3 (fun h3 => orbF_sep hG hj hk h hjo h3)
  ·exact h
  ·exact absurd hjo (fun hjo => orbF_sep hG hk hj h h3 hjo)
def SeC (f B : Int) (p q n : Nat) (w2 : World) (s : Value) (wx : World) : Prop := ∃ d g : Nat, s = .pointer (some ⟨d, 0, none⟩) ∧ BX d [.int .i64 f, .int .i64 (p : Int), .int .i64 B, .int .i64 (q : Int), .slice (some ⟨g, 0, none⟩) n n] wx ∧ IRow g (n * 1) (fun _ => 0) wx ∧ d ≠ g ∧ w2.heap.size ≤ d ∧ w2.heap.size ≤ g ∧ Below w2.heap.size w2 wx
theorem mk_zero (n t : Nat) (ht : t < n) : (madeCells #[Value.int .i64 0] n)[t]? = some (.int .i64 0) := by
 unfold madeCells
 rw [Array.getElem?_map, Array.getElem?_range, if_pos ht]
 simp [Nat.mod_one]
theorem zrow {W : World} {g : Nat} (T : TypeId) (n : Nat) (h : W.heap[g]? = some (.cells (madeCells #[.int .i64 0] n) T (0, 0))) : IRow g (n * 1) (fun _ => 0) W := by
 refine ⟨(Array.getElem?_eq_some_iff.1 h).1, fun t ht => ⟨?_, ?_⟩⟩
 ·have := mk_zero n t (by omega)
  simp [World.cell?, h, this]
 ·simp [World.frozen?, h]
theorem SeC.one (f B : Int) (p q n : Nat) (W : World) (T T2 : TypeId) : SeC f B p q n W (.pointer (some ⟨W.heap.size + 1, 0, none⟩)) (((W.alloc (.cells (madeCells #[.int .i64 0] n) T)).alloc (.cells #[.int .i64 f, .int .i64 (p : Int), .int .i64 B, .int .i64 (q : Int), .slice (some ⟨W.heap.size, 0, none⟩) n n] T2)).drew) := by
 have h1 : (W.alloc (.cells (madeCells #[.int .i64 0] n) T)).heap[W.heap.size]? = some (.cells (madeCells #[.int .i64 0] n) T (0, 0)) := World.alloc_heap_new _ _
 have h2 : IRow W.heap.size (n * 1) (fun _ => 0) (W.alloc (.cells (madeCells #[.int .i64 0] n) T)) := zrow T n h1
 refine ⟨_, W.heap.size, rfl, (BX.at (W.heap.size + 1) (by simp)).drew, (h2.call ((Below.refl _ _).alloc (Nat.le_refl _) _)).call (Below.refl _ _).drew, by omega, by omega, Nat.le_refl _, ?_⟩
 exact Below.drew (Below.alloc (Below.alloc (Below.refl _ _) (Nat.le_refl _) _) (by simp) _)
theorem SeC.two (f B : Int) (p q n : Nat) (W : World) (T T2 : TypeId) : SeC f B p q n W (.pointer (some ⟨W.heap.size, 0, none⟩)) (((W.alloc (.cells #[.int .i64 f, .int .i64 (p : Int), .int .i64 B, .int .i64 (q : Int), .slice (some ⟨W.heap.size + 1, 0, none⟩) n n] T2)).alloc (.cells (madeCells #[.int .i64 0] n) T)).drew) := by
 have h1 : ((W.alloc (.cells #[.int .i64 f, .int .i64 (p : Int), .int .i64 B, .int .i64 (q : Int), .slice (some ⟨W.heap.size + 1, 0, none⟩) n n] T2)).alloc (.cells (madeCells #[.int .i64 0] n) T)).heap[W.heap.size + 1]? = some (.cells (madeCells #[.int .i64 0] n) T (0, 0)) := by
  have := World.alloc_heap_new (W.alloc (.cells #[.int .i64 f, .int .i64 (p : Int), .int .i64 B, .int .i64 (q : Int), .slice (some ⟨W.heap.size + 1, 0, none⟩) n n] T2)) (.cells (madeCells #[.int .i64 0] n) T)
  simpa using this
 have h2 := zrow T n h1
 refine ⟨_, W.heap.size + 1, rfl, ((BX.at W.heap.size rfl).alloc _).drew, h2.call (Below.refl _ _).drew, by omega, Nat.le_refl _, by omega, ?_⟩
 exact Below.drew (Below.alloc (Below.alloc (Below.refl _ _) (Nat.le_refl _) _) (by simp) _)
theorem Bx.twoK {g p q : Nat} {us : List Value} {W w1 : World} (h : Bx g us W) (hT : Two p q W w1) (h1 : g ≠ p) (h2 : g ≠ q) : Bx g us w1 := Bx.sameK h hT.size (hT.block g h.lt h1 h2)
def SeI (q : Int) (L : List V2) (n i : Nat) (F : Nat → Int) : Prop := ∀ t, t < n → F t = if ∃ u ∈ L.take i, nb q u = t then 1 else 0
theorem SeI.start (q : Int) (L : List V2) (n : Nat) : SeI q L n 0 (fun _ => 0) := fun t _ => by simp
theorem SeI.next {q : Int} {L : List V2} {n i : Nat} {F : Nat → Int} (h : SeI q L n i F) (hi : i < L.length) : SeI q L n (i + 1) (fun t => if t = nb q L[i] then 1 else F t) := by
 intro t ht
 rw [List.take_succ_eq_append_getElem hi]
 show (if t = nb q L[i] then (1 : Int) else F t) = _
 by_cases e : t = nb q L[i]
 ·rw [if_pos e, if_pos ⟨L[i], List.mem_append_right _ (List.mem_singleton.2 rfl), e.symm⟩]
 ·rw [if_neg e, h t ht]
  congr 1
  refine propext ⟨fun ⟨u, h1, h2⟩ => ⟨u, List.mem_append_left _ h1, h2⟩, fun ⟨u, h1, h2⟩ => ?_⟩
  rcases List.mem_append.1 h1 with h3 | h3
  ·exact ⟨u, h3, h2⟩
  ·have e2 : u = L[i] := by simpa using h3
   rw [e2] at h2
   exact absurd h2.symm e
theorem SeI.fin {f : Int} {p q : Nat} {B : Int} {G : List M6} {v : V2} {F : Nat → Int} (hG : grpB f (p : Int) B (q : Int) G = true) (h : SeI (q : Int) (orbL (p : Int) B (q : Int) G v) (p * q) (orbL (p : Int) B (q : Int) G v).length F) {t : Nat} (ht : t < p * q) : F t = seG (p : Int) B (q : Int) G v t := by
 have hl := (grp_good hG).1
 have h1 := h t ht
 rw [List.take_length] at h1
 rw [h1]
 unfold seG
 rw [Int.toNat_natCast]
 have e : (∃ u ∈ orbL (p : Int) B (q : Int) G v, nb (q : Int) u = t) ↔ Orb (p : Int) B (q : Int) G v (clK q t) := by
  constructor
  ·rintro ⟨u, hu, e⟩
   have ho := orbL_mem.1 hu
   have hc := orb_cel hl ho
   have e2 : clK q t = u := nb_inj hl (cl_cel ht).1 hc (by rw [(cl_cel ht).2, e])
   rw [e2]
   exact ho
  ·intro ho
   exact ⟨clK q t, orbL_mem.2 ho, (cl_cel ht).2⟩
 by_cases hx : Orb (p : Int) B (q : Int) G v (clK q t)
 ·rw [if_pos (e.2 hx), if_pos hx]
 ·rw [if_neg (fun h => hx (e.1 h)), if_neg hx]
theorem seG_ext {f : Int} {p q : Nat} {B : Int} {G : List M6} (hG : grpB f (p : Int) B (q : Int) G = true) {v : V2} (hv : celB (p : Int) (q : Int) v = true) {t : Nat} (ht : t < p * q) : pnG (fun i => if i = nuX p q B G (nb (q : Int) v) then 1 else 0) (nuX p q B G) (p * q) t = seG (p : Int) B (q : Int) G v t := by
 rw [pnG_at _ _ ht]
 unfold seG
 rw [Int.toNat_natCast]
 by_cases h : Orb (p : Int) B (q : Int) G v (clK q t)
 ·rw [if_pos h]
  exact if_pos ((se_orb hG hv ht).2 h)
 ·rw [if_neg h]
  exact if_neg (fun e => h ((se_orb hG hv ht).1 e))
set_option maxRecDepth 100000 in
set_option maxHeartbeats 16000000 in
theorem implSe_any {lo' hi' : Nat} {v9 : Value} {xs : List M6} {w : World} (f A B C x y : Int) (hx : SRow lo' hi' 6 v9 xs.length (fm xs) w) (hn : xs.length ≤ 1048576) (hU : UnitOK w) :
  Calls Tryz.prog 32 #[.int .i64 f, .agg #[.int .i64 A, .int .i64 B, .int .i64 C], v9, .agg #[.int .i64 x, .int .i64 y]] w (PAnK (seR f A B C xs x y) w) := by
 obtain ⟨i0, hinf, hz0, hz1, hz2⟩ := info_parts infoI64K
 have RX := Lib.hid hx
 have HN := Lib.hid hn
 clear hx hn
 have L0 : Bx w.heap.size [.int .i64 A, .int .i64 B, .int .i64 C] ((((w.alloc (.cells #[.int .i64 A, .int .i64 B, .int .i64 C] 32)).alloc (.cells #[.int .i64 x, .int .i64 y] 55)).alloc (.cells #[.int .i64 0, .int .i64 0, .int .i64 0, .int .i64 0, .slice none 0 0] 34)).alloc (.cells #[.int .i64 x, .int .i64 y] 55)) := (((Bx.at _ rfl).alloc _).alloc _).alloc _
 have V0 : Bx (w.heap.size + 1) [.int .i64 x, .int .i64 y] ((((w.alloc (.cells #[.int .i64 A, .int .i64 B, .int .i64 C] 32)).alloc (.cells #[.int .i64 x, .int .i64 y] 55)).alloc (.cells #[.int .i64 0, .int .i64 0, .int .i64 0, .int .i64 0, .slice none 0 0] 34)).alloc (.cells #[.int .i64 x, .int .i64 y] 55)) := ((Bx.at _ (by simp)).alloc _).alloc _
 have R0 : BX (w.heap.size + 1 + 1) [.int .i64 0, .int .i64 0, .int .i64 0, .int .i64 0, .slice none 0 0] ((((w.alloc (.cells #[.int .i64 A, .int .i64 B, .int .i64 C] 32)).alloc (.cells #[.int .i64 x, .int .i64 y] 55)).alloc (.cells #[.int .i64 0, .int .i64 0, .int .i64 0, .int .i64 0, .slice none 0 0] 34)).alloc (.cells #[.int .i64 x, .int .i64 y] 55)) := (BX.at _ (by simp)).alloc _
 have B0 : Below w.heap.size w ((((w.alloc (.cells #[.int .i64 A, .int .i64 B, .int .i64 C] 32)).alloc (.cells #[.int .i64 x, .int .i64 y] 55)).alloc (.cells #[.int .i64 0, .int .i64 0, .int .i64 0, .int .i64 0, .slice none 0 0] 34)).alloc (.cells #[.int .i64 x, .int .i64 y] 55)) := by exact pkSe0
 have E0 : Bx w.heap.size [.int .i64 A, .int .i64 B, .int .i64 C] (((w.alloc (.cells #[.int .i64 A, .int .i64 B, .int .i64 C] 32)).alloc (.cells #[.int .i64 x, .int .i64 y] 55)).alloc (.cells #[.int .i64 0, .int .i64 0, .int .i64 0, .int .i64 0, .slice none 0 0] 34)) := ((Bx.at _ rfl).alloc _).alloc _
 have F0 : Bx (w.heap.size + 1) [.int .i64 x, .int .i64 y] (((w.alloc (.cells #[.int .i64 A, .int .i64 B, .int .i64 C] 32)).alloc (.cells #[.int .i64 x, .int .i64 y] 55)).alloc (.cells #[.int .i64 0, .int .i64 0, .int .i64 0, .int .i64 0, .slice none 0 0] 34)) := (Bx.at _ (by simp)).alloc _
 have X0 : SRow (w.heap.size + 1 + 1 + 1) (w.heap.size + 1 + 1 + 1 + 1) 2 (.slice (some ⟨w.heap.size + 1 + 1 + 1, 0, none⟩) 1 1) ([(x, y)] : List V2).length (intAt (cells2 [(x, y)])) ((((w.alloc (.cells #[.int .i64 A, .int .i64 B, .int .i64 C] 32)).alloc (.cells #[.int .i64 x, .int .i64 y] 55)).alloc (.cells #[.int .i64 0, .int .i64 0, .int .i64 0, .int .i64 0, .slice none 0 0] 34)).alloc (.cells #[.int .i64 x, .int .i64 y] 55)) := SRow.one2 (by simp)
 have CG0 := groupWithCells_any f A B C (RX.out.call B0) HN.out X0 (by simp) (Kq.call hU B0)
 rw [gw_one] at CG0
 have CG := Lib.hid CG0
 unfold GwPost at CG
 clear X0 CG0 hU
 rcases hg : sbB f A B C xs x y with _ | _
 ·have EA := Lib.hid (se_bad hg)
  have hc := cod6_nz f A B C
  rw [hg] at CG
  clear hg
  generalize cod6 f A B C false = cc at CG hc EA
  go_enter Tryz.func32, Tryz.ntmps32
  have e0c0 := E0.c0
  have e0c1 := E0.c1
  have e0c2 := E0.c2
  have e0l := E0.lt
  have f0c0 := F0.c0
  have f0c1 := F0.c1
  have f0l := F0.lt
  go_wp2_with fail
  refine CG.out.mono ?_
  rintro e w1 ⟨v1, rfl, hr, hv1, hb1⟩
  have R1 := R0.call hb1
  have B1 := bstep B0 hb1
  have hv2 := hv1 (by first | rfl | trivial)
  subst hv2
  clear hr hv1 hb1 L0 V0 R0 B0 CG e0c0 e0c1 e0c2 e0l f0c0 f0c1 f0l E0 F0
  have r1c0 := R1.c0
  have r1c1 := R1.c1
  have r1c2 := R1.c2
  have r1c3 := R1.c3
  have r1c4 := R1.c4
  have r1f0 := R1.f0
  have r1f1 := R1.f1
  have r1f2 := R1.f2
  have r1f3 := R1.f3
  have r1f4 := R1.f4
  have r1l := R1.lt
  go_wp2
  refine bodyPost_ret (v := .tuple #[(.agg #[.int .i64 0, .int .i64 0, .int .i64 0, .int .i64 0, .slice none 0 0]), .int .i64 cc]) (by simp [results, Tryz.results32, go_sem, *]) rfl ⟨_, _, _, _, _, _, _, _, EA.out, rfl, ?_, ?_⟩
  ·exact SRow.nil _ 1 _ _
  ·exact pkSe0
 ·obtain ⟨hgr, hcl⟩ := sb_parts hg
  obtain ⟨p, q, rfl, rfl⟩ := lat_nat7 (grp_good hgr).1
  have HG := Lib.hid hgr
  have HCL := Lib.hid hcl
  have EA := Lib.hid (se_good hg)
  have HL := Lib.hid (grp_good hgr).1
  have HPQ := Lib.hid (latI_pq (grp_good hgr).1).2
  have HLN := Lib.hid (orbF_len64 B xs (p := p) (q := q) HPQ.out)
  have HKQ := Lib.hid (show nb (q : Int) (x, y) < p * q from by
   have h1 := nb_lt HL.out HCL.out
   have h2 := nb_int HL.out HCL.out
   have h3 : (p : Int) * (q : Int) = ((p * q : Nat) : Int) := by simp
   omega)
  have CN := Lib.hid (fun X => number_any7 (p : Int) B (q : Int) x y X HL.out HCL.out)
  rw [hg, cod6_ok hgr] at CG
  clear hg hgr hcl
  go_enter Tryz.func32, Tryz.ntmps32
  have e0c0 := E0.c0
  have e0c1 := E0.c1
  have e0c2 := E0.c2
  have e0l := E0.lt
  have f0c0 := F0.c0
  have f0c1 := F0.c1
  have f0l := F0.lt
  go_wp2_with fail
  refine CG.out.mono ?_
  rintro e w1 ⟨v1, rfl, hr, hv1, hb1⟩
  have R1 := R0.call hb1
  have B1 := bstep B0 hb1
  obtain ⟨g1, cap1, rfl, _, r1⟩ := own_irow (n := 0) (hr (by first | rfl | trivial)) (grp_pos HG.out) HN.out
  have L1 := L0.call hb1
  have V1 := V0.call hb1
  have CO := Lib.hid (orbI_any (cap := cap1) HG.out r1)
  clear L0 V0 R0 B0 hb1 CG r1 hr hv1 e0c0 e0c1 e0c2 e0l f0c0 f0c1 f0l E0 F0
  have l1c0 := L1.c0
  have l1c1 := L1.c1
  have l1c2 := L1.c2
  have l1l := L1.lt
  go_wp2_with fail
  refine CO.out.mono ?_
  rintro e w2 ⟨J, I, rfl, hM, hb2⟩
  have HM := Lib.hid hM
  have hn0 : (w2.alloc (.cells #[.int .i64 0, .int .i64 0, .int .i64 0, .int .i64 0, .int .i64 0, .int .i64 0, .int .i64 0, .int .i64 0, .int .i64 0, .int .i64 0, .int .i64 0, .int .i64 0, .int .i64 0, .int .i64 0, .int .i64 0, .int .i64 0, .int .i64 0, .int .i64 0, .int .i64 0, .int .i64 0, .int .i64 0, .int .i64 0, .int .i64 0, .int .i64 0, .int .i64 0, .int .i64 0, .int .i64 0, .int .i64 0, .int .i64 0, .int .i64 0, .int .i64 0, .int .i64 0, .int .i64 0, .int .i64 0, .int .i64 0, .int .i64 0, .int .i64 0, .int .i64 0, .int .i64 0, .int .i64 0, .int .i64 0, .int .i64 0, .int .i64 0, .int .i64 0, .int .i64 0, .int .i64 0, .int .i64 0, .int .i64 0, .int .i64 0, .int .i64 0, .int .i64 0, .int .i64 0, .int .i64 0, .int .i64 0, .int .i64 0, .int .i64 0, .int .i64 0, .int .i64 0, .int .i64 0, .int .i64 0, .int .i64 0, .int .i64 0, .int .i64 0, .int .i64 0] 100)).heap[w2.heap.size]? = some (.cells (rowI fun _ => 0) 100 (0, 0)) := by rw [show (#[.int .i64 0, .int .i64 0, .int .i64 0, .int .i64 0, .int .i64 0, .int .i64 0, .int .i64 0, .int .i64 0, .int .i64 0, .int .i64 0, .int .i64 0, .int .i64 0, .int .i64 0, .int .i64 0, .int .i64 0, .int .i64 0, .int .i64 0, .int .i64 0, .int .i64 0, .int .i64 0, .int .i64 0, .int .i64 0, .int .i64 0, .int .i64 0, .int .i64 0, .int .i64 0, .int .i64 0, .int .i64 0, .int .i64 0, .int .i64 0, .int .i64 0, .int .i64 0, .int .i64 0, .int .i64 0, .int .i64 0, .int .i64 0, .int .i64 0, .int .i64 0, .int .i64 0, .int .i64 0, .int .i64 0, .int .i64 0, .int .i64 0, .int .i64 0, .int .i64 0, .int .i64 0, .int .i64 0, .int .i64 0, .int .i64 0, .int .i64 0, .int .i64 0, .int .i64 0, .int .i64 0, .int .i64 0, .int .i64 0, .int .i64 0, .int .i64 0, .int .i64 0, .int .i64 0, .int .i64 0, .int .i64 0, .int .i64 0, .int .i64 0, .int .i64 0] : Array Value) = rowI (fun _ => 0) from rfl]; exact World.alloc_heap_new _ _
  have hst : Sem.run Tryz.prog (storeCells ⟨w2.heap.size, 0, none⟩ (rowI I).toList 0) (w2.alloc (.cells #[.int .i64 0, .int .i64 0, .int .i64 0, .int .i64 0, .int .i64 0, .int .i64 0, .int .i64 0, .int .i64 0, .int .i64 0, .int .i64 0, .int .i64 0, .int .i64 0, .int .i64 0, .int .i64 0, .int .i64 0, .int .i64 0, .int .i64 0, .int .i64 0, .int .i64 0, .int .i64 0, .int .i64 0, .int .i64 0, .int .i64 0, .int .i64 0, .int .i64 0, .int .i64 0, .int .i64 0, .int .i64 0, .int .i64 0, .int .i64 0, .int .i64 0, .int .i64 0, .int .i64 0, .int .i64 0, .int .i64 0, .int .i64 0, .int .i64 0, .int .i64 0, .int .i64 0, .int .i64 0, .int .i64 0, .int .i64 0, .int .i64 0, .int .i64 0, .int .i64 0, .int .i64 0, .int .i64 0, .int .i64 0, .int .i64 0, .int .i64 0, .int .i64 0, .int .i64 0, .int .i64 0, .int .i64 0, .int .i64 0, .int .i64 0, .int .i64 0, .int .i64 0, .int .i64 0, .int .i64 0, .int .i64 0, .int .i64 0, .int .i64 0, .int .i64 0] 100)) = .ok () ((w2.alloc (.cells #[.int .i64 0, .int .i64 0, .int .i64 0, .int .i64 0, .int .i64 0, .int .i64 0, .int .i64 0, .int .i64 0, .int .i64 0, .int .i64 0, .int .i64 0, .int .i64 0, .int .i64 0, .int .i64 0, .int .i64 0, .int .i64 0, .int .i64 0, .int .i64 0, .int .i64 0, .int .i64 0, .int .i64 0, .int .i64 0, .int .i64 0, .int .i64 0, .int .i64 0, .int .i64 0, .int .i64 0, .int .i64 0, .int .i64 0, .int .i64 0, .int .i64 0, .int .i64 0, .int .i64 0, .int .i64 0, .int .i64 0, .int .i64 0, .int .i64 0, .int .i64 0, .int .i64 0, .int .i64 0, .int .i64 0, .int .i64 0, .int .i64 0, .int .i64 0, .int .i64 0, .int .i64 0, .int .i64 0, .int .i64 0, .int .i64 0, .int .i64 0, .int .i64 0, .int .i64 0, .int .i64 0, .int .i64 0, .int .i64 0, .int .i64 0, .int .i64 0, .int .i64 0, .int .i64 0, .int .i64 0, .int .i64 0, .int .i64 0, .int .i64 0, .int .i64 0] 100)).setRow w2.heap.size (rowI I)) := store64 hn0
  have hA3 : ARI w2.heap.size I ((w2.alloc (.cells #[.int .i64 0, .int .i64 0, .int .i64 0, .int .i64 0, .int .i64 0, .int .i64 0, .int .i64 0, .int .i64 0, .int .i64 0, .int .i64 0, .int .i64 0, .int .i64 0, .int .i64 0, .int .i64 0, .int .i64 0, .int .i64 0, .int .i64 0, .int .i64 0, .int .i64 0, .int .i64 0, .int .i64 0, .int .i64 0, .int .i64 0, .int .i64 0, .int .i64 0, .int .i64 0, .int .i64 0, .int .i64 0, .int .i64 0, .int .i64 0, .int .i64 0, .int .i64 0, .int .i64 0, .int .i64 0, .int .i64 0, .int .i64 0, .int .i64 0, .int .i64 0, .int .i64 0, .int .i64 0, .int .i64 0, .int .i64 0, .int .i64 0, .int .i64 0, .int .i64 0, .int .i64 0, .int .i64 0, .int .i64 0, .int .i64 0, .int .i64 0, .int .i64 0, .int .i64 0, .int .i64 0, .int .i64 0, .int .i64 0, .int .i64 0, .int .i64 0, .int .i64 0, .int .i64 0, .int .i64 0, .int .i64 0, .int .i64 0, .int .i64 0, .int .i64 0] 100)).setRow w2.heap.size (rowI I)) := setRow_heap _ _ _ _ _ _ hn0
  have hb3 : Below w2.heap.size w2 ((w2.alloc (.cells #[.int .i64 0, .int .i64 0, .int .i64 0, .int .i64 0, .int .i64 0, .int .i64 0, .int .i64 0, .int .i64 0, .int .i64 0, .int .i64 0, .int .i64 0, .int .i64 0, .int .i64 0, .int .i64 0, .int .i64 0, .int .i64 0, .int .i64 0, .int .i64 0, .int .i64 0, .int .i64 0, .int .i64 0, .int .i64 0, .int .i64 0, .int .i64 0, .int .i64 0, .int .i64 0, .int .i64 0, .int .i64 0, .int .i64 0, .int .i64 0, .int .i64 0, .int .i64 0, .int .i64 0, .int .i64 0, .int .i64 0, .int .i64 0, .int .i64 0, .int .i64 0, .int .i64 0, .int .i64 0, .int .i64 0, .int .i64 0, .int .i64 0, .int .i64 0, .int .i64 0, .int .i64 0, .int .i64 0, .int .i64 0, .int .i64 0, .int .i64 0, .int .i64 0, .int .i64 0, .int .i64 0, .int .i64 0, .int .i64 0, .int .i64 0, .int .i64 0, .int .i64 0, .int .i64 0, .int .i64 0, .int .i64 0, .int .i64 0, .int .i64 0, .int .i64 0] 100)).setRow w2.heap.size (rowI I)) := below_row ((Below.refl _ _).alloc (Nat.le_refl _) _) (Nat.le_refl _) _
  have L3 := (L1.call hb2).call hb3
  have V3 := (V1.call hb2).call hb3
  have R3 := (R1.call hb2).call hb3
  have B3 := bstep (bstep B1 hb2) hb3
  clear hn0 hb2 hb3 L1 V1 R1 B1 CO hM l1c0 l1c1 l1c2 l1l
  generalize ((w2.alloc (.cells #[.int .i64 0, .int .i64 0, .int .i64 0, .int .i64 0, .int .i64 0, .int .i64 0, .int .i64 0, .int .i64 0, .int .i64 0, .int .i64 0, .int .i64 0, .int .i64 0, .int .i64 0, .int .i64 0, .int .i64 0, .int .i64 0, .int .i64 0, .int .i64 0, .int .i64 0, .int .i64 0, .int .i64 0, .int .i64 0, .int .i64 0, .int .i64 0, .int .i64 0, .int .i64 0, .int .i64 0, .int .i64 0, .int .i64 0, .int .i64 0, .int .i64 0, .int .i64 0, .int .i64 0, .int .i64 0, .int .i64 0, .int .i64 0, .int .i64 0, .int .i64 0, .int .i64 0, .int .i64 0, .int .i64 0, .int .i64 0, .int .i64 0, .int .i64 0, .int .i64 0, .int .i64 0, .int .i64 0, .int .i64 0, .int .i64 0, .int .i64 0, .int .i64 0, .int .i64 0, .int .i64 0, .int .i64 0, .int .i64 0, .int .i64 0, .int .i64 0, .int .i64 0, .int .i64 0, .int .i64 0, .int .i64 0, .int .i64 0, .int .i64 0, .int .i64 0] 100)).setRow w2.heap.size (rowI I)) = w3 at hst hA3 L3 V3 R3 B3
  obtain ⟨w4, hmk, hown4, hgr4⟩ := run_make_full (P := Tryz.prog) w3 w3.heap.size 24 2 i0 (.int .i64 0) 1 Tryz.underlying24 hinf hz0 hz1 .i64 .i64 (orbF p q B xs).length (by have := HLN.out; rw [hz2]; omega) (by have := HLN.out; unfold maxLen; omega) (Nat.le_refl _)
  have hb4 : Below w3.heap.size w3 w4 := Below.grown (Below.refl _ _) hgr4 (Nat.le_refl _) (fun r hr => by cases hr)
  have RR4 : IRow w3.heap.size ((orbF p q B xs).length * 1) (fun _ => 0) w4 := by
   have hl := hown4.lt w3.heap.size rfl
   refine ⟨hl.2, fun t ht => ⟨?_, hown4.frozenAt t⟩⟩
   rw [hown4.cellAt t ht]
   have ht2 : t < (madeCells (Value.cells (.int .i64 0)) ((orbF p q B xs).length * 1)).toList.length := by rw [hown4.1]; exact ht
   rw [List.getElem?_eq_getElem ht2]
   exact congrArg some (made_zeroK _ _ (List.getElem_mem ht2))
  have L4 := L3.call hb4
  have V4 := V3.call hb4
  have R4 := R3.call hb4
  have A4 := hA3.call hb4
  have B4 := bstep B3 hb4
  have z3 : w2.heap.size < w3.heap.size := hA3.lt
  have z4 := hb4.size
  have zR := R3.lt
  have HBX := Lib.hid (nu_idx HG.out HM.out HKQ.out)
  have hI4 := A4.at (nb (q : Int) (x, y)) (by have := HKQ.out; have := HPQ.out; omega)
  rw [HBX.out.1] at hI4
  obtain ⟨i, hi⟩ : ∃ i, i = nuX p q B xs (nb (q : Int) (x, y)) := ⟨_, rfl⟩
  have him : i < (orbF p q B xs).length := by rw [hi]; exact HBX.out.2
  rw [← hi] at hI4
  have HI := Lib.hid hi
  have hc4 := RR4.at i (by omega)
  have hf4 := RR4.free i (by omega)
  obtain ⟨kb, hkb⟩ : ∃ kb, kb = nb (q : Int) (x, y) := ⟨_, rfl⟩
  rw [← hkb] at hI4 CN
  have hk64 : kb < 64 := by rw [hkb]; have := HKQ.out; have := HPQ.out; omega
  have hk65 : (kb : Int) < 64 := by omega
  have him2 : (i : Int) < ((orbF p q B xs).length : Int) := by omega
  have hli : ((orbF p q B xs).length : Int) ≤ 64 := by have := HLN.out; omega
  clear hown4 hgr4 hi hkb L3 V3 R3 B3 hA3
  have l4c0 := L4.c0
  have l4c1 := L4.c1
  have l4c2 := L4.c2
  have l4l := L4.lt
  have v4c0 := V4.c0
  have v4c1 := V4.c1
  have v4l := V4.lt
  go_wp2_with fail
  refine (CN.out _).mono ?_
  rintro e w5 ⟨rfl, hb5⟩
  have L5 := L4.call hb5
  have R5 := R4.call hb5
  have A5 := A4.call hb5
  have B5 := bstep B4 hb5
  have RR5 := RR4.call hb5
  have hI5 := A5.at kb hk64
  have hI6 : w5.cell? ⟨w2.heap.size, kb, none⟩ = some (.int .i64 (i : Int)) := (hb5.cell (p := ⟨w2.heap.size, kb, none⟩) (by dsimp only; omega)).trans hI4
  have hc5 := RR5.at i (by omega)
  have hf5 := RR5.free i (by omega)
  have z5 := hb5.size
  have L6 : Bx w.heap.size [.int .i64 (p : Int), .int .i64 B, .int .i64 (q : Int)] (w5.setCell ⟨w3.heap.size, i, none⟩ (.int .i64 1)) := Bx.sameK L5 (by simp [World.setCell]) (Below.heap_setCell _ _ _ _ (by dsimp only; omega))
  have R6 : BX (w.heap.size + 1 + 1) [.int .i64 0, .int .i64 0, .int .i64 0, .int .i64 0, .slice none 0 0] (w5.setCell ⟨w3.heap.size, i, none⟩ (.int .i64 1)) := BX.same R5 (by simp [World.setCell]) (Below.heap_setCell _ _ _ _ (by dsimp only; omega))
  have A6 : ARI w2.heap.size I (w5.setCell ⟨w3.heap.size, i, none⟩ (.int .i64 1)) := A5.far (by dsimp only; omega)
  have B6 : Below w.heap.size w (w5.setCell ⟨w3.heap.size, i, none⟩ (.int .i64 1)) := B5.setCell (by dsimp only; omega) _
  have RR6 := RR5.put i (by omega) 1
  have SC6 := Lib.hid (row_ofK (cap := (orbF p q B xs).length) RR6 HLN.out)
  have HI64 := Lib.hid (show (Tryz.prog.info? 100).map (·.size) = some (rowI I).size from by rw [rowI_size]; kernel_rfl)
  have z6 := R6.lt
  have ARI6 := Lib.hid A6
  have H6 := Lib.hid (And.intro R6 B6)
  clear L4 R4 A4 B4 RR4 hb5 L5 R5 A5 B5 RR5 hI5 hst hmk CN RR6 hc4 hf4 hI4 A6 l4c0 l4c1 l4c2 l4l v4c0 v4c1 v4l V4 R6 B6
  have l6c0 := L6.c0
  have l6c1 := L6.c1
  have l6c2 := L6.c2
  have l6l := L6.lt
  generalize hW6 : w5.setCell ⟨w3.heap.size, i, none⟩ (.int .i64 1) = w6 at L6 SC6 z6 ARI6 H6 l6c0 l6c1 l6c2 l6l
  have HW6 := Lib.hid hW6
  go_wp2_with (refine wpList_load_row rfl 100 (.tmp 12) rfl w2.heap.size rfl 100 (rowI I) (0, 0) _ ARI6.out Tryz.underlying100 rfl HI64.out ?_)
  refine (painted_any (idx := nuX p q B xs) HL.out SC6.out (fun t ht => nu_idx HG.out HM.out ht)).mono ?_
  rintro e w7 ⟨v7, rfl, r7', hb7⟩
  have r7 : SRow w6.heap.size w7.heap.size 1 v7 (p * q) (seG (p : Int) B (q : Int) xs (x, y)) w7 := r7'.extK (fun t ht => by
   have h9 := seG_ext HG.out HCL.out ht
   rw [← HI.out] at h9
   exact h9)
  have R7 := H6.out.1.call hb7
  have B7 := bstep H6.out.2 hb7
  clear L6 l6c0 l6c1 l6c2 l6l r7' hW6
  have HR := Lib.hid (r7.low (lo' := w.heap.size + 3) (by omega))
  obtain ⟨ao7, cap7, rfl⟩ := r7.slice
  have HB := Lib.hid B7
  clear r7 B7 hb7
  have r7c0 := R7.c0
  have r7c1 := R7.c1
  have r7c2 := R7.c2
  have r7c3 := R7.c3
  have r7c4 := R7.c4
  have r7f0 := R7.f0
  have r7f1 := R7.f1
  have r7f2 := R7.f2
  have r7f3 := R7.f3
  have r7f4 := R7.f4
  have r7l := R7.lt
  go_wp2
  refine bodyPost_ret (v := .tuple #[(.agg #[.int .i64 f, .int .i64 (p : Int), .int .i64 B, .int .i64 (q : Int), .slice ao7 (p * q) cap7]), .int .i64 0]) (by simp [results, Tryz.results32, go_sem, *]) rfl ⟨_, _, _, _, _, _, _, _, EA.out, rfl, ?_, ?_⟩
  ·refine SRow.up (hi := w7.heap.size) (SRow.low (lo := w.heap.size + 3) ?_ (by omega))
   repeat (first | with_reducible exact HR.out | with_reducible refine SRow.put (by first | omega | (dsimp only; omega)) _ ?_)
  ·have hB := HB.out
   exact pkSe0
set_option maxRecDepth 100000 in
set_option maxHeartbeats 16000000 in
theorem specSe_any {lo' hi' : Nat} {v9 : Value} {xs : List M6} {w : World} (f A B C x y : Int) (hx : SRow lo' hi' 6 v9 xs.length (fm xs) w) (hn : xs.length ≤ 1048576) :
  Calls Tryz.prog 30 #[.int .i64 f, .agg #[.int .i64 A, .int .i64 B, .int .i64 C], v9, .agg #[.int .i64 x, .int .i64 y]] w (PAnK (seR f A B C xs x y) w) := by
 obtain ⟨i0, hinf, hz0, hz1, hz2⟩ := info_parts infoI64K
 have RX := Lib.hid hx
 have HN := Lib.hid hn
 clear hx hn
 have L0 : Bx w.heap.size [.int .i64 A, .int .i64 B, .int .i64 C] (((w.alloc (.cells #[.int .i64 A, .int .i64 B, .int .i64 C] 32)).alloc (.cells #[.int .i64 x, .int .i64 y] 55)).alloc (.cells #[.int .i64 0, .int .i64 0, .int .i64 0, .int .i64 0, .slice none 0 0] 34)) := (((Bx.at _ rfl).alloc _).alloc _)
 have V0 : Bx (w.heap.size + 1) [.int .i64 x, .int .i64 y] (((w.alloc (.cells #[.int .i64 A, .int .i64 B, .int .i64 C] 32)).alloc (.cells #[.int .i64 x, .int .i64 y] 55)).alloc (.cells #[.int .i64 0, .int .i64 0, .int .i64 0, .int .i64 0, .slice none 0 0] 34)) := ((Bx.at _ (by simp)).alloc _)
 have R0 : BX (w.heap.size + 1 + 1) [.int .i64 0, .int .i64 0, .int .i64 0, .int .i64 0, .slice none 0 0] (((w.alloc (.cells #[.int .i64 A, .int .i64 B, .int .i64 C] 32)).alloc (.cells #[.int .i64 x, .int .i64 y] 55)).alloc (.cells #[.int .i64 0, .int .i64 0, .int .i64 0, .int .i64 0, .slice none 0 0] 34)) := (BX.at _ (by simp))
 have B0 : Below w.heap.size w (((w.alloc (.cells #[.int .i64 A, .int .i64 B, .int .i64 C] 32)).alloc (.cells #[.int .i64 x, .int .i64 y] 55)).alloc (.cells #[.int .i64 0, .int .i64 0, .int .i64 0, .int .i64 0, .slice none 0 0] 34)) := by exact pkSe0
 obtain ⟨ao9, cap9, rfl⟩ := RX.out.slice
 have CW := Lib.hid (fun (X : World) => l07Cell_any A B C x y X)
 have CC := Lib.hid (fun (X : World) (hX : Below w.heap.size w X) => l07Code_any f A B C (cel7 A C x y) (RX.out.call hX) HN.out)
 have hsb : (cel7 A C x y && grpB f A B C xs) = sbB f A B C xs x y := rfl
 rw [hsb] at CC
 rcases hg : sbB f A B C xs x y with _ | _
 ·have EA := Lib.hid (se_bad hg)
  have hc := cod6_nz f A B C
  rw [hg] at CC
  clear hg hsb
  generalize cod6 f A B C false = cc at CC hc EA
  generalize cel7 A C x y = ib at CW CC
  go_enter Tryz.func30, Tryz.ntmps30
  have l0c0 := L0.c0
  have l0c1 := L0.c1
  have l0c2 := L0.c2
  have l0l := L0.lt
  have v0c0 := V0.c0
  have v0c1 := V0.c1
  have v0l := V0.lt
  go_wp2_with fail
  go_region_held3 (fun W9 => (W9.cell? ⟨w.heap.size, 0, none⟩ = some (.int .i64 A) ∧ W9.cell? ⟨w.heap.size, 1, none⟩ = some (.int .i64 B) ∧ W9.cell? ⟨w.heap.size, 2, none⟩ = some (.int .i64 C)) ∧ (W9.cell? ⟨(w.heap.size + 1), 0, none⟩ = some (.int .i64 x) ∧ W9.cell? ⟨(w.heap.size + 1), 1, none⟩ = some (.int .i64 y))) ((refine (And.intro (Bx.cells3 ?_) (Bx.cells2 ?_))) <;> (with_reducible exact pkSe5))
   (first
    | (go_at_call 62; (with_reducible refine (CW.out _).mono ?_); rintro e u1 ⟨rfl, hb1⟩; have L1 : Bx w.heap.size [.int .i64 A, .int .i64 B, .int .i64 C] u1 := (by with_reducible exact pkSe5); have V1 : Bx (w.heap.size + 1) [.int .i64 x, .int .i64 y] u1 := (by with_reducible exact pkSe5); have E1 : Below (((w.alloc (.cells #[.int .i64 A, .int .i64 B, .int .i64 C] 32)).alloc (.cells #[.int .i64 x, .int .i64 y] 55)).alloc (.cells #[.int .i64 0, .int .i64 0, .int .i64 0, .int .i64 0, .slice none 0 0] 34)).heap.size (((w.alloc (.cells #[.int .i64 A, .int .i64 B, .int .i64 C] 32)).alloc (.cells #[.int .i64 x, .int .i64 y] 55)).alloc (.cells #[.int .i64 0, .int .i64 0, .int .i64 0, .int .i64 0, .slice none 0 0] 34)) u1 := (by exact pkSe1); have C1 : Below w.heap.size w u1 := (by exact pkSe1))
    | (go_at_call 55; (with_reducible refine (CC.out _ (by exact pkSe1)).mono ?_); rintro e u2 ⟨rfl, hb2⟩; have L2 : Bx w.heap.size [.int .i64 A, .int .i64 B, .int .i64 C] u2 := (by with_reducible exact pkSe5); have V2 : Bx (w.heap.size + 1) [.int .i64 x, .int .i64 y] u2 := (by with_reducible exact pkSe5); have E2 : Below (((w.alloc (.cells #[.int .i64 A, .int .i64 B, .int .i64 C] 32)).alloc (.cells #[.int .i64 x, .int .i64 y] 55)).alloc (.cells #[.int .i64 0, .int .i64 0, .int .i64 0, .int .i64 0, .slice none 0 0] 34)).heap.size (((w.alloc (.cells #[.int .i64 A, .int .i64 B, .int .i64 C] 32)).alloc (.cells #[.int .i64 x, .int .i64 y] 55)).alloc (.cells #[.int .i64 0, .int .i64 0, .int .i64 0, .int .i64 0, .slice none 0 0] 34)) u2 := bstep E1 hb2; have C2 : Below w.heap.size w u2 := bstep C1 hb2))
  all_goals
   have R2 := R0.call E2
   have B2 := C2
   clear R0 C2
   clear L0 V0 B0 L1 V1 E1 C1 hb1 hb2 E2 CW CC l0c0 l0c1 l0c2 l0l v0c0 v0c1 v0l
   have r2c0 := R2.c0
   have r2c1 := R2.c1
   have r2c2 := R2.c2
   have r2c3 := R2.c3
   have r2c4 := R2.c4
   have r2f0 := R2.f0
   have r2f1 := R2.f1
   have r2f2 := R2.f2
   have r2f3 := R2.f3
   have r2f4 := R2.f4
   have r2l := R2.lt
   go_wp2
   refine bodyPost_ret (v := .tuple #[(.agg #[.int .i64 0, .int .i64 0, .int .i64 0, .int .i64 0, .slice none 0 0]), .int .i64 cc]) (by simp [results, Tryz.results30, go_sem, *]) rfl ⟨_, _, _, _, _, _, _, _, EA.out, rfl, ?_, ?_⟩
   ·exact SRow.nil _ 1 _ _
   ·exact pkSe0
 ·obtain ⟨hgr, hcl⟩ := sb_parts hg
  obtain ⟨p, q, rfl, rfl⟩ := lat_nat7 (grp_good hgr).1
  have HG := Lib.hid hgr
  have HCL := Lib.hid hcl
  have EA := Lib.hid (se_good hg)
  have HL := Lib.hid (grp_good hgr).1
  have HPQ := Lib.hid (latI_pq (grp_good hgr).1)
  rw [hg, cod6_ok hgr] at CC
  generalize cel7 (p : Int) (q : Int) x y = ib at CW CC
  have hpq : (p : Int) * (q : Int) = ((p * q : Nat) : Int) := by simp
  have CO := Lib.hid (fun (X : World) (hX : Below w.heap.size w X) => l07Orbit_any x y HG.out HCL.out (RX.out.call hX))
  clear hg hgr hcl hsb
  obtain ⟨n, hn⟩ : ∃ n, n = p * q := ⟨_, rfl⟩
  have HNN := Lib.hid hn
  rw [← hn] at hpq
  have hn64 : (n : Int) ≤ 64 := by have := HPQ.out; omega
  have HMK := Lib.hid (fun (X : World) => (show Sem.run Tryz.prog (Instr.makeSlice 24 (.int .i64 (n : Int)) (.int .i64 (n : Int))) X = .ok (.slice (some ⟨X.heap.size, 0, none⟩) n n) (X.alloc (.cells (madeCells (Value.cells (.int .i64 0)) (n * 1)) 2)) from by
   have h9 := run_make (P := Tryz.prog) X 24 2 i0 (.int .i64 0) Tryz.underlying24 hinf hz0 .i64 .i64 (n : Int) (n : Int) (by omega) (Int.le_refl _) (by rw [hz2]; omega) (by omega)
   rw [hz1] at h9
   simpa using h9))
  clear hn
  go_enter Tryz.func30, Tryz.ntmps30
  have l0c0 := L0.c0
  have l0c1 := L0.c1
  have l0c2 := L0.c2
  have l0l := L0.lt
  have v0c0 := V0.c0
  have v0c1 := V0.c1
  have v0l := V0.lt
  go_wp2_with fail
  go_region_held3 (fun W9 => (W9.cell? ⟨w.heap.size, 0, none⟩ = some (.int .i64 (p : Int)) ∧ W9.cell? ⟨w.heap.size, 1, none⟩ = some (.int .i64 B) ∧ W9.cell? ⟨w.heap.size, 2, none⟩ = some (.int .i64 (q : Int))) ∧ (W9.cell? ⟨(w.heap.size + 1), 0, none⟩ = some (.int .i64 x) ∧ W9.cell? ⟨(w.heap.size + 1), 1, none⟩ = some (.int .i64 y))) ((refine (And.intro (Bx.cells3 ?_) (Bx.cells2 ?_))) <;> (with_reducible exact pkSe5))
   (first
    | (go_at_call 62; (with_reducible refine (CW.out _).mono ?_); rintro e u1 ⟨rfl, hb1⟩; have L1 : Bx w.heap.size [.int .i64 (p : Int), .int .i64 B, .int .i64 (q : Int)] u1 := (by with_reducible exact pkSe5); have V1 : Bx (w.heap.size + 1) [.int .i64 x, .int .i64 y] u1 := (by with_reducible exact pkSe5); have E1 : Below (((w.alloc (.cells #[.int .i64 (p : Int), .int .i64 B, .int .i64 (q : Int)] 32)).alloc (.cells #[.int .i64 x, .int .i64 y] 55)).alloc (.cells #[.int .i64 0, .int .i64 0, .int .i64 0, .int .i64 0, .slice none 0 0] 34)).heap.size (((w.alloc (.cells #[.int .i64 (p : Int), .int .i64 B, .int .i64 (q : Int)] 32)).alloc (.cells #[.int .i64 x, .int .i64 y] 55)).alloc (.cells #[.int .i64 0, .int .i64 0, .int .i64 0, .int .i64 0, .slice none 0 0] 34)) u1 := (by exact pkSe1); have C1 : Below w.heap.size w u1 := (by exact pkSe1))
    | (go_at_call 55; (with_reducible refine (CC.out _ (by exact pkSe1)).mono ?_); rintro e u2 ⟨rfl, hb2⟩; have L2 : Bx w.heap.size [.int .i64 (p : Int), .int .i64 B, .int .i64 (q : Int)] u2 := (by with_reducible exact pkSe5); have V2 : Bx (w.heap.size + 1) [.int .i64 x, .int .i64 y] u2 := (by with_reducible exact pkSe5); have E2 : Below (((w.alloc (.cells #[.int .i64 (p : Int), .int .i64 B, .int .i64 (q : Int)] 32)).alloc (.cells #[.int .i64 x, .int .i64 y] 55)).alloc (.cells #[.int .i64 0, .int .i64 0, .int .i64 0, .int .i64 0, .slice none 0 0] 34)).heap.size (((w.alloc (.cells #[.int .i64 (p : Int), .int .i64 B, .int .i64 (q : Int)] 32)).alloc (.cells #[.int .i64 x, .int .i64 y] 55)).alloc (.cells #[.int .i64 0, .int .i64 0, .int .i64 0, .int .i64 0, .slice none 0 0] 34)) u2 := bstep E1 hb2; have C2 : Below w.heap.size w u2 := bstep C1 hb2))
  all_goals
   have R2 := R0.call E2
   have B2 := C2
   clear R0 C2
   clear L0 V0 B0 L1 V1 E1 C1 hb1 hb2 E2 CW CC l0c0 l0c1 l0c2 l0l v0c0 v0c1 v0l
   have l2c0 := L2.c0
   have l2c1 := L2.c1
   have l2c2 := L2.c2
   have l2l := L2.lt
   have hmk : ∀ X : World, Sem.run Tryz.prog (Instr.makeSlice 24 (.int .i64 (n : Int)) (.int .i64 (n : Int))) X = .ok (.slice (some ⟨X.heap.size, 0, none⟩) n n) (X.alloc (.cells (madeCells (Value.cells (.int .i64 0)) (n * 1)) 2)) := HMK.out
   have hwn : IntKind.i64.wrap (n : Int) = (n : Int) := by rw [IntKind.wrap_i64]; omega
   go_upto_region 4 with fail
   go_cut [11] (fun s11 wx => SeC f B p q n u2 s11 wx)
   case first =>
    go_region_held3 (fun W9 => (W9.cell? ⟨w.heap.size, 0, none⟩ = some (.int .i64 (p : Int)) ∧ W9.cell? ⟨w.heap.size, 1, none⟩ = some (.int .i64 B) ∧ W9.cell? ⟨w.heap.size, 2, none⟩ = some (.int .i64 (q : Int)))) ((refine (Bx.cells3 ?_)) <;> (with_reducible exact pkSe5))
     (fail)
    all_goals
     go_wp2
     go_meet
     first | exact SeC.one _ _ _ _ _ _ _ _ | exact SeC.two _ _ _ _ _ _ _ _
   case rest =>
    obtain ⟨d, g, rfl, D3, Z3, hdg, hd2, hg2, hb3⟩ := hcut
    have L3 := L2.call hb3
    have V3 := V2.call hb3
    have R3 := R2.call hb3
    have B3 := bstep B2 hb3
    have hdl := D3.lt
    have hgl := Z3.1
    have zr2 := R2.lt
    clear L2 V2 R2 B2 hb3 l2c0 l2c1 l2c2 l2l hmk hwn HMK
    have l3c0 := L3.c0
    have l3c1 := L3.c1
    have l3c2 := L3.c2
    have l3l := L3.lt
    have v3c0 := V3.c0
    have v3c1 := V3.c1
    have v3l := V3.lt
    go_wp2_with fail
    refine (CO.out _ B3).mono ?_
    rintro e w4 ⟨gO, capO, rfl, K4, hb4⟩
    have L4 := L3.call hb4
    have R4 := R3.call hb4
    have D4 := D3.call hb4
    have Z4 := Z3.call hb4
    have B4 := bstep B3 hb4
    have hgO := K4.lt
    have zb4 := hb4.size
    clear L3 V3 R3 D3 Z3 B3 hb4 CO l3c0 l3c1 l3c2 l3l v3c0 v3c1 v3l
    have HO8 : (orbL (p : Int) B (q : Int) xs (x, y)).length ≤ 768 := Nat.le_trans (orbL_len _ _ _ _ _) (grp_len HG.out)
    have HCE := Lib.hid (fun (i : Nat) (hi : i < (orbL (p : Int) B (q : Int) xs (x, y)).length) => orb_cel HL.out (orbL_mem.1 (List.getElem_mem hi)))
    have HFI := Lib.hid (fun (F : Nat → Int) (h : SeI (q : Int) (orbL (p : Int) B (q : Int) xs (x, y)) (p * q) (orbL (p : Int) B (q : Int) xs (x, y)).length F) (t : Nat) (ht : t < p * q) => SeI.fin HG.out h ht)
    generalize orbL (p : Int) B (q : Int) xs (x, y) = Ok at *
    have hO8 : (Ok.length : Int) ≤ 768 := by omega
    have hdO : d ≠ gO := by omega
    have hgO2 : g ≠ gO := by omega
    go_wp2_with fail
    go_loopw [13] (fun s X => ∃ (i : Nat) (F : Nat → Int), s = .int .i64 (i : Int) ∧ i ≤ Ok.length ∧ SeI (q : Int) Ok n i F ∧ IRow g (n * 1) F X ∧ Two g g w4 X ∧ Below w.heap.size w X) (fun s _ => Ok.length - (intOf s).toNat)
    case atStart => exact ⟨0, _, rfl, by omega, SeI.start _ _ _, Z4, by first | exact Two.refl _ _ _ | exact (Two.refl _ _ _).drew, B4⟩
    case round =>
     clear Z4 B4
     obtain ⟨i, F, rfl, hi, hN, hR, hT, hB⟩ := hrel
     have hTs := hT.size
     have L5 : Bx w.heap.size [.int .i64 (p : Int), .int .i64 B, .int .i64 (q : Int)] wr := L4.twoK hT (by omega) (by omega)
     have D5 : Bx d [.int .i64 f, .int .i64 (p : Int), .int .i64 B, .int .i64 (q : Int), .slice (some ⟨g, 0, none⟩) n n] wr := D4.bx.twoK hT hdg hdg
     by_cases hi1 : i < Ok.length
     ·have hi2 : (i : Int) < (Ok.length : Int) := by omega
      have hi3 : (i : Int) ≤ 768 := by omega
      have q1 := K4.vecT hT (by omega) (by omega) i hi1
      have hce := HCE.out i hi1
      have HSP := Lib.hid (SeI.next hN hi1)
      have hbd : nb (q : Int) Ok[i] < n := by
       have h1 := nb_lt HL.out hce
       have h2 := nb_int HL.out hce
       omega
      have HI := Lib.hid hi1
      clear hi hN
      generalize Ok[i] = u at *
      clear hi1
      obtain ⟨x0, x1⟩ := u
      dsimp only at q1
      have CN := Lib.hid (fun W => l03Number_any7 (p : Int) B (q : Int) x0 x1 W HL.out hce)
      clear hce
      generalize nb (q : Int) (x0, x1) = kk at *
      have hbd2 : (kk : Int) < (n : Int) := by omega
      have c3 : KQ7 d 4 (.slice (some ⟨g, 0, none⟩) n n) wr := ⟨D5.lt, D5.c4⟩
      have q1c := q1.cells
      have c3c := c3.cells
      have hLl := L5.lt
      have hDl := D5.lt
      have hgl5 := q1.1
      have zB := hB.size
      have zR5 := hR.1
      have l5c0 := L5.c0
      have l5c1 := L5.c1
      have l5c2 := L5.c2
      have l5l := L5.lt
      go_wp2_with fail
      go_region_held3 (fun W => (W.cell? ⟨w.heap.size, 0, none⟩ = some (.int .i64 (p : Int)) ∧ W.cell? ⟨w.heap.size, 1, none⟩ = some (.int .i64 B) ∧ W.cell? ⟨w.heap.size, 2, none⟩ = some (.int .i64 (q : Int))) ∧ W.cell? ⟨d, 4, none⟩ = some (.slice (some ⟨g, 0, none⟩) n n) ∧ (W.cell? ⟨gO, i * 2, none⟩ = some (.int .i64 x0) ∧ W.cell? ⟨gO, i * 2 + 1, none⟩ = some (.int .i64 x1))) (first | ((with_reducible refine ⟨Bx.cells3 (Bx.twoK ?_ (Two.put (Two.refl g g _) (Or.inl rfl) _) (by omega) (by omega)), KQ7.cells (KQ7.two ?_ (Two.put (Two.refl g g _) (Or.inl rfl) _) (by omega)), Ko2.cells (Ko2.two7 ?_ (Two.put (Two.refl g g _) (Or.inl rfl) _) (by omega))⟩) <;> (with_reducible exact pkSe2)) | ((refine ⟨Bx.cells3 ?_, KQ7.cells ?_, Ko2.cells ?_⟩) <;> (with_reducible exact pkSe2)))
       (first
        | (go_at_call 64; with_reducible refine (CN.out _).mono ?_; rintro e w8 ⟨rfl, hb8⟩; have L8 : Bx w.heap.size [.int .i64 (p : Int), .int .i64 B, .int .i64 (q : Int)] w8 := (by with_reducible exact pkSe2); have Q8 : Ko2 gO (i * 2) x0 x1 w8 := (by with_reducible exact pkSe2); have C8 : KQ7 d 4 (.slice (some ⟨g, 0, none⟩) n n) w8 := (by with_reducible exact pkSe2); have N8 : IRow g (n * 1) F w8 := (by with_reducible exact pkSe2); have T8 : Two g g w4 w8 := (by with_reducible exact pkSe2); have B8 : Below w.heap.size w w8 := (by exact pkSe1); have n8 := N8.at kk (by omega); have f8 := N8.free kk (by omega)))
      all_goals
       clear hR hT hB q1 q1c c3 c3c hb8 Q8 C8 L8 L5 D5 l5c0 l5c1 l5c2 l5l
       have zl8 := N8.1
       go_wp2
       go_roundw
       case rel => exact ⟨i + 1, _, by go_num, by have := HI.out; omega, HSP.out, N8.put kk (by omega) _, T8.put (.inl rfl) _, B8.setCell (by dsimp only; omega) _⟩
       case measure => (have := HI.out); first | (simp [intOf]; done) | (simp [intOf]; omega)
     ·obtain rfl : i = Ok.length := by omega
      have zr4 := R4.lt
      have R5 : BX (w.heap.size + 1 + 1) [.int .i64 0, .int .i64 0, .int .i64 0, .int .i64 0, .slice none 0 0] wr := BX.same R4 hTs (hT.block _ R4.lt (by omega) (by omega))
      have HS9 : Hid (SRow u2.heap.size wr.heap.size 1 (.slice (some ⟨g, 0, none⟩) (p * q) (p * q)) (p * q) (seG (p : Int) B (q : Int) xs (x, y)) wr) := Lib.hid (by
       rw [HNN.out] at hN hR
       exact SRow.extK ⟨Nat.le_refl _, by have := HPQ.out; omega, .inr ⟨g, _, rfl, hg2, hR.1, hR⟩⟩ (fun t ht => HFI.out F hN t ht))
      have HB9 : Hid (Below w.heap.size w wr) := Lib.hid hB
      rw [HNN.out] at D5
      have r5c0 := R5.c0
      have r5c1 := R5.c1
      have r5c2 := R5.c2
      have r5c3 := R5.c3
      have r5c4 := R5.c4
      have r5f0 := R5.f0
      have r5f1 := R5.f1
      have r5f2 := R5.f2
      have r5f3 := R5.f3
      have r5f4 := R5.f4
      have r5l := R5.lt
      have d5c0 := D5.c0
      have d5c1 := D5.c1
      have d5c2 := D5.c2
      have d5c3 := D5.c3
      have d5c4 := D5.c4
      have d5l := D5.lt
      clear hN hR hT hB R4 D4 L4 K4 L5 D5
      go_wp2
      refine bodyPost_ret (v := .tuple #[(.agg #[.int .i64 f, .int .i64 (p : Int), .int .i64 B, .int .i64 (q : Int), .slice (some ⟨g, 0, none⟩) (p * q) (p * q)]), .int .i64 0]) (by simp [results, Tryz.results30, go_sem, *]) rfl ⟨_, _, _, _, _, _, _, _, EA.out, rfl, ?_, ?_⟩
      ·refine SRow.up (hi := wr.heap.size) (SRow.low (lo := u2.heap.size) ?_ (by omega))
       repeat (first | with_reducible exact HS9.out | with_reducible refine SRow.put (by first | omega | (dsimp only; omega)) _ ?_)
      ·have hB := HB9.out
       exact pkSe0
end Go.Proofs.YtdgophfembpniaaGreatDoor
