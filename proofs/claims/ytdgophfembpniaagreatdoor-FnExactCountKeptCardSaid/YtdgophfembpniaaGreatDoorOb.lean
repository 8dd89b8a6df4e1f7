/-
  Several of my texts in one: Co7, Nu7.
-/
import Derived.Test.YtdgophfembpniaaGreatDoorOa
import Derived.Deep.RegionHeld3
import Derived.IntWalk
import Derived.Laws.Rows
import Derived.Laws.Tables
namespace Go.Proofs.YtdgophfembpniaaGreatDoor
section
open Go.RowKit
set_option linter.unusedSimpArgs false
set_option linter.unusedVariables false

theorem lat_nat7 {A B C : Int} (h : latI A B C) : ∃ p q : Nat, A = (p : Int) ∧ C = (q : Int) := by
  obtain ⟨h1, h2, _⟩ := h
  exact ⟨A.toNat, C.toNat, by omega, by omega⟩
theorem own_irow {W : World} {base n : Nat} {v : Value} {G : List M6} {T : TypeId} (h : W.ownsRow base T 6 v G.length (cells6 G)) (hn : 0 < G.length) (hn2 : G.length ≤ 1048576) : ∃ g cap, v = .slice (some ⟨g, 0, none⟩) G.length cap ∧ base ≤ g ∧ IRow g (G.length * 6) (fm G) W := by
  obtain ⟨g1, cap1, rfl, hb1g, hcl1, hcm1⟩ := own_block h hn
  obtain ⟨g1', c1', e1, _, _, r1⟩ := (SRow.big6 h hn2).2.2.resolve_left (fun h => by omega)
  simp only [Value.slice.injEq, Option.some.injEq, Addr.mk.injEq, and_true, true_and] at e1
  obtain ⟨rfl, e1⟩ := e1
  exact ⟨_, _, rfl, hb1g, r1⟩
end
end Go.Proofs.YtdgophfembpniaaGreatDoor

namespace Go.Proofs.YtdgophfembpniaaGreatDoor
section
open Go.RowKit
set_option linter.unusedSimpArgs false
set_option linter.unusedVariables false

theorem index_any7 (A B C : Int) (w : World) (h : -1000000 ≤ A * C ∧ A * C ≤ 1000000) :
    Calls Tryz.prog 95 #[.agg #[.int .i64 A, .int .i64 B, .int .i64 C]] w fun e w' => e = .returned (.int .i64 (A * C)) ∧ Below w.heap.size w w' := by
  go_enter Tryz.func95, Tryz.ntmps95
  go_wp2
  go_ret
  refine ⟨rfl, ?_⟩
  repeat (first | exact Below.refl _ _ | refine Below.setCell ?_ (by first | omega | (simp <;> omega)) _ | refine Below.alloc ?_ (by first | omega | (simp <;> omega)) _ | refine bstep ?_ (by assumption) | refine Below.drew ?_)

/- the numbers of the orbits -/
def NumIs (p q : Nat) (B : Int) (G : List M6) (N : Nat → Int) : Prop := ∀ v, celB (p : Int) (q : Int) v = true → ∀ k (h : k < (orbF p q B G).length), Orb (p : Int) B (q : Int) G (orbF p q B G)[k] v → N (nb (q : Int) v) = (k : Int)
open Classical in
noncomputable def nuI (p q : Nat) (B : Int) (G : List M6) : Nat → Int := if h : ∃ N, NumIs p q B G N then Classical.choose h else fun _ => 0
theorem nuI_is {p q : Nat} {B : Int} {G : List M6} {N : Nat → Int} (h : NumIs p q B G N) : NumIs p q B G (nuI p q B G) := by
  unfold nuI
  rw [dif_pos ⟨N, h⟩]
  exact Classical.choose_spec (p := fun N => NumIs p q B G N) ⟨N, h⟩
theorem nu_cel {p q n : Nat} (hn : n < p * q) : celB (p : Int) (q : Int) (((n / q : Nat) : Int), ((n % q : Nat) : Int)) = true ∧ nb (q : Int) (((n / q : Nat) : Int), ((n % q : Nat) : Int)) = n := by
  have hq : 0 < q := by
    rcases q with _ | q
    · simp at hn
    · omega
  have h1 := Nat.mod_lt n hq
  have h2 : n / q < p := Nat.div_lt_of_lt_mul (by rw [Nat.mul_comm]; exact hn)
  have h3 : ((n / q : Nat) : Int) * (q : Int) + ((n % q : Nat) : Int) = (n : Int) := by
    have e : (n / q) * q + n % q = n := by rw [Nat.mul_comm]; exact Nat.div_add_mod n q
    exact_mod_cast e
  constructor
  · rw [celB_iff]
    dsimp only
    generalize n / q = a at *
    generalize n % q = b at *
    omega
  · unfold nb
    dsimp only
    rw [h3]
    simp
theorem num_uniq {f : Int} {p q : Nat} {B : Int} {G : List M6} (hG : grpB f (p : Int) B (q : Int) G = true) {N N' : Nat → Int} (h1 : NumIs p q B G N) (h2 : NumIs p q B G N') {n : Nat} (hn : n < p * q) : N n = N' n := by
  obtain ⟨hc, e⟩ := nu_cel hn
  obtain ⟨h3, _⟩ := fst_cov hG (cellP q p) (fun v hv => cellP_mem7.1 hv)
  obtain ⟨u, hu, ho⟩ := h3 _ (cellP_mem7.2 hc)
  obtain ⟨k, hk, hku⟩ := List.getElem_of_mem (show u ∈ orbF p q B G from hu)
  rw [← hku] at ho
  have a1 := h1 _ hc k hk ho
  have a2 := h2 _ hc k hk ho
  rw [e] at a1 a2
  rw [a1, a2]
theorem fst_pw (A B C : Int) (G : List M6) : ∀ (vs F : List V2), F.Pairwise (fun u v => ¬ Orb A B C G u v) → (vs.foldl (fstF A B C G) F).Pairwise (fun u v => ¬ Orb A B C G u v)
  | [], _, h => h
  | v :: vs, F, h => by
    rw [List.foldl_cons]
    refine fst_pw A B C G vs _ ?_
    unfold fstF
    split
    · exact h
    · rename_i hn
      rw [List.pairwise_append]
      refine ⟨h, by simp, fun u hu x hx => ?_⟩
      have e : x = v := by simpa using hx
      rw [e]
      exact fun ho => hn ⟨u, hu, ho⟩
theorem orbF_cel {f : Int} {p q : Nat} {B : Int} {G : List M6} (hG : grpB f (p : Int) B (q : Int) G = true) {k : Nat} (hk : k < (orbF p q B G).length) : celB (p : Int) (q : Int) (orbF p q B G)[k] = true :=
  cellP_mem7.1 ((fst_cov hG (cellP q p) (fun v hv => cellP_mem7.1 hv)).2 _ (show (orbF p q B G)[k] ∈ orbF p q B G from List.getElem_mem hk))
theorem orbF_sep {f : Int} {p q : Nat} {B : Int} {G : List M6} (hG : grpB f (p : Int) B (q : Int) G = true) {j k : Nat} (hj : j < (orbF p q B G).length) (hk : k < (orbF p q B G).length) (hjk : j < k) {v : V2} (h1 : Orb (p : Int) B (q : Int) G (orbF p q B G)[j] v) (h2 : Orb (p : Int) B (q : Int) G (orbF p q B G)[k] v) : False :=
  List.pairwise_iff_getElem.1 (fst_pw (p : Int) B (q : Int) G (cellP q p) [] List.Pairwise.nil) j k hj hk hjk (orb_trans hG h1 (orb_symm hG (orbF_cel hG hk) h2))
structure NMid (p q : Nat) (B : Int) (G : List M6) (k i : Nat) (N : Nat → Int) : Prop where
  a : ∀ v, celB (p : Int) (q : Int) v = true → ∀ j (h : j < (orbF p q B G).length), j < k → Orb (p : Int) B (q : Int) G (orbF p q B G)[j] v → N (nb (q : Int) v) = (j : Int)
  b : ∀ (h : k < (orbF p q B G).length) i' (h' : i' < (orbL (p : Int) B (q : Int) G (orbF p q B G)[k]).length), i' < i → N (nb (q : Int) (orbL (p : Int) B (q : Int) G (orbF p q B G)[k])[i']) = (k : Int)
theorem NMid.start (p q : Nat) (B : Int) (G : List M6) (N : Nat → Int) : NMid p q B G 0 0 N := ⟨fun v _ j _ hj => by omega, fun _ i' _ hi => by omega⟩
theorem NMid.step {f : Int} {p q : Nat} {B : Int} {G : List M6} (hG : grpB f (p : Int) B (q : Int) G = true) {k i : Nat} {N : Nat → Int} (hk : k < (orbF p q B G).length) (hi : i < (orbL (p : Int) B (q : Int) G (orbF p q B G)[k]).length) (h : NMid p q B G k i N) :
    NMid p q B G k (i + 1) (fun n => if n = nb (q : Int) (orbL (p : Int) B (q : Int) G (orbF p q B G)[k])[i] then (k : Int) else N n) := by
  have hl := (grp_good hG).1
  have ho := orbL_mem.1 (List.getElem_mem hi)
  refine ⟨fun v hv j hj hjk hjo => ?_, fun _ i' h' hi' => ?_⟩
  · by_cases e : nb (q : Int) v = nb (q : Int) (orbL (p : Int) B (q : Int) G (orbF p q B G)[k])[i]
    · have e2 := nb_inj hl hv (orb_cel hl ho) e
      rw [← e2] at ho
      exact (orbF_sep hG hj hk hjk hjo ho).elim
    · simp only [e, if_false]
      exact h.a v hv j hj hjk hjo
  · by_cases e : nb (q : Int) (orbL (p : Int) B (q : Int) G (orbF p q B G)[k])[i'] = nb (q : Int) (orbL (p : Int) B (q : Int) G (orbF p q B G)[k])[i]
    · simp only [e, if_true]
    · simp only [e, if_false]
      refine h.b hk i' h' ?_
      rcases Nat.lt_or_ge i' i with h9 | h9
      · exact h9
      · obtain rfl : i' = i := by omega
        exact absurd rfl e
theorem NMid.next {p q : Nat} {B : Int} {G : List M6} {k : Nat} {N : Nat → Int} (hk : k < (orbF p q B G).length) (h : NMid p q B G k (orbL (p : Int) B (q : Int) G (orbF p q B G)[k]).length N) : NMid p q B G (k + 1) 0 N := by
  refine ⟨fun v hv j hj hjk hjo => ?_, fun _ i' _ hi => by omega⟩
  by_cases e : j < k
  · exact h.a v hv j hj e hjo
  · obtain rfl : j = k := by omega
    obtain ⟨i', h', e'⟩ := List.getElem_of_mem (orbL_mem.2 hjo)
    have := h.b hk i' h' h'
    rw [e'] at this
    exact this
theorem NMid.done {p q : Nat} {B : Int} {G : List M6} {N : Nat → Int} (h : NMid p q B G (orbF p q B G).length 0 N) : NumIs p q B G N := fun v hv k hk ho => h.a v hv k hk hk ho
theorem TMid.num {p q : Nat} {B : Int} {G : List M6} {J : Nat → Bool} {I : Nat → Int} (h : TMid (p : Int) B (q : Int) G (orbF p q B G) J I) : NumIs p q B G I := h.i
/- the answers of both sides -/
theorem infoI64 : (Tryz.prog.info? 2).map (fun i => (i.zero, i.size, i.bytes)) = some (some (.int .i64 0), 1, 8) := by kernel_rfl
theorem made1_int (n : Nat) : ∀ u ∈ (madeCells (Value.cells (.int .i64 0)) (n * 1)).toList, ∃ z, u = .int .i64 z := by
  intro u hu
  unfold madeCells at hu
  simp only [Value.cells] at hu
  rw [Array.mem_toList_iff, Array.mem_map] at hu
  obtain ⟨i, _, rfl⟩ := hu
  have h : ∀ j, j < 1 → ∃ z, (#[Value.int .i64 0] : Array Value)[j]! = .int .i64 z := by
    intro j hj
    obtain rfl : j = 0 := by omega
    exact ⟨0, rfl⟩
  exact h _ (Nat.mod_lt _ (by simp))
def KQ7 (g o : Nat) (v : Value) (W : World) : Prop := g < W.heap.size ∧ W.cell? ⟨g, o, none⟩ = some v
theorem KQ7.cells {g o : Nat} {v : Value} {W : World} (h : KQ7 g o v W) : W.cell? ⟨g, o, none⟩ = some v := h.2
theorem KQ7.call {g o : Nat} {v : Value} {W w1 : World} (h : KQ7 g o v W) (hb : Below W.heap.size W w1) : KQ7 g o v w1 := ⟨Nat.lt_of_lt_of_le h.1 hb.size, (hb.cell (p := ⟨g, o, none⟩) h.1).trans h.2⟩
theorem KQ7.alloc {g o : Nat} {v : Value} {W : World} (h : KQ7 g o v W) (z : Obj) : KQ7 g o v (W.alloc z) := h.call ((Below.refl _ _).alloc (Nat.le_refl _) _)
theorem KQ7.drew {g o : Nat} {v : Value} {W : World} (h : KQ7 g o v W) : KQ7 g o v W.drew := h.call (Below.refl _ _).drew
theorem KQ7.two {r g o : Nat} {v : Value} {W w1 : World} (h : KQ7 g o v W) (hT : Two r r W w1) (h1 : g ≠ r) : KQ7 g o v w1 := ⟨Nat.lt_of_lt_of_le h.1 hT.size, (hT.cell (r := ⟨g, o, none⟩) h.1 h1 h1).trans h.2⟩
theorem Ko2.two7 {r g o : Nat} {a b : Int} {W w1 : World} (h : Ko2 g o a b W) (hT : Two r r W w1) (h1 : g ≠ r) : Ko2 g o a b w1 := ⟨Nat.lt_of_lt_of_le h.1 hT.size, (hT.cell (r := ⟨g, o, none⟩) h.1 h1 h1).trans h.2.1, (hT.cell (r := ⟨g, o + 1, none⟩) h.1 h1 h1).trans h.2.2⟩
theorem KO2.vecT {r g base cap : Nat} {T : TypeId} {Q : List V2} {W w1 : World} (h : KO2 g base cap T Q W) (hT : Two r r W w1) (hr : g ≠ r) (hn : Q.length ≤ 1000000) (i : Nat) (hi : i < Q.length) : Ko2 g (i * 2) Q[i].1 Q[i].2 w1 := by
  obtain ⟨h1, h2, h3⟩ := h.vec hn i hi
  exact ⟨Nat.lt_of_lt_of_le h1 hT.size, (hT.cell (r := ⟨g, _, none⟩) h1 hr hr).trans h2, (hT.cell (r := ⟨g, _, none⟩) h1 hr hr).trans h3⟩
set_option maxRecDepth 100000 in
set_option maxHeartbeats 4000000 in
theorem l03Number_any7 (A B C x y : Int) (w : World) (hl : latI A B C) (hv : celB A C (x, y) = true) :
    Calls Tryz.prog 64 #[.agg #[.int .i64 A, .int .i64 B, .int .i64 C], .agg #[.int .i64 x, .int .i64 y]] w fun e w' => e = .returned (.int .i64 ((nb C (x, y) : Nat) : Int)) ∧ Below w.heap.size w w' := by
  have h1 := nb_lt hl hv
  have h2 := nb_int hl hv
  dsimp only at h1 h2
  have EA := Lib.hid h2
  have L0 : Kt w.heap.size A B C ((w.alloc (.cells #[.int .i64 A, .int .i64 B, .int .i64 C] 32)).alloc (.cells #[.int .i64 x, .int .i64 y] 55)) := Kt.alloc (Kt.at _ rfl) _
  have V0 : KW (w.heap.size + 1) x y ((w.alloc (.cells #[.int .i64 A, .int .i64 B, .int .i64 C] 32)).alloc (.cells #[.int .i64 x, .int .i64 y] 55)) := KW.at _ (by simp)
  have B0 : Below w.heap.size w ((w.alloc (.cells #[.int .i64 A, .int .i64 B, .int .i64 C] 32)).alloc (.cells #[.int .i64 x, .int .i64 y] 55)) := ((Below.refl _ _).alloc (Nat.le_refl _) _).alloc (by simp) _
  have L0c := L0.cells
  have ⟨v00, v01, v02, v03, v04⟩ := id V0
  have hc := celB_iff.1 hv
  dsimp only at hc
  have hb := latI_bd hl
  obtain ⟨r1, r2⟩ := red_cell (B := B) hc.1.1 hc.1.2 hc.2.1 hc.2.2
  have hr : redV A B C x y = .agg #[.int .i64 x, .int .i64 y] := by unfold redV; rw [r1, r2]
  have CR := Lib.hid (fun W => l03Reduce_any A B C x y W hl (by unfold midI; omega) (by unfold midI; omega))
  rw [hr] at CR
  clear hl hv h2 r1 r2 hr
  go_enter Tryz.func64, Tryz.ntmps64
  go_wp2_with fail
  refine (CR.out _).mono ?_
  rintro e w1 ⟨rfl, hb1⟩
  have L1 := L0.call hb1
  have V1 := V0.call hb1
  have B1 := bstep B0 hb1
  clear hb1 L0 V0 B0 L0c v00 v01 v02 v03 v04 CR
  have L1c := L1.cells
  have ⟨v10, v11, v12, v13, v14⟩ := id V1
  go_wp2
  all_goals
    go_ret
    exact ⟨ret_int EA.out.symm, by repeat (first | with_reducible assumption | with_reducible exact Below.refl _ _ | with_reducible refine Below.drew ?_ | with_reducible refine below_drewN ?_ _ | with_reducible refine Below.setCell ?_ (by first | omega | (simp <;> omega)) _ | with_reducible refine Below.alloc ?_ (by first | omega | (simp <;> omega)) _ | with_reducible refine bstep ?_ (by with_reducible assumption))⟩

set_option maxRecDepth 100000 in
set_option maxHeartbeats 8000000 in
theorem l07Numbers_any {f : Int} {p q : Nat} {B : Int} {lo hi : Nat} {v : Value} {G : List M6} {w : World} (hG : grpB f (p : Int) B (q : Int) G = true) (h : SRow lo hi 6 v G.length (fm G) w) :
    Calls Tryz.prog 85 #[.agg #[.int .i64 ((p : Int)), .int .i64 B, .int .i64 ((q : Int))], v] w fun e w' => ∃ v', e = .returned v' ∧ SRow w.heap.size w'.heap.size 1 v' (p * q) (nuI p q B G) w' ∧ Below w.heap.size w w' := by
  obtain ⟨i0, hinf, hz0, hz1, hz2⟩ := info_parts infoI64
  have HA := Lib.hid h
  have HGR := Lib.hid hG
  have HL := Lib.hid (grp_good hG).1
  have hpq : p * q ≤ 64 := by have := latI_prod (grp_good hG).1; exact_mod_cast this
  have HF64 := Lib.hid (show (orbF p q B G).length ≤ 64 from by
    have h1 := fstL_len (p : Int) B (q : Int) G (cellP q p)
    have h2 : (cellP q p).length ≤ 64 := by rw [cellP_len]; exact hpq
    have h3 : (orbF p q B G).length = (fstL (p : Int) B (q : Int) G (cellP q p)).length := rfl
    omega)
  have HUN := Lib.hid (fun (N : Nat → Int) (hN : NumIs p q B G N) (t : Nat) (ht : t < p * q) => num_uniq hG hN (nuI_is hN) ht)
  have HBD := Lib.hid (fun (x : V2) (hx : celB (p : Int) (q : Int) x = true) => show nb (q : Int) x < p * q from by have h1 := nb_lt HL.out hx; have h2 := nb_int HL.out hx; have h3 : (p : Int) * (q : Int) = ((p * q : Nat) : Int) := by simp
                                                                                                                    omega)
  have hn2 : (p : Int) * (q : Int) = ((p * q : Nat) : Int) := by simp
  obtain ⟨n, hn⟩ : ∃ n, n = p * q := ⟨_, rfl⟩
  rw [← hn] at hn2 hpq HUN HBD
  rw [← hn]
  have L0 : Kt w.heap.size (p : Int) B (q : Int) (w.alloc (.cells #[.int .i64 ((p : Int)), .int .i64 B, .int .i64 ((q : Int))] 32)) := Kt.at _ rfl
  have B0 : Below w.heap.size w (w.alloc (.cells #[.int .i64 ((p : Int)), .int .i64 B, .int .i64 ((q : Int))] 32)) := (Below.refl _ _).alloc (Nat.le_refl _) _
  have CO : Hid (∀ W, Below w.heap.size w W → Calls Tryz.prog 53 #[.agg #[.int .i64 ((p : Int)), .int .i64 B, .int .i64 ((q : Int))], v] W fun e w' => ∃ (g cap : Nat) (vs : List Value), e = .returned (.slice (some ⟨g, 0, none⟩) vs.length cap) ∧ KOs g W.heap.size cap 72 vs w' ∧ OrbV (p : Int) B (q : Int) G W.heap.size (orbF p q B G) vs w' ∧ Below W.heap.size W w') := Lib.hid (fun W hW => l07Orbits_any HGR.out (HA.out.grow hW HA.out.1))
  obtain ⟨ao, cap, rfl⟩ := srow_shape h
  have L0c := L0.cells
  have hn3 : (n : Int) ≤ 64 := by omega
  obtain ⟨w1, hmk, hown1, hgr1⟩ := run_make_full (P := Tryz.prog) (w.alloc (.cells #[.int .i64 ((p : Int)), .int .i64 B, .int .i64 ((q : Int))] 32)) (w.heap.size + 1) 24 2 i0 (.int .i64 0) 1 Tryz.underlying24 hinf hz0 hz1 .i64 .i64 n (by rw [hz2]; omega) (by unfold maxLen; omega) (by simp)
  rw [show ((w.alloc (.cells #[.int .i64 ((p : Int)), .int .i64 B, .int .i64 ((q : Int))] 32))).heap.size = w.heap.size + 1 by simp] at hmk
  clear h hG hn
  have B1 : Below w.heap.size w w1 := Below.grown B0 hgr1 (by simp) (fun r hr => by cases hr)
  have L1 : Kt w.heap.size (p : Int) B (q : Int) w1 := L0.grown hgr1 (fun e => by cases e)
  have S1 : ∃ F, IRow (w.heap.size + 1) (n * 1) F w1 ∧ w.heap.size + 1 < w1.heap.size := by
    rw [show ((w.alloc (.cells #[.int .i64 ((p : Int)), .int .i64 B, .int .i64 ((q : Int))] 32))).heap.size = w.heap.size + 1 by simp] at hown1
    have hl := hown1.lt (w.heap.size + 1) rfl
    refine ⟨intAt (madeCells (Value.cells (.int .i64 0)) (n * 1)).toList, ⟨hl.2, fun t ht => ⟨?_, hown1.frozenAt t⟩⟩, hl.2⟩
    rw [hown1.cellAt t ht]
    exact intAt_eq (made1_int _) (by rw [hown1.1]; exact ht)
  obtain ⟨F0, R1, hg1⟩ := S1
  have L1c := L1.cells
  clear hown1 hgr1 L0 B0 hinf hz0 hz1 hz2
  go_enter Tryz.func85, Tryz.ntmps85
  go_wp2_with fail
  clear L0c hmk
  refine (CO.out _ B1).mono ?_
  rintro e w2 ⟨g, cap2, vs, rfl, K2, V2, hb2⟩
  have L2 := L1.call hb2
  have R2 := R1.call hb2
  have B2 := bstep B1 hb2
  have z2 := hb2.size
  have hgg := K2.lt
  have HVF := Lib.hid V2.1
  have hvl : (vs.length : Int) ≤ 64 := by have h1 := V2.1; have h2 := HF64.out; omega
  have HC1 := Lib.hid (show ∀ k (hk : k < (orbF p q B G).length), ∃ g2 cap3, w2.cell? ⟨g, k, none⟩ = some (.slice (some ⟨g2, 0, none⟩) (orbL (p : Int) B (q : Int) G (orbF p q B G)[k]).length cap3) ∧ KO2 g2 w1.heap.size cap3 55 (orbL (p : Int) B (q : Int) G (orbF p q B G)[k]) w2 from fun k hk => by
    obtain ⟨g2, cap3, e1, e2⟩ := V2.2 k hk
    exact ⟨g2, cap3, ((show w2.ownsRow w1.heap.size 72 1 (.slice (some ⟨g, 0, none⟩) vs.length cap2) vs.length vs from K2).cellAt k (by have := V2.1; omega)).trans e1, e2⟩)
  clear hb2 B1 L1 L1c R1 K2 V2 CO HA
  go_wp2_with fail
  go_loopw [7] (fun s7 W => ∃ (k : Nat) (N : Nat → Int), s7 = .int .i64 (k : Int) ∧ k ≤ vs.length ∧ NMid p q B G k 0 N ∧ IRow (w.heap.size + 1) (n * 1) N W ∧ Kt w.heap.size (p : Int) B (q : Int) W ∧ Two (w.heap.size + 1) (w.heap.size + 1) w2 W ∧ Below w.heap.size w W) (fun s7 _ => vs.length - (intOf s7).toNat)
  case atStart => exact ⟨0, F0, rfl, by omega, NMid.start _ _ _ _ _, R2, L2, by first | exact Two.refl _ _ _ | exact (Two.refl _ _ _).drew, B2⟩
  case round =>
    clear R2 L2 B2
    obtain ⟨k, N, rfl, hk, hN, hR, hL, hT, hB⟩ := hrel
    by_cases hk1 : k < vs.length
    · have hk2 : (k : Int) < (vs.length : Int) := by omega
      have hk3 : (k : Int) ≤ 64 := by omega
      have HKF := Lib.hid (show k < (orbF p q B G).length by have := HVF.out; omega)
      have HK := Lib.hid hk1
      obtain ⟨g2, cap3, c1, K2⟩ := HC1.out k HKF.out
      have hg2 := K2.lt
      have HST := Lib.hid (fun (i : Nat) (N : Nat → Int) (hi : i < (orbL (p : Int) B (q : Int) G ((orbF p q B G)[k]'HKF.out)).length) (hN : NMid p q B G k i N) => NMid.step HGR.out HKF.out hi hN)
      have HNX := Lib.hid (fun (N : Nat → Int) (hN : NMid p q B G k (orbL (p : Int) B (q : Int) G ((orbF p q B G)[k]'HKF.out)).length N) => NMid.next HKF.out hN)
      have HCE := Lib.hid (fun (i : Nat) (hi : i < (orbL (p : Int) B (q : Int) G ((orbF p q B G)[k]'HKF.out)).length) => orb_cel HL.out (orbL_mem.1 (List.getElem_mem hi)))
      have HO8 : (orbL (p : Int) B (q : Int) G (orbF p q B G)[k]).length ≤ 768 := Nat.le_trans (orbL_len _ _ _ _ _) (grp_len HGR.out)
      generalize orbL (p : Int) B (q : Int) G ((orbF p q B G)[k]'HKF.out) = Ok at *
      have hO8 : (Ok.length : Int) ≤ 768 := by omega
      clear hk hk1
      go_wp2_with fail
      go_loopw [8] (fun s8 W => ∃ (i : Nat) (N : Nat → Int), s8 = .int .i64 (i : Int) ∧ i ≤ Ok.length ∧ NMid p q B G k i N ∧ IRow (w.heap.size + 1) (n * 1) N W ∧ Kt w.heap.size (p : Int) B (q : Int) W ∧ Two (w.heap.size + 1) (w.heap.size + 1) w2 W ∧ Below w.heap.size w W) (fun s8 _ => Ok.length - (intOf s8).toNat)
      case atStart => exact ⟨0, N, rfl, by omega, hN, hR, hL, hT, hB⟩
      case round =>
        clear hN hR hL hT hB
        obtain ⟨i, N, rfl, hi, hN, hR, hL, hT, hB⟩ := hrel
        have c2 : wr.cell? ⟨g, k, none⟩ = some (.slice (some ⟨g2, 0, none⟩) Ok.length cap3) := (hT.cell (r := ⟨g, k, none⟩) (by dsimp only; omega) (by dsimp only; omega) (by dsimp only; omega)).trans c1
        have hTs := hT.size
        have gl : g < wr.heap.size := by omega
        by_cases hi1 : i < Ok.length
        · have hi2 : (i : Int) < (Ok.length : Int) := by omega
          have hi3 : (i : Int) ≤ 768 := by omega
          have q1 := K2.vecT hT (by omega) (by omega) i hi1
          have hce := HCE.out i hi1
          have HSP := Lib.hid (HST.out i N hi1 hN)
          have hbd := HBD.out _ hce
          have HI := Lib.hid hi1
          clear hi hN
          generalize Ok[i] = u at *
          clear hi1
          obtain ⟨x0, x1⟩ := u
          dsimp only at q1
          have CN := Lib.hid (fun W => l03Number_any7 (p : Int) B (q : Int) x0 x1 W HL.out hce)
          clear hce
          generalize nb (q : Int) (x0, x1) = kk at *
          have hbd2 : (kk : Int) < (n : Int) := by omega
          have c3 : KQ7 g k (.slice (some ⟨g2, 0, none⟩) Ok.length cap3) wr := ⟨gl, c2⟩
          have q1c := q1.cells
          have hLc := hL.cells
          have hLl := kt_lt hL
          have hgl := q1.1
          have zB := hB.size
          go_wp2_with fail
          go_region_held3 (fun W => (W.cell? ⟨w.heap.size, 0, none⟩ = some (.int .i64 (p : Int)) ∧ W.cell? ⟨w.heap.size, 1, none⟩ = some (.int .i64 B) ∧ W.cell? ⟨w.heap.size, 2, none⟩ = some (.int .i64 (q : Int))) ∧ W.cell? ⟨g, k, none⟩ = some (.slice (some ⟨g2, 0, none⟩) Ok.length cap3) ∧ (W.cell? ⟨g2, i * 2, none⟩ = some (.int .i64 x0) ∧ W.cell? ⟨g2, i * 2 + 1, none⟩ = some (.int .i64 x1))) (first | ((with_reducible refine ⟨Kt.cells (Kt.two ?_ (Two.put (Two.refl (w.heap.size + 1) (w.heap.size + 1) _) (Or.inl rfl) _) (by omega) (by omega)), KQ7.cells (KQ7.two ?_ (Two.put (Two.refl (w.heap.size + 1) (w.heap.size + 1) _) (Or.inl rfl) _) (by omega)), Ko2.cells (Ko2.two7 ?_ (Two.put (Two.refl (w.heap.size + 1) (w.heap.size + 1) _) (Or.inl rfl) _) (by omega))⟩) <;> repeat (first | with_reducible assumption | with_reducible refine Kt.drew ?_ | with_reducible refine Kt.alloc ?_ _ | with_reducible refine Kt.call ?_ (by with_reducible assumption) | with_reducible refine Ko2.drew ?_ | with_reducible refine Ko2.alloc ?_ _ | with_reducible refine Ko2.call ?_ (by with_reducible assumption) | with_reducible refine KQ7.drew ?_ | with_reducible refine KQ7.alloc ?_ _ | with_reducible refine KQ7.call ?_ (by with_reducible assumption) | with_reducible refine IRow.drew ?_ | with_reducible refine IRow.alloc ?_ _ | with_reducible refine IRow.call ?_ (by with_reducible assumption) | with_reducible refine Two.drew ?_ | with_reducible refine Two.alloc ?_ _ | with_reducible refine Two.call ?_ (by with_reducible assumption))) | ((refine ⟨Kt.cells ?_, KQ7.cells ?_, Ko2.cells ?_⟩) <;> repeat (first | with_reducible assumption | with_reducible refine Kt.drew ?_ | with_reducible refine Kt.alloc ?_ _ | with_reducible refine Kt.call ?_ (by with_reducible assumption) | with_reducible refine Ko2.drew ?_ | with_reducible refine Ko2.alloc ?_ _ | with_reducible refine Ko2.call ?_ (by with_reducible assumption) | with_reducible refine KQ7.drew ?_ | with_reducible refine KQ7.alloc ?_ _ | with_reducible refine KQ7.call ?_ (by with_reducible assumption) | with_reducible refine IRow.drew ?_ | with_reducible refine IRow.alloc ?_ _ | with_reducible refine IRow.call ?_ (by with_reducible assumption) | with_reducible refine Two.drew ?_ | with_reducible refine Two.alloc ?_ _ | with_reducible refine Two.call ?_ (by with_reducible assumption))))
            (first
              | (go_at_call 64; with_reducible refine (CN.out _).mono ?_; rintro e w8 ⟨rfl, hb8⟩; have L8 : Kt w.heap.size (p : Int) B (q : Int) w8 := (by repeat (first | with_reducible assumption | with_reducible refine Kt.drew ?_ | with_reducible refine Kt.alloc ?_ _ | with_reducible refine Kt.call ?_ (by with_reducible assumption) | with_reducible refine Ko2.drew ?_ | with_reducible refine Ko2.alloc ?_ _ | with_reducible refine Ko2.call ?_ (by with_reducible assumption) | with_reducible refine KQ7.drew ?_ | with_reducible refine KQ7.alloc ?_ _ | with_reducible refine KQ7.call ?_ (by with_reducible assumption) | with_reducible refine IRow.drew ?_ | with_reducible refine IRow.alloc ?_ _ | with_reducible refine IRow.call ?_ (by with_reducible assumption) | with_reducible refine Two.drew ?_ | with_reducible refine Two.alloc ?_ _ | with_reducible refine Two.call ?_ (by with_reducible assumption))); have Q8 : Ko2 g2 (i * 2) x0 x1 w8 := (by repeat (first | with_reducible assumption | with_reducible refine Kt.drew ?_ | with_reducible refine Kt.alloc ?_ _ | with_reducible refine Kt.call ?_ (by with_reducible assumption) | with_reducible refine Ko2.drew ?_ | with_reducible refine Ko2.alloc ?_ _ | with_reducible refine Ko2.call ?_ (by with_reducible assumption) | with_reducible refine KQ7.drew ?_ | with_reducible refine KQ7.alloc ?_ _ | with_reducible refine KQ7.call ?_ (by with_reducible assumption) | with_reducible refine IRow.drew ?_ | with_reducible refine IRow.alloc ?_ _ | with_reducible refine IRow.call ?_ (by with_reducible assumption) | with_reducible refine Two.drew ?_ | with_reducible refine Two.alloc ?_ _ | with_reducible refine Two.call ?_ (by with_reducible assumption))); have C8 : KQ7 g k (.slice (some ⟨g2, 0, none⟩) Ok.length cap3) w8 := (by repeat (first | with_reducible assumption | with_reducible refine Kt.drew ?_ | with_reducible refine Kt.alloc ?_ _ | with_reducible refine Kt.call ?_ (by with_reducible assumption) | with_reducible refine Ko2.drew ?_ | with_reducible refine Ko2.alloc ?_ _ | with_reducible refine Ko2.call ?_ (by with_reducible assumption) | with_reducible refine KQ7.drew ?_ | with_reducible refine KQ7.alloc ?_ _ | with_reducible refine KQ7.call ?_ (by with_reducible assumption) | with_reducible refine IRow.drew ?_ | with_reducible refine IRow.alloc ?_ _ | with_reducible refine IRow.call ?_ (by with_reducible assumption) | with_reducible refine Two.drew ?_ | with_reducible refine Two.alloc ?_ _ | with_reducible refine Two.call ?_ (by with_reducible assumption))); have N8 : IRow (w.heap.size + 1) (n * 1) N w8 := (by repeat (first | with_reducible assumption | with_reducible refine Kt.drew ?_ | with_reducible refine Kt.alloc ?_ _ | with_reducible refine Kt.call ?_ (by with_reducible assumption) | with_reducible refine Ko2.drew ?_ | with_reducible refine Ko2.alloc ?_ _ | with_reducible refine Ko2.call ?_ (by with_reducible assumption) | with_reducible refine KQ7.drew ?_ | with_reducible refine KQ7.alloc ?_ _ | with_reducible refine KQ7.call ?_ (by with_reducible assumption) | with_reducible refine IRow.drew ?_ | with_reducible refine IRow.alloc ?_ _ | with_reducible refine IRow.call ?_ (by with_reducible assumption) | with_reducible refine Two.drew ?_ | with_reducible refine Two.alloc ?_ _ | with_reducible refine Two.call ?_ (by with_reducible assumption))); have T8 : Two (w.heap.size + 1) (w.heap.size + 1) w2 w8 := (by repeat (first | with_reducible assumption | with_reducible refine Kt.drew ?_ | with_reducible refine Kt.alloc ?_ _ | with_reducible refine Kt.call ?_ (by with_reducible assumption) | with_reducible refine Ko2.drew ?_ | with_reducible refine Ko2.alloc ?_ _ | with_reducible refine Ko2.call ?_ (by with_reducible assumption) | with_reducible refine KQ7.drew ?_ | with_reducible refine KQ7.alloc ?_ _ | with_reducible refine KQ7.call ?_ (by with_reducible assumption) | with_reducible refine IRow.drew ?_ | with_reducible refine IRow.alloc ?_ _ | with_reducible refine IRow.call ?_ (by with_reducible assumption) | with_reducible refine Two.drew ?_ | with_reducible refine Two.alloc ?_ _ | with_reducible refine Two.call ?_ (by with_reducible assumption))); have B8 : Below w.heap.size w w8 := (by repeat (first | with_reducible assumption | with_reducible exact Below.refl _ _ | with_reducible refine Below.alloc ?_ (by first | omega | (simp <;> omega)) _ | with_reducible refine bstep ?_ (by with_reducible assumption) | with_reducible refine Below.drew ?_)); have n8 := N8.at kk (by omega); have f8 := N8.free kk (by omega)))
          all_goals
            clear hL hR hT hB q1 q1c hLc hb8 c2 c3 Q8 C8
            have zl8 := N8.1
            go_wp2
            go_roundw
            case rel => exact ⟨i + 1, _, by go_num, by have := HI.out; omega, HSP.out, N8.put kk (by omega) _, L8.two (Two.put (Two.refl (w.heap.size + 1) (w.heap.size + 1) _) (.inl rfl) _) (by omega) (by omega), T8.put (.inl rfl) _, B8.setCell (by dsimp only; omega) _⟩
            case measure => (have := HK.out); first | (simp [intOf]; done) | (simp [intOf]; omega)
        · obtain rfl : i = Ok.length := by omega
          have hN9 := HNX.out N hN
          clear hi hi1 hN
          go_wp2
          go_roundw
          case rel => exact ⟨k + 1, N, by go_num, by have := HK.out; omega, hN9, hR, hL, hT, hB⟩
          case measure => (have := HK.out); first | (simp [intOf]; done) | (simp [intOf]; omega)
    · obtain rfl : k = vs.length := by omega
      have hvf := HVF.out
      rw [hvf] at hN
      have HNI := Lib.hid (NMid.done hN)
      clear hN hvf
      have HR9 := Lib.hid hR
      have hlt := hR.1
      clear hR
      go_wp2
      go_ret
      exact ⟨_, rfl, ⟨by simp, by omega, .inr ⟨w.heap.size + 1, n, rfl, by omega, by first | exact hlt | simpa using hlt, IRow.ext (by first | exact HR9.out | exact HR9.out.drew) (fun t ht => HUN.out N HNI.out t (by omega))⟩⟩, hB⟩
end
end Go.Proofs.YtdgophfembpniaaGreatDoor

