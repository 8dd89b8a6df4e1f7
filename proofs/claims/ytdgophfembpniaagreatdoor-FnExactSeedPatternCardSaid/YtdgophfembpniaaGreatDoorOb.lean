/-
  Several of my texts in one: Co7, Nu7.
-/
import Derived.Test.YtdgophfembpniaaGreatDoorOa
import Derived.Deep.RegionHeld3
import Derived.IntWalk
import Derived.Laws.Rows
import Derived.Laws.Tables
namespace Go.Proofs.YtdgophfembpniaaGreatDoor
section
open Go.RowKit
set_option linter.unusedSimpArgs false
set_option linter.unusedVariables false

theorem lat_nat7 {A B C : Int} (h : latI A B C) : ∃ p q : Nat, A = (p : Int) ∧ C = (q : Int) := by
  obtain ⟨h1, h2, _⟩ := h
  exact ⟨A.toNat, C.toNat, by omega, by omega⟩
theorem own_irow {W : World} {base n : Nat} {v : Value} {G : List M6} {T : TypeId} (h : W.ownsRow base T 6 v G.length (cells6 G)) (hn : 0 < G.length) (hn2 : G.length ≤ 1048576) : ∃ g cap, v = .slice (some ⟨g, 0, none⟩) G.length cap ∧ base ≤ g ∧ IRow g (G.length * 6) (fm G) W := by
  obtain ⟨g1, cap1, rfl, hb1g, hcl1, hcm1⟩ := own_block h hn
  obtain ⟨g1', c1', e1, _, _, r1⟩ := (SRow.big6 h hn2).2.2.resolve_left (fun h => by omega)
  simp only [Value.slice.injEq, Option.some.injEq, Addr.mk.injEq, and_true, true_and] at e1
  obtain ⟨rfl, e1⟩ := e1
  exact ⟨_, _, rfl, hb1g, r1⟩
end
end Go.Proofs.YtdgophfembpniaaGreatDoor

namespace Go.Proofs.YtdgophfembpniaaGreatDoor
section
open Go.RowKit
set_option linter.unusedSimpArgs false
set_option linter.unusedVariables false

theorem index_any7 (A B C : Int) (w : World) (h : -1000000 ≤ A * C ∧ A * C ≤ 1000000) :
    Calls Tryz.prog 95 #[.agg #[.int .i64 A, .int .i64 B, .int .i64 C]] w fun e w' => e = .returned (.int .i64 (A * C)) ∧ Below w.heap.size w w' := by
  go_enter Tryz.func95, Tryz.ntmps95
  go_wp2
  go_ret
  refine ⟨rfl, ?_⟩
  repeat (first | exact Below.refl _ _ | refine Below.setCell ?_ (by first | omega | (simp <;> omega)) _ | refine Below.alloc ?_ (by first | omega | (simp <;> omega)) _ | refine bstep ?_ (by assumption) | refine Below.drew ?_)

/- the numbers of the orbits -/
def NumIs (p q : Nat) (B : Int) (G : List M6) (N : Nat → Int) : Prop := ∀ v, celB (p : Int) (q : Int) v = true → ∀ k (h : k < (orbF p q B G).length), Orb (p : Int) B (q : Int) G (orbF p q B G)[k] v → N (nb (q : Int) v) = (k : Int)
open Classical in
noncomputable def nuI (p q : Nat) (B : Int) (G : List M6) : Nat → Int := if h : ∃ N, NumIs p q B G N then Classical.choose h else fun _ => 0
theorem nuI_is {p q : Nat} {B : Int} {G : List M6} {N : Nat → Int} (h : NumIs p q B G N) : NumIs p q B G (nuI p q B G) := by
  unfold nuI
  rw [dif_pos ⟨N, h⟩]
  exact Classical.choose_spec (p := fun N => NumIs p q B G N) ⟨N, h⟩
theorem nu_cel {p q n : Nat} (hn : n < p * q) : celB (p : Int) (q : Int) (((n / q : Nat) : Int), ((n % q : Nat) : Int)) = true ∧ nb (q : Int) (((n / q : Nat) : Int), ((n % q : Nat) : Int)) = n := by
  have hq : 0 < q := by
    rcases q with _ | q
    · simp at hn
    · omega
  have h1 := Nat.mod_lt n hq
  have h2 : n / q < p := Nat.div_lt_of_lt_mul (by rw [Nat.mul_comm]; exact hn)
  have h3 : ((n / q : Nat) : Int) * (q : Int) + ((n % q : Nat) : Int) = (n : Int) := by
    have e : (n / q) * q + n % q = n := by rw [Nat.mul_comm]; exact Nat.div_add_mod n q
    exact_mod_cast e
  constructor
  · rw [celB_iff]
    dsimp only
    generalize n / q = a at *
    generalize n % q = b at *
    omega
  · unfold nb
    dsimp only
    rw [h3]
    simp
theorem num_uniq {f : Int} {p q : Nat} {B : Int} {G : List M6} (hG : grpB f (p : Int) B (q : Int) G = true) {N N' : Nat → Int} (h1 : NumIs p q B G N) (h2 : NumIs p q B G N') {n : Nat} (hn : n < p * q) : N n = N' n := by
  obtain ⟨hc, e⟩ := nu_cel hn
  obtain ⟨h3, _⟩ := fst_cov hG (cellP q p) (fun v hv => cellP_mem7.1 hv)
  obtain ⟨u, hu, ho⟩ := h3 _ (cellP_mem7.2 hc)
  obtain ⟨k, hk, hku⟩ := List.getElem_of_mem (show u ∈ orbF p q B G from hu)
  rw [← hku] at ho
  have a1 := h1 _ hc k hk ho
  have a2 := h2 _ hc k hk ho
  rw [e] at a1 a2
  rw [a1, a2]
theorem fst_pw (A B C : Int) (G : List M6) : ∀ (vs F : List V2), F.Pairwise (fun u v => ¬ Orb A B C G u v) → (vs.foldl (fstF A B C G) F).Pairwise (fun u v => ¬ Orb A B C G u v)
  | [], _, h => h
  | v :: vs, F, h => by
    rw [List.foldl_cons]
    refine fst_pw A B C G vs _ ?_
    unfold fstF
    split
    · exact h
    · rename_i hn
      rw [List.pairwise_append]
      refine ⟨h, by simp, fun u hu x hx => ?_⟩
      have e : x = v := by simpa using hx
      rw [e]
      exact fun ho => hn ⟨u, hu, ho⟩
theorem orbF_cel {f : Int} {p q : Nat} {B : Int} {G : List M6} (hG : grpB f (p : Int) B (q : Int) G = true) {k : Nat} (hk : k < (orbF p q B G).length) : celB (p : Int) (q : Int) (orbF p q B G)[k] = true :=
  cellP_mem7.1 ((fst_cov hG (cellP q p) (fun v hv => cellP_mem7.1 hv)).2 _ (show (orbF p q B G)[k] ∈ orbF p q B G from List.getElem_mem hk))
theorem orbF_sep {f : Int} {p q : Nat} {B : Int} {G : List M6} (hG : grpB f (p : Int) B (q : Int) G = true) {j k : Nat} (hj : j < (orbF p q B G).length) (hk : k < (orbF p q B G).length) (hjk : j < k) {v : V2} (h1 : Orb (p : Int) B (q : Int) G (orbF p q B G)[j] v) (h2 : Orb (p : Int) B (q : Int) G (orbF p q B G)[k] v) : False :=
  List.pairwise_iff_getElem.1 (fst_pw (p : Int) B (q : Int) G (cellP q p) [] List.Pairwise.nil) j k hj hk hjk (orb_trans hG h1 (orb_symm hG (orbF_cel hG hk) h2))
structure NMid (p q : Nat) (B : Int) (G : List M6) (k i : Nat) (N : Nat → Int) : Prop where
  a : ∀ v, celB (p : Int) (q : Int) v = true → ∀ j (h : j < (orbF p q B G).length), j < k → Orb (p : Int) B (q : Int) G (orbF p q B G)[j] v → N (nb (q : Int) v) = (j : Int)
  b : ∀ (h : k < (orbF p q B G).length) i' (h' : i' < (orbL (p : Int) B (q : Int) G (orbF p q B G)[k]).length), i' < i → N (nb (q : Int) (orbL (p : Int) B (q : Int) G (orbF p q B G)[k])[i']) = (k : Int)
theorem NMid.start (p q : Nat) (B : Int) (G : List M6) (N : Nat → Int) : NMid p q B G 0 0 N := ⟨fun v _ j _ hj => by omega, fun _ i' _ hi => by omega⟩
theorem NMid.step {f : Int} {p q : Nat} {B : Int} {G : List M6} (hG : grpB f (p : Int) B (q : Int) G = true) {k i : Nat} {N : Nat → Int} (hk : k < (orbF p q B G).length) (hi : i < (orbL (p : Int) B (q : Int) G (orbF p q B G)[k]).length) (h : NMid p q B G k i N) :
    NMid p q B G k (i + 1) (fun n => if n = nb (q : Int) (orbL (p : Int) B (q : Int) G (orbF p q B G)[k])[i] then (k : Int) else N n) := by
  have hl := (grp_good hG).1
  have ho := orbL_mem.1 (List.getElem_mem hi)
  refine ⟨fun v hv j hj hjk hjo => ?_, fun _ i' h' hi' => ?_⟩
  · by_cases e : nb (q : Int) v = nb (q : Int) (orbL (p : Int) B (q : Int) G (orbF p q B G)[k])[i]
    · have e2 := nb_inj hl hv (orb_cel hl ho) e
      rw [← e2] at ho
      exact (orbF_sep hG hj hk hjk hjo ho).elim
    · simp only [e, if_false]
      exact h.a v hv j hj hjk hjo
  · by_cases e : nb (q : Int) (orbL (p : Int) B (q : Int) G (orbF p q B G)[k])[i'] = nb (q : Int) (orbL (p : Int) B (q : Int) G (orbF p q B G)[k])[i]
    · simp only [e, if_true]
    · simp only [e, if_false]
      refine h.b hk i' h' ?_
      rcases Nat.lt_or_ge i' i with h9 | h9
      · exact h9
      · obtain rfl : i' = i := by omega
        exact absurd rfl e
theorem NMid.next {p q : Nat} {B : Int} {G : List M6} {k : Nat} {N : Nat → Int} (hk : k < (orbF p q B G).length) (h : NMid p q B G k (orbL (p : Int) B (q : Int) G (orbF p q B G)[k]).length N) : NMid p q B G (k + 1) 0 N := by
  refine ⟨fun v hv j hj hjk hjo => ?_, fun _ i' _ hi => by omega⟩
  by_cases e : j < k
  · exact h.a v hv j hj e hjo
  · obtain rfl : j = k := by omega
    obtain ⟨i', h', e'⟩ := List.getElem_of_mem (orbL_mem.2 hjo)
    have := h.b hk i' h' h'
    rw [e'] at this
    exact this
theorem NMid.done {p q : Nat} {B : Int} {G : List M6} {N : Nat → Int} (h : NMid p q B G (orbF p q B G).length 0 N) : NumIs p q B G N := fun v hv k hk ho => h.a v hv k hk hk ho
theorem TMid.num {p q : Nat} {B : Int} {G : List M6} {J : Nat → Bool} {I : Nat → Int} (h : TMid (p : Int) B (q : Int) G (orbF p q B G) J I) : NumIs p q B G I := h.i
/- the answers of both sides -/
def KQ7 (g o : Nat) (v : Value) (W : World) : Prop := g < W.heap.size ∧ W.cell? ⟨g, o, none⟩ = some v
theorem KQ7.cells {g o : Nat} {v : Value} {W : World} (h : KQ7 g o v W) : W.cell? ⟨g, o, none⟩ = some v := h.2
theorem KQ7.call {g o : Nat} {v : Value} {W w1 : World} (h : KQ7 g o v W) (hb : Below W.heap.size W w1) : KQ7 g o v w1 := ⟨Nat.lt_of_lt_of_le h.1 hb.size, (hb.cell (p := ⟨g, o, none⟩) h.1).trans h.2⟩
theorem KQ7.alloc {g o : Nat} {v : Value} {W : World} (h : KQ7 g o v W) (z : Obj) : KQ7 g o v (W.alloc z) := h.call ((Below.refl _ _).alloc (Nat.le_refl _) _)
theorem KQ7.drew {g o : Nat} {v : Value} {W : World} (h : KQ7 g o v W) : KQ7 g o v W.drew := h.call (Below.refl _ _).drew
theorem KQ7.two {r g o : Nat} {v : Value} {W w1 : World} (h : KQ7 g o v W) (hT : Two r r W w1) (h1 : g ≠ r) : KQ7 g o v w1 := ⟨Nat.lt_of_lt_of_le h.1 hT.size, (hT.cell (r := ⟨g, o, none⟩) h.1 h1 h1).trans h.2⟩
theorem Ko2.two7 {r g o : Nat} {a b : Int} {W w1 : World} (h : Ko2 g o a b W) (hT : Two r r W w1) (h1 : g ≠ r) : Ko2 g o a b w1 := ⟨Nat.lt_of_lt_of_le h.1 hT.size, (hT.cell (r := ⟨g, o, none⟩) h.1 h1 h1).trans h.2.1, (hT.cell (r := ⟨g, o + 1, none⟩) h.1 h1 h1).trans h.2.2⟩
theorem KO2.vecT {r g base cap : Nat} {T : TypeId} {Q : List V2} {W w1 : World} (h : KO2 g base cap T Q W) (hT : Two r r W w1) (hr : g ≠ r) (hn : Q.length ≤ 1000000) (i : Nat) (hi : i < Q.length) : Ko2 g (i * 2) Q[i].1 Q[i].2 w1 := by
  obtain ⟨h1, h2, h3⟩ := h.vec hn i hi
  exact ⟨Nat.lt_of_lt_of_le h1 hT.size, (hT.cell (r := ⟨g, _, none⟩) h1 hr hr).trans h2, (hT.cell (r := ⟨g, _, none⟩) h1 hr hr).trans h3⟩
set_option maxRecDepth 100000 in
set_option maxHeartbeats 4000000 in
theorem l03Number_any7 (A B C x y : Int) (w : World) (hl : latI A B C) (hv : celB A C (x, y) = true) :
    Calls Tryz.prog 64 #[.agg #[.int .i64 A, .int .i64 B, .int .i64 C], .agg #[.int .i64 x, .int .i64 y]] w fun e w' => e = .returned (.int .i64 ((nb C (x, y) : Nat) : Int)) ∧ Below w.heap.size w w' := by
  have h1 := nb_lt hl hv
  have h2 := nb_int hl hv
  dsimp only at h1 h2
  have EA := Lib.hid h2
  have L0 : Kt w.heap.size A B C ((w.alloc (.cells #[.int .i64 A, .int .i64 B, .int .i64 C] 32)).alloc (.cells #[.int .i64 x, .int .i64 y] 55)) := Kt.alloc (Kt.at _ rfl) _
  have V0 : KW (w.heap.size + 1) x y ((w.alloc (.cells #[.int .i64 A, .int .i64 B, .int .i64 C] 32)).alloc (.cells #[.int .i64 x, .int .i64 y] 55)) := KW.at _ (by simp)
  have B0 : Below w.heap.size w ((w.alloc (.cells #[.int .i64 A, .int .i64 B, .int .i64 C] 32)).alloc (.cells #[.int .i64 x, .int .i64 y] 55)) := ((Below.refl _ _).alloc (Nat.le_refl _) _).alloc (by simp) _
  have L0c := L0.cells
  have ⟨v00, v01, v02, v03, v04⟩ := id V0
  have hc := celB_iff.1 hv
  dsimp only at hc
  have hb := latI_bd hl
  obtain ⟨r1, r2⟩ := red_cell (B := B) hc.1.1 hc.1.2 hc.2.1 hc.2.2
  have hr : redV A B C x y = .agg #[.int .i64 x, .int .i64 y] := by unfold redV; rw [r1, r2]
  have CR := Lib.hid (fun W => l03Reduce_any A B C x y W hl (by unfold midI; omega) (by unfold midI; omega))
  rw [hr] at CR
  clear hl hv h2 r1 r2 hr
  go_enter Tryz.func64, Tryz.ntmps64
  go_wp2_with fail
  refine (CR.out _).mono ?_
  rintro e w1 ⟨rfl, hb1⟩
  have L1 := L0.call hb1
  have V1 := V0.call hb1
  have B1 := bstep B0 hb1
  clear hb1 L0 V0 B0 L0c v00 v01 v02 v03 v04 CR
  have L1c := L1.cells
  have ⟨v10, v11, v12, v13, v14⟩ := id V1
  go_wp2
  all_goals
    go_ret
    exact ⟨ret_int EA.out.symm, by repeat (first | with_reducible assumption | with_reducible exact Below.refl _ _ | with_reducible refine Below.drew ?_ | with_reducible refine below_drewN ?_ _ | with_reducible refine Below.setCell ?_ (by first | omega | (simp <;> omega)) _ | with_reducible refine Below.alloc ?_ (by first | omega | (simp <;> omega)) _ | with_reducible refine bstep ?_ (by with_reducible assumption))⟩

end
end Go.Proofs.YtdgophfembpniaaGreatDoor

