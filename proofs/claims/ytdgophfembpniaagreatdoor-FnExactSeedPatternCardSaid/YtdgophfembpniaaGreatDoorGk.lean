/-
 Several of my texts in one: GpF, Mp6, Pr6.
-/
import Derived.Test.YtdgophfembpniaaGreatDoorGh
import Derived.Test.YtdgophfembpniaaGreatDoorRd6
import Derived.Maps.OwnSet
import Derived.DeepKeys5
import Derived.WalkArith
import Derived.Deep.RegionHeld3
import Derived.IntWalk
import Derived.Deep.DeepCutAuto
namespace Go.Proofs.YtdgophfembpniaaGreatDoor
section
set_option linter.unusedVariables false
set_option linter.unusedSimpArgs false

theorem all_not {f A B C : Int} {xs : List M6} (h : allOk f A B C xs = false) : grpB f A B C xs = false := by
 unfold allOk at h
 rw [List.all_eq_false] at h
 obtain ⟨m, hm, hb⟩ := h
 exact grp_bad hm (by simpa using hb)
theorem all_good {f A B C : Int} {xs : List M6} (h : allOk f A B C xs = true) : GoodR f A B C (xs.map (redM A B C)) := by
 unfold allOk at h
 rw [List.all_eq_true] at h
 intro r hr
 obtain ⟨m, hm, rfl⟩ := List.mem_map.1 hr
 have hk := okM_iff.1 (h m hm)
 simp only [flB, Bool.and_eq_true] at hk
 exact ⟨hk.2.1, redM_redM (latB_iff.1 hk.1.2) m⟩
theorem flB_parts {f A B C : Int} (h : flB f A B C = true) : frB f = true ∧ latI A B C := by
 simp only [flB, Bool.and_eq_true] at h
 exact ⟨h.1, latB_iff.1 h.2⟩
theorem clos_pos {A B C : Int} {R L : List M6} (h : IsClos A B C R L) : 0 < L.length := List.length_pos_of_mem ((h.2 _).2 (reach_one A B C R))
end
end Go.Proofs.YtdgophfembpniaaGreatDoor

namespace Go.Proofs.YtdgophfembpniaaGreatDoor
section
open Go.RowKit Go.Maps
set_option linter.unusedSimpArgs false
set_option linter.unusedVariables false

theorem laidOut6 : laidOutB Tryz.prog = true := by kernel_rfl
theorem rowKey : (136 : TypeId) < Tryz.prog.types.size := of_decide_eq_true (by kernel_rfl)
theorem wideKey : (match Tryz.prog.underlying 136 with | some (.array _ _) | some (.struct _) => true | _ => false) = true := by kernel_rfl
set_option maxRecDepth 100000 in
theorem lawKey : Keyed Tryz.prog 136 := Keyed.of_law (deep_law_laid laidOut6 (m := 4) (by omega) rowKey (by kernel_rfl) wideKey)
abbrev encM (m : M6) : Value := .agg #[.int .i64 (m.1), .int .i64 (m.2.1), .int .i64 (m.2.2.1), .int .i64 (m.2.2.2.1), .int .i64 (m.2.2.2.2.1), .int .i64 (m.2.2.2.2.2)]
theorem encM_inj {m n : M6} (h : encM m = encM n) : m = n := by
 obtain ⟨a, b, c, d, x, y⟩ := m
 obtain ⟨a', b', c', d', x', y'⟩ := n
 simp [encM] at h
 obtain ⟨rfl, rfl, rfl, rfl, rfl, rfl⟩ := h
 rfl
def midZ (a : Int) : Prop := -1000000 ≤ a ∧ a ≤ 1000000
def smM (m : M6) : Prop := midZ m.1 ∧ midZ m.2.1 ∧ midZ m.2.2.1 ∧ midZ m.2.2.2.1 ∧ midZ m.2.2.2.2.1 ∧ midZ m.2.2.2.2.2
theorem midZ_wf {a : Int} (h : midZ a) : (Lit.int .i64 a).wf = true := WalkArith.wf_i64 (by unfold midZ at h; omega)
theorem sizeM : ∃ k, Tryz.prog.types.size = k + 2 := ⟨Tryz.prog.types.size - 2, by have : 2 ≤ Tryz.prog.types.size := of_decide_eq_true (by kernel_rfl); omega⟩
theorem cellsM : Tryz.prog.cellsOf 136 = 6 := by kernel_rfl
theorem cellsMx : Tryz.prog.cellsOf 134 = 4 := by kernel_rfl
theorem cellsV : Tryz.prog.cellsOf 55 = 2 := by kernel_rfl
theorem cellsI : Tryz.prog.cellsOf 2 = 1 := by kernel_rfl
theorem ktM : Tryz.prog.keyType 136 = true := by kernel_rfl
def kl (m : M6) : Lit := .string (keyBytes [.int .i64 m.1, .int .i64 m.2.1, .int .i64 m.2.2.1, .int .i64 m.2.2.2.1, .int .i64 m.2.2.2.2.1, .int .i64 m.2.2.2.2.2])
set_option maxRecDepth 100000 in
set_option maxHeartbeats 2000000 in
theorem keyM (m : M6) (h : smM m) : keyOf Tryz.prog 136 (encM m) = some (kl m) := by
 obtain ⟨a, b, c, d, x, y⟩ := m
 obtain ⟨h0, h1, h2, h3, h4, h5⟩ := h
 have w0 := midZ_wf h0
 have w1 := midZ_wf h1
 have w2 := midZ_wf h2
 have w3 := midZ_wf h3
 have w4 := midZ_wf h4
 have w5 := midZ_wf h5
 dsimp only at w0 w1 w2 w3 w4 w5
 obtain ⟨k, hk⟩ := sizeM
 have u1 := Tryz.underlying136
 have u2 := Tryz.underlying134
 have u3 := Tryz.underlying55
 have u4 := Tryz.underlying2
 unfold keyOf
 rw [u1]
 simp only [ktM, hk]
 simp [Value.formed, u1, cellsM, Value.cells, Program.keyLits, u2, u3, u4, cellsMx, cellsV, cellsI, w0, w1, w2, w3, w4, w5, List.range_succ]
 rw [if_pos (by decide)]
 simp [kl]
theorem kl_eq {m : M6} (h : smM m) : keyOf Tryz.prog 136 (encM m) = some (kl m) := keyM m h
set_option maxRecDepth 100000 in
theorem kl_inj {m n : M6} (h : smM m) (h' : smM n) (e : kl m = kl n) : m = n := encM_inj (lawKey.inj (kl_eq h) (e ▸ kl_eq h'))
set_option maxRecDepth 100000 in
theorem kl_key {m : M6} (h : smM m) : WideAt.IsKeyLit (kl m) := lawKey.key (kl_eq h)
/- the set of keys as a datum -/
abbrev TT : DataW Unit := .lit (.bool true)
abbrev dataM (Q : List M6) : DataW Unit := setOf TT (Q.map kl)
set_option maxRecDepth 100000 in
theorem atKey_fold (z : DataW Unit) (k : Lit) : ∀ (acc : List Lit) (m : DataW Unit), IsMap m → (∀ x ∈ acc, WideAt.IsKeyLit x) → (k ∈ acc → (acc.foldl (fun m x => m.put x TT) m).atKey k z = TT) ∧ (k ∉ acc → (acc.foldl (fun m x => m.put x TT) m).atKey k z = m.atKey k z)
 | [], m, _, _ => ⟨fun h => by simp at h, fun _ => rfl⟩
 | a :: acc, m, hm, hk => by
  rw [List.foldl_cons]
  obtain ⟨i1, i2⟩ := atKey_fold z k acc _ (hm.put a TT) fun x hx => hk x (by simp [hx])
  refine ⟨fun h => ?_, fun h => ?_⟩
  ·by_cases h1 : k ∈ acc
   ·exact i1 h1
   ·rw [i2 h1]
    obtain rfl : k = a := by
     rcases List.mem_cons.1 h with h | h
     ·exact h
     ·exact absurd h h1
    exact atKey_put_same hm (hk k (by simp)) _ _
  ·rw [i2 (fun h' => h (by simp [h'])), atKey_put_other (fun e => h (by simp [e]))]
theorem atKey_data {Q : List M6} {m : M6} (hQ : ∀ n ∈ Q, smM n) (hm : smM m) : (dataM Q).atKey (kl m) (.lit (.bool false)) = .lit (.bool (decide (m ∈ Q))) := by
 unfold dataM setOf
 obtain ⟨i1, i2⟩ := atKey_fold (.lit (.bool false)) (kl m) (Q.map kl) _ isMap_empty (fun x hx => by obtain ⟨n, hn, rfl⟩ := List.mem_map.1 hx; exact kl_key (hQ n hn))
 by_cases h : m ∈ Q
 ·rw [i1 (List.mem_map.2 ⟨m, h, rfl⟩)]; simp [h]
 ·rw [i2 (fun h' => by obtain ⟨n, hn, e⟩ := List.mem_map.1 h'; exact h (kl_inj hm (hQ n hn) e.symm ▸ hn))]
  simp only [h, decide_false]
  rfl
/- the map -/
def MapIs (W : World) (b n : Nat) (Q : List M6) : Prop := W.ownsMap Tryz.prog 136 (plainElem (H := Unit) Tryz.prog 4) b n (dataM Q)
theorem MapIs.kept {W W' : World} {b n : Nat} {Q : List M6} {row : Option Nat} (h : MapIs W b n Q) (hg : W.grownBy W' row) (hne : some b ≠ row) : MapIs W' b n Q := World.ownsMap.kept h hg hne
theorem MapIs.alloc {W : World} {b n : Nat} {Q : List M6} (h : MapIs W b n Q) (o : Obj) : MapIs (W.alloc o) b n Q := World.ownsMap.alloc h o
theorem MapIs.drew {W : World} {b n : Nat} {Q : List M6} (h : MapIs W b n Q) : MapIs W.drew b n Q := h
theorem MapIs.lt {W : World} {b n : Nat} {Q : List M6} (h : MapIs W b n Q) : b < W.heap.size := World.ownsMap.lt h
theorem MapIs.mono {W : World} {b n n' : Nat} {Q : List M6} (h : MapIs W b n Q) (hn : n ≤ n') : MapIs W b n' Q := World.ownsMap.mono h hn
theorem MapIs.call {W W' : World} {b n : Nat} {Q : List M6} (h : MapIs W b n Q) (hb : Below W.heap.size W W') : MapIs W' b n Q := by
 have hlt := h.lt
 obtain ⟨es, clock, hb', F, hs, hD⟩ := h
 exact ⟨es, clock, (hb.block b hlt).trans hb', F, hs, hD⟩
theorem MapIs.put {W : World} {b n : Nat} {Q : List M6} {p : Addr} {u : Value} (hp : b ≠ p.block) (h : MapIs W b n Q) : MapIs (W.setCell p u) b n Q := World.ownsMap.setCell h hp u
set_option maxRecDepth 100000 in
theorem zeroB (w : World) : (zeroValue 4).run Tryz.prog w = .ok (.bool false) w := by kernel_rfl
set_option maxRecDepth 100000 in
theorem plain_bool_inv {v : Value} {d : DataW Unit} {ps : List MemPlace} (h : plainElem (H := Unit) Tryz.prog 4 v = some (d, ps)) : ∃ x, v = .bool x ∧ d = .lit (.bool x) := by
 unfold plainElem at h
 rw [Tryz.underlying4] at h
 cases v <;> simp at h
 exact ⟨_, rfl, h.1.symm⟩
set_option maxRecDepth 100000 in
theorem MapIs.look {W : World} {b n : Nat} {Q : List M6} {m : M6} (h : MapIs W b n Q) (hQ : ∀ n ∈ Q, smM n) (hm : smM m) : (Instr.lookup 165 (.map (some b)) (encM m) false).run Tryz.prog W = .ok (.bool (decide (m ∈ Q))) W := by
 obtain ⟨v, ps, hrun, hv⟩ := World.ownsMap.lookup h lawKey Tryz.underlying165 (zeroB W) (plainElem_bool Tryz.underlying4 false) (kl_eq hm)
 obtain ⟨x, rfl, hx⟩ := plain_bool_inv hv
 rw [atKey_data hQ hm] at hx
 simp at hx
 rw [hrun, hx]
set_option maxRecDepth 100000 in
theorem MapIs.store {W : World} {b n : Nat} {Q : List M6} {m : M6} (h : MapIs W b n Q) (hm : smM m) (hn : n < maxLen) : ∃ W', (Instr.mapUpdate 165 (.map (some b)) (encM m) (.bool true)).run Tryz.prog W = .ok () W' ∧ MapIs W' b (n + 1) (Q ++ [m]) ∧ W.grownBy W' (some b) := by
 obtain ⟨W', hrun, hown, hg⟩ := World.ownsMap.update h lawKey Tryz.underlying165 hn (kl_eq hm) (plainElem_bool Tryz.underlying4 true)
 refine ⟨W', hrun, ?_, hg⟩
 unfold MapIs dataM
 rw [List.map_append, List.map_cons, List.map_nil, setOf_snoc]
 exact hown
theorem wpList_look6 {w : World} {ops : Array Oper} {rest : List Oper} {o : Oper} {a : Act} {Qx : Exit → Act → World → Prop}
  (hg : o.guard = none) (mo x : Operand) (hop : o.op = Op.lookup 165 mo x false) (b n : Nat) (Q : List M6) (m : M6)
  (hm : a.eval mo = .map (some b)) (hx : a.eval x = encM m) (h : MapIs w b n Q) (hQ : ∀ n ∈ Q, smM n) (hs : smM m) (r : Bool) (hr : decide (m ∈ Q) = r)
  (hK : wpList Tryz.prog ops Qx rest (a.put o.dst (.bool r)) w) : wpList Tryz.prog ops Qx (o :: rest) a w := by
 refine wpList_plain hg fun K' hK' => ?_
 unfold Oper.wp
 have hl := h.look hQ hs
 rw [hr] at hl
 simp [execOp, hop, hm, hx, hl, Result.andThen]
 exact hK' _ _ hK
theorem wpList_store6 {w : World} {ops : Array Oper} {rest : List Oper} {o : Oper} {a : Act} {Qx : Exit → Act → World → Prop}
  (hg : o.guard = none) (mo x v : Operand) (hop : o.op = Op.mapUpdate 165 mo x v) (b n : Nat) (Q : List M6) (m : M6)
  (hm : a.eval mo = .map (some b)) (hx : a.eval x = encM m) (hv : a.eval v = .bool true) (h : MapIs w b n Q) (hs : smM m) (hn : n < maxLen)
  (hK : ∀ w', MapIs w' b (n + 1) (Q ++ [m]) → w.grownBy w' (some b) → wpList Tryz.prog ops Qx rest (a.put o.dst undef) w') : wpList Tryz.prog ops Qx (o :: rest) a w := by
 refine wpList_plain hg fun K' hK' => ?_
 obtain ⟨w', hrun, r1, r2⟩ := h.store hs hn
 unfold Oper.wp
 simp [execOp, hop, hm, hx, hv, hrun, Result.andThen]
 exact hK' _ _ (hK w' r1 r2)
theorem wpList_insert6 {w : World} {ops : Array Oper} {rest : List Oper} {o : Oper} {a : Act} {Qx : Exit → Act → World → Prop}
  (hg : o.guard = none) (mo x v : Operand) (hop : o.op = Op.insert 165 mo x v) (b n : Nat) (Q : List M6) (m : M6)
  (hm : a.eval mo = .map (some b)) (hx : a.eval x = encM m) (hv : a.eval v = .bool true) (h : MapIs w b n Q) (hs : smM m) (hn : n < maxLen)
  (hK : ∀ w', MapIs w' b (n + 1) (Q ++ [m]) → w.grownBy w' (some b) → wpList Tryz.prog ops Qx rest (a.put o.dst undef) w') : wpList Tryz.prog ops Qx (o :: rest) a w := by
 refine wpList_plain hg fun K' hK' => ?_
 obtain ⟨w', hrun, r1, r2⟩ := h.store hs hn
 unfold Oper.wp
 simp [execOp, hop, hm, hx, hv, hrun, Result.andThen]
 exact hK' _ _ (hK w' r1 r2)
theorem MapIs.made (w : World) : MapIs (w.alloc (.map #[] 0)) w.heap.size 0 [] := World.ownsMap_made w _ _ _
end
end Go.Proofs.YtdgophfembpniaaGreatDoor

namespace Go.Proofs.YtdgophfembpniaaGreatDoor
section
open Go.RowKit Go.Maps
set_option linter.unusedSimpArgs false
set_option linter.unusedVariables false

theorem good_sm {f A B C : Int} (hf : frB f = true) (hl : latI A B C) {m : M6} (h : suiQ f A B C m ∧ redM A B C m = m) : smM m ∧ (((-1 ≤ m.1 ∧ m.1 ≤ 1) ∧ (-1 ≤ m.2.1 ∧ m.2.1 ≤ 1)) ∧ ((-1 ≤ m.2.2.1 ∧ m.2.2.1 ≤ 1) ∧ (-1 ≤ m.2.2.2.1 ∧ m.2.2.2.1 ≤ 1))) ∧ ((0 ≤ m.2.2.2.2.1 ∧ m.2.2.2.2.1 ≤ 64) ∧ (0 ≤ m.2.2.2.2.2 ∧ m.2.2.2.2.2 ≤ 64)) := by
 have h1 := keep_small hf h.1.1
 have h2 := redM_bd hl m
 rw [h.2] at h2
 obtain ⟨b1, b2⟩ := latI_bd hl
 refine ⟨?_, h1, by omega⟩
 unfold smM midZ
 omega
theorem cmp_facts {f A B C : Int} (hf : frB f = true) (hl : latI A B C) {m n : M6} (hm : suiQ f A B C m ∧ redM A B C m = m) (hn : suiQ f A B C n ∧ redM A B C n = n) :
  limB m.1 m.2.1 m.2.2.1 m.2.2.2.1 = true ∧ vecB m.2.2.2.2.1 m.2.2.2.2.2 = true ∧ limB n.1 n.2.1 n.2.2.1 n.2.2.2.1 = true ∧ vecB n.2.2.2.2.1 n.2.2.2.2.2 = true ∧ midI (cmpM m n).2.2.2.2.1 ∧ midI (cmpM m n).2.2.2.2.2 := by
 obtain ⟨_, m1, m2⟩ := good_sm hf hl hm
 obtain ⟨_, n1, n2⟩ := good_sm hf hl hn
 have a1 := small_mul m1.1.1 n2.1
 have a2 := small_mul m1.1.2 n2.2
 have a3 := small_mul m1.2.1 n2.1
 have a4 := small_mul m1.2.2 n2.2
 refine ⟨keep_lim hf hm.1.1, red_vec hl hm.2, keep_lim hf hn.1.1, red_vec hl hn.2, ?_, ?_⟩ <;> (unfold midI; simp only [cmpM, cmpI]; omega)
theorem one_sm : smM oneM := by unfold smM midZ oneM; simp
theorem row_start (w : World) (T : TypeId) : (w.alloc (.cells #[.int .i64 1, .int .i64 0, .int .i64 0, .int .i64 1, .int .i64 0, .int .i64 0] T)).ownsRow w.heap.size T 6 (.slice (some ⟨w.heap.size, 0, none⟩) 1 1) ([oneM] : List M6).length (cells6 [oneM]) :=
 World.ownsRow_lit w #[.int .i64 1, .int .i64 0, .int .i64 0, .int .i64 1, .int .i64 0, .int .i64 0] 1 (Nat.le_refl _) (by unfold maxLen; omega) rfl
/- a row of motions that the call owns, by its block -/
def KOw (g base cap : Nat) (T : TypeId) (Q : List M6) (W : World) : Prop := W.ownsRow base T 6 (.slice (some ⟨g, 0, none⟩) Q.length cap) Q.length (cells6 Q)
theorem KOw.call {g base cap : Nat} {T : TypeId} {Q : List M6} {W w1 : World} (h : KOw g base cap T Q W) (hb : Below W.heap.size W w1) : KOw g base cap T Q w1 := ownsRow_call h hb
theorem KOw.alloc {g base cap : Nat} {T : TypeId} {Q : List M6} {W : World} (h : KOw g base cap T Q W) (o : Obj) : KOw g base cap T Q (W.alloc o) := h.call ((Below.refl _ _).alloc (Nat.le_refl _) _)
theorem KOw.drew {g base cap : Nat} {T : TypeId} {Q : List M6} {W : World} (h : KOw g base cap T Q W) : KOw g base cap T Q W.drew := h.call (Below.refl _ _).drew
theorem KOw.lt {g base cap : Nat} {T : TypeId} {Q : List M6} {W : World} (h : KOw g base cap T Q W) : base ≤ g ∧ g < W.heap.size := World.ownsRow.lt h g rfl
theorem KOw.kept {g base cap : Nat} {T : TypeId} {Q : List M6} {W w1 : World} {row : Option Nat} (h : KOw g base cap T Q W) (hg : W.grownBy w1 row) (hne : some g ≠ row) : KOw g base cap T Q w1 := World.ownsRow.kept h hg (.inr (fun e => hne (by rw [← e]; rfl)))
theorem KOw.mo {g base cap : Nat} {T : TypeId} {Q : List M6} {W : World} (h : KOw g base cap T Q W) (hn : Q.length ≤ 1000000) (i : Nat) (hi : i < Q.length) : Ko6 g (i * 6) Q[i].1 Q[i].2.1 Q[i].2.2.1 Q[i].2.2.2.1 Q[i].2.2.2.2.1 Q[i].2.2.2.2.2 W := by
 have hs := SRow.of6 h hn
 obtain ⟨g', cap', e, _, _, r⟩ := hs.2.2.resolve_left (fun h => by omega)
 simp only [Value.slice.injEq, Option.some.injEq, Addr.mk.injEq, and_true, true_and] at e
 obtain ⟨rfl, _⟩ := e
 exact r.mo i hi
theorem KOw.of {base : Nat} {T : TypeId} {v : Value} {Q : List M6} {W : World} (h : W.ownsRow base T 6 v Q.length (cells6 Q)) (hn : 0 < Q.length) : ∃ g cap, v = .slice (some ⟨g, 0, none⟩) Q.length cap ∧ KOw g base cap T Q W := by
 rcases h.2 with ⟨_, h0⟩ | ⟨g, cap, cur, rfl, r⟩
 ·omega
 ·exact ⟨g, cap, rfl, h⟩
theorem KOw.put {g base cap : Nat} {T : TypeId} {Q : List M6} {W : World} {p : Addr} {u : Value} (hp : p.block ≠ g) (h : KOw g base cap T Q W) : KOw g base cap T Q (W.setCell p u) := by
 rcases h.2 with ⟨h0, _⟩ | ⟨g', cap', cur, he, r1, r2, r3⟩
 ·simp at h0
 ·simp only [Value.slice.injEq, Option.some.injEq, Addr.mk.injEq, and_true, true_and] at he
  obtain ⟨rfl, rfl⟩ := he
  exact ⟨h.1, .inr ⟨_, _, cur, rfl, r1, by rw [Below.heap_setCell _ _ _ _ (by omega)]; exact r2, r3⟩⟩
theorem km_lt {R : Nat} {a b c d x y : Int} {W : World} (h : Km R a b c d x y W) : R < W.heap.size := h.1
theorem ko_lt {g o : Nat} {a b c d x y : Int} {W : World} (h : Ko6 g o a b c d x y W) : g < W.heap.size := h.1
theorem kt_lt {R : Nat} {a b c : Int} {W : World} (h : Kt R a b c W) : R < W.heap.size := h.1
def KMp (b n : Nat) (Q : List M6) (W : World) : Prop := MapIs W b n Q
theorem kmp_lt {b n : Nat} {Q : List M6} {W : World} (h : KMp b n Q W) : b < W.heap.size := MapIs.lt h
theorem KMp.call {b n : Nat} {Q : List M6} {W w1 : World} (h : KMp b n Q W) (hb : Below W.heap.size W w1) : KMp b n Q w1 := MapIs.call h hb
theorem KMp.alloc {b n : Nat} {Q : List M6} {W : World} (h : KMp b n Q W) (o : Obj) : KMp b n Q (W.alloc o) := MapIs.alloc h o
theorem KMp.drew {b n : Nat} {Q : List M6} {W : World} (h : KMp b n Q W) : KMp b n Q W.drew := h
theorem km_ne_map {g b n : Nat} {Q : List M6} {a₁ b₁ c₁ d₁ x₁ y₁ : Int} {W : World} (h : KM g a₁ b₁ c₁ d₁ x₁ y₁ W) (hm : KMp b n Q W) : g ≠ b := by
 rintro rfl
 obtain ⟨es, clock, hb, _⟩ := hm
 have := h.c0
 simp [World.cell?, hb] at this
theorem KMp.put {b n : Nat} {Q : List M6} {W : World} {p : Addr} {u : Value} (hp : p.block ≠ b) (h : KMp b n Q W) : KMp b n Q (W.setCell p u) := MapIs.put (fun e => hp e.symm) h
theorem KOw.ne_map {g base cap b n : Nat} {T : TypeId} {Q Q' : List M6} {W : World} (h : KOw g base cap T Q W) (hm : KMp b n Q' W) : g ≠ b := by
 rintro rfl
 obtain ⟨es, clock, hb, _⟩ := hm
 rcases h.2 with ⟨h0, _⟩ | ⟨g', cap', cur, he, _, hc, _⟩
 ·simp at h0
 ·simp only [Value.slice.injEq, Option.some.injEq, Addr.mk.injEq, and_true, true_and] at he
  obtain ⟨rfl, _⟩ := he
  rw [hb] at hc; cases hc
def ProdPost (A B C : Int) (R : List M6) (w : World) (e : Ending) (w' : World) : Prop :=
 ∃ (b n : Nat) (Q : List M6), e = .returned (.map (some b)) ∧ w.heap.size ≤ b ∧ MapIs w' b n Q ∧ Q.Nodup ∧ (∀ m, m ∈ Q ↔ Reach A B C R m) ∧ Below w.heap.size w w'
def NextCut (w : World) (A B C : Int) (b n g cap : Nat) (Q : List M6) (m : M6) (s : Value) (wx : World) : Prop :=
 ∃ gn : Nat, s = .pointer (some ⟨gn, 0, none⟩) ∧ KM gn m.1 m.2.1 m.2.2.1 m.2.2.2.1 m.2.2.2.2.1 m.2.2.2.2.2 wx ∧ Kt w.heap.size A B C wx ∧ KOw g (w.heap.size + 1) cap 136 Q wx ∧ KMp b n Q wx ∧ Below w.heap.size w wx
set_option maxRecDepth 100000 in
set_option maxHeartbeats 16000000 in
theorem products_any {lo hi : Nat} {v : Value} {R : List M6} {w : World} (f A B C : Int) (hf : frB f = true) (hl : latI A B C) (hR : GoodR f A B C R) (h : SRow lo hi 6 v R.length (fm R) w) (hn : R.length ≤ 1048576) (hU : UnitOK w) :
  Calls Tryz.prog 118 #[.agg #[.int .i64 A, .int .i64 B, .int .i64 C], v] w (ProdPost A B C R w) := by
 obtain ⟨i0, hinf, hz0, hz1, hz2⟩ := info_parts infoMo
 have hmm := @run_makeMap Tryz.prog
 have L0 : Kt w.heap.size A B C (w.alloc (.cells #[.int .i64 A, .int .i64 B, .int .i64 C] 32)) := Kt.at _ rfl
 have B0 : Below w.heap.size w (w.alloc (.cells #[.int .i64 A, .int .i64 B, .int .i64 C] 32)) := (Below.refl _ _).alloc (Nat.le_refl _) _
 have U0 : Kq 0 1 0 0 1 (w.alloc (.cells #[.int .i64 A, .int .i64 B, .int .i64 C] 32)) := Kq.alloc hU _
 have HR := Lib.hid hR
 have HN := Lib.hid hn
 have HF := Lib.hid hf
 have HL := Lib.hid hl
 have HA := Lib.hid h
 clear hR hn hf hl h hU
 obtain ⟨u0, u1, u2, u3, u4⟩ := id U0
 go_enter Tryz.func118, Tryz.ntmps118
 go_wp2_with (refine wpList_insert6 rfl _ _ _ rfl (w.heap.size + 1 + 1) 0 [] oneM rfl rfl rfl ?m1 one_sm (by unfold maxLen; omega) ?_)
 case m1 =>
  have hm := MapIs.made (((w.alloc (.cells #[.int .i64 A, .int .i64 B, .int .i64 C] 32)).alloc (.cells #[.int .i64 1, .int .i64 0, .int .i64 0, .int .i64 1, .int .i64 0, .int .i64 0] 136)))
  simpa using hm
 intro w1 hM1 hg1
 have hW1 : ∃ W1, W1 = w1 := ⟨_, rfl⟩
 have R1 : KOw (w.heap.size + 1) (w.heap.size + 1) 1 136 [oneM] w1 := by
  have h := row_start (w.alloc (.cells #[.int .i64 A, .int .i64 B, .int .i64 C] 32)) 136
  have h2 : KOw (w.heap.size + 1) (w.heap.size + 1) 1 136 [oneM] ((w.alloc (.cells #[.int .i64 A, .int .i64 B, .int .i64 C] 32)).alloc (.cells #[.int .i64 1, .int .i64 0, .int .i64 0, .int .i64 1, .int .i64 0, .int .i64 0] 136)) := by simpa [KOw] using h
  exact (h2.alloc _).kept hg1 (by simp)
 have L1 : Kt w.heap.size A B C w1 := Kt.grown ((L0.alloc _).alloc _) hg1 (by simp; omega)
 have B1 : Below w.heap.size w w1 := Below.grown ((B0.alloc (by simp) _).alloc (by simp; omega) _) hg1 (by simp; omega) (fun q hq => by simp at hq; omega)
 clear hg1 L0 B0 U0 u0 u1 u2 u3 u4 hW1 hmm
 go_wp2_with fail
 go_loopw [5, 7] (fun s5 s7 W => ∃ i : Nat, s7 = .int .i64 (i : Int) ∧ ∃ Q g cap, Grows A B C R Q i 0 ∧ i ≤ Q.length ∧ s5 = .slice (some ⟨g, 0, none⟩) Q.length cap ∧ KOw g (w.heap.size + 1) cap 136 Q W ∧ KMp (w.heap.size + 1 + 1) Q.length Q W ∧ Kt w.heap.size A B C W ∧ Below w.heap.size w W ∧ g ≠ w.heap.size + 1 + 1) (fun _ s7 _ => 769 - (intOf s7).toNat)
 case atStart => exact ⟨0, rfl, [oneM], _, _, Grows.start A B C R, by simp, rfl, R1, hM1, L1, B1, by omega⟩
 case round =>
  clear R1 hM1 L1 B1
  obtain ⟨i, rfl, Q, g, cap, hG, hi, rfl, hO, hM, hL, hB, hne⟩ := hrel
  have hQl : Q.length ≤ 768 := hG.len HF.out HL.out HR.out
  have hi' : (i : Int) ≤ 768 := by omega
  by_cases hi1 : i < Q.length
  ·have hi2 : (i : Int) < (Q.length : Int) := by omega
   obtain ⟨_, _, h1⟩ := id HA.out
   by_cases hz : R.length = 0
   ·obtain ⟨ao, cap', rfl⟩ : ∃ ao cap, v = .slice ao 0 cap := by
     rcases h1 with ⟨_, h⟩ | ⟨g', cap', h, _⟩
     ·exact h
     ·exact ⟨_, cap', by rw [h, hz]⟩
    have hG1 : Grows A B C R Q (i + 1) 0 := Grows.next (by rw [hz]; exact hG)
    clear h1 hG hz
    go_wp2_with fail
    go_loopw [5, 27] (fun s5 s27 W => s5 = .slice (some ⟨g, 0, none⟩) Q.length cap ∧ s27 = .int .i64 ((0 : Nat) : Int) ∧ W = wr) (fun _ _ _ => 0)
    case atStart => exact ⟨rfl, rfl, rfl⟩
    case round =>
     obtain ⟨rfl, rfl, rfl⟩ := hrel
     go_wp2
     go_roundw
     case rel => exact ⟨i + 1, by go_num, Q, g, cap, hG1, by omega, rfl, hO, hM, hL, hB, hne⟩
     case measure => first | (simp [intOf]; done) | (simp [intOf]; omega)
   ·obtain ⟨ga, cap', rfl, _, hga, RA⟩ := h1.resolve_left (fun h => hz h.1)
    have hRA := HA.out.1
    have HRA := Lib.hid (show IRow ga (R.length * 6) (fm R) w ∧ ga < w.heap.size from ⟨RA, by omega⟩)
    clear h1 hz RA hga hRA
    go_wp2_with fail
    go_loopw [5, 27] (fun s5 s27 W => ∃ k : Nat, s27 = .int .i64 (k : Int) ∧ ∃ Q g cap, i < Q.length ∧ Grows A B C R Q i k ∧ k ≤ R.length ∧ s5 = .slice (some ⟨g, 0, none⟩) Q.length cap ∧ KOw g (w.heap.size + 1) cap 136 Q W ∧ KMp (w.heap.size + 1 + 1) Q.length Q W ∧ Kt w.heap.size A B C W ∧ Below w.heap.size w W ∧ g ≠ w.heap.size + 1 + 1) (fun _ s27 _ => R.length - (intOf s27).toNat)
    case atStart => exact ⟨0, rfl, Q, g, cap, hi1, hG, by omega, rfl, hO, hM, hL, hB, hne⟩
    case round =>
     clear hG hi1 hi2 hQl hO hM hL hB hne
     have hi0 := hi'
     clear hi
     obtain ⟨k, rfl, Q1, g1, cap1, hi, hG, hk, rfl, hO, hM, hL, hB, hne⟩ := hrel
     have hQl : Q1.length ≤ 768 := hG.len HF.out HL.out HR.out
     have hi2 : (i : Int) < (Q1.length : Int) := by omega
     by_cases hk1 : k < R.length
     ·have hk2 : (k : Int) < (R.length : Int) := by omega
      have hn := HN.out
      have q1 := (HRA.out.1.grow hB HRA.out.2).mo k hk1
      have o1 := hO.mo (by omega) i hi
      have HH := Lib.hid (fun h => hG.has hi hk1 h)
      have HD := Lib.hid (fun h => hG.adds hi hk1 h)
      have gm := HR.out _ (List.getElem_mem hk1)
      have gQ := hG.good HL.out HR.out
      have gn := gQ _ (List.getElem_mem hi)
      have HQS : Hid (∀ n ∈ Q1, smM n) := Lib.hid (fun n hn => (good_sm HF.out HL.out (gQ n hn)).1)
      have cf := cmp_facts HF.out HL.out gm gn
      have HSM : Hid (smM (mulM A B C R[k] Q1[i])) := Lib.hid (good_sm HF.out HL.out ⟨mul_sui gm.1 gn.1, mul_red HL.out _ _⟩).1
      have HK := Lib.hid (show k < R.length ∧ i < Q1.length ∧ Q1.length ≤ 768 from ⟨hk1, hi, hQl⟩)
      clear hG gm gn gQ
      generalize R[k] = m at q1 HH HD cf HSM
      generalize Q1[i] = n at o1 HH HD cf HSM
      obtain ⟨a, b, c, d, x, y⟩ := m
      obtain ⟨a', b', c', d', x', y'⟩ := n
      dsimp only at q1 o1
      obtain ⟨f1, f2, f3, f4, f5, f6⟩ := cf
      have CA : Hid (∀ W, Calls Tryz.prog 148 #[.agg #[.int .i64 a, .int .i64 b, .int .i64 c, .int .i64 d, .int .i64 x, .int .i64 y], .agg #[.int .i64 a', .int .i64 b', .int .i64 c', .int .i64 d', .int .i64 x', .int .i64 y']] W fun e w' => e = .returned (.agg #[.int .i64 (a * a' + b * c'), .int .i64 (a * b' + b * d'), .int .i64 (c * a' + d * c'), .int .i64 (c * b' + d * d'), .int .i64 (a * x' + b * y' + x), .int .i64 (c * x' + d * y' + y)]) ∧ Below W.heap.size W w') := Lib.hid (fun W => afterMo_any a b c d x y a' b' c' d' x' y' W f1 f2 f3 f4)
      have CR : Hid (∀ W, Calls Tryz.prog 117 #[.agg #[.int .i64 (a * a' + b * c'), .int .i64 (a * b' + b * d'), .int .i64 (c * a' + d * c'), .int .i64 (c * b' + d * d'), .int .i64 (a * x' + b * y' + x), .int .i64 (c * x' + d * y' + y)], .agg #[.int .i64 A, .int .i64 B, .int .i64 C]] W fun e w' => e = .returned (.agg #[.int .i64 (a * a' + b * c'), .int .i64 (a * b' + b * d'), .int .i64 (c * a' + d * c'), .int .i64 (c * b' + d * d'), .int .i64 (redX A B C (a * x' + b * y' + x) (c * x' + d * y' + y)), .int .i64 (redY C (c * x' + d * y' + y))]) ∧ Below W.heap.size W w') := Lib.hid (fun W => reducedMo_any A B C _ _ _ _ _ _ W HL.out f5 f6)
      have HNX : Hid (mulM A B C (a, b, c, d, x, y) (a', b', c', d', x', y') = (a * a' + b * c', a * b' + b * d', c * a' + d * c', c * b' + d * d', redX A B C (a * x' + b * y' + x) (c * x' + d * y' + y), redY C (c * x' + d * y' + y))) := Lib.hid rfl
      clear f1 f2 f3 f4 f5 f6
      generalize a * a' + b * c' = e0 at CA CR HNX
      generalize a * b' + b * d' = e1 at CA CR HNX
      generalize c * a' + d * c' = e2 at CA CR HNX
      generalize c * b' + d * d' = e3 at CA CR HNX
      generalize a * x' + b * y' + x = e4 at CA CR HNX
      generalize c * x' + d * y' + y = e5 at CA CR HNX
      generalize redX A B C e4 e5 = p at CR HNX
      generalize redY C e5 = q at CR HNX
      generalize mulM A B C (a, b, c, d, x, y) (a', b', c', d', x', y') = nx at HH HD HSM HNX
      have hnx := HNX.out
      subst hnx
      clear HNX
      have zB := hB.size
      have hLl := hL.1
      have hgl := ko_lt o1
      have hml := kmp_lt hM
      obtain ⟨q10, q11, q12, q13, q14, q15, q16⟩ := id q1
      have X0 : Km wr.heap.size a b c d x y (wr.alloc (.cells #[.int .i64 a, .int .i64 b, .int .i64 c, .int .i64 d, .int .i64 x, .int .i64 y] 136)) := Km.at _ rfl
      have L3 : Kt w.heap.size A B C (wr.alloc (.cells #[.int .i64 a, .int .i64 b, .int .i64 c, .int .i64 d, .int .i64 x, .int .i64 y] 136)) := hL.alloc _
      have O3 : KOw g1 (w.heap.size + 1) cap1 136 Q1 (wr.alloc (.cells #[.int .i64 a, .int .i64 b, .int .i64 c, .int .i64 d, .int .i64 x, .int .i64 y] 136)) := hO.alloc _
      have M3 : KMp (w.heap.size + 1 + 1) Q1.length Q1 (wr.alloc (.cells #[.int .i64 a, .int .i64 b, .int .i64 c, .int .i64 d, .int .i64 x, .int .i64 y] 136)) := KMp.alloc hM _
      have N3 : Ko6 g1 (i * 6) a' b' c' d' x' y' (wr.alloc (.cells #[.int .i64 a, .int .i64 b, .int .i64 c, .int .i64 d, .int .i64 x, .int .i64 y] 136)) := o1.alloc _
      have B3 : Below w.heap.size w (wr.alloc (.cells #[.int .i64 a, .int .i64 b, .int .i64 c, .int .i64 d, .int .i64 x, .int .i64 y] 136)) := hB.alloc hB.size _
      have X0c := X0.cells
      have L3c := L3.cells
      have N3c := N3.cells
      have zB3 := B3.size
      clear hO hM hL hB o1 q1
      go_upto_region 1 with fail
      go_cut [10] (fun s10 wx => NextCut w A B C (w.heap.size + 1 + 1) Q1.length g1 cap1 Q1 (e0, e1, e2, e3, p, q) s10 wx)
      case first =>
       go_region_held3 (fun W => (W.cell? ⟨wr.heap.size, 0, none⟩ = some (.int .i64 a) ∧ W.cell? ⟨wr.heap.size, 1, none⟩ = some (.int .i64 b) ∧ W.cell? ⟨wr.heap.size, 2, none⟩ = some (.int .i64 c) ∧ W.cell? ⟨wr.heap.size, 3, none⟩ = some (.int .i64 d) ∧ W.cell? ⟨wr.heap.size, 4, none⟩ = some (.int .i64 x) ∧ W.cell? ⟨wr.heap.size, 5, none⟩ = some (.int .i64 y)) ∧ (W.cell? ⟨w.heap.size, 0, none⟩ = some (.int .i64 A) ∧ W.cell? ⟨w.heap.size, 1, none⟩ = some (.int .i64 B) ∧ W.cell? ⟨w.heap.size, 2, none⟩ = some (.int .i64 C)) ∧ (W.cell? ⟨g1, i * 6, none⟩ = some (.int .i64 a') ∧ W.cell? ⟨g1, i * 6 + 1, none⟩ = some (.int .i64 b') ∧ W.cell? ⟨g1, i * 6 + 2, none⟩ = some (.int .i64 c') ∧ W.cell? ⟨g1, i * 6 + 3, none⟩ = some (.int .i64 d') ∧ W.cell? ⟨g1, i * 6 + 4, none⟩ = some (.int .i64 x') ∧ W.cell? ⟨g1, i * 6 + 5, none⟩ = some (.int .i64 y'))) ((refine ⟨Km.cells ?_, Kt.cells ?_, Ko6.cells ?_⟩) <;> repeat (first | with_reducible assumption | with_reducible refine KM.drew ?_ | with_reducible refine KM.alloc ?_ _ | with_reducible refine KM.call ?_ (by with_reducible assumption) | with_reducible refine Km.drew ?_ | with_reducible refine Km.alloc ?_ _ | with_reducible refine Km.call ?_ (by with_reducible assumption) | with_reducible refine Kt.drew ?_ | with_reducible refine Kt.alloc ?_ _ | with_reducible refine Kt.call ?_ (by with_reducible assumption) | with_reducible refine Ko6.drew ?_ | with_reducible refine Ko6.alloc ?_ _ | with_reducible refine Ko6.call ?_ (by with_reducible assumption) | with_reducible refine KOw.drew ?_ | with_reducible refine KOw.alloc ?_ _ | with_reducible refine KOw.call ?_ (by with_reducible assumption) | with_reducible refine KMp.drew ?_ | with_reducible refine KMp.alloc ?_ _ | with_reducible refine KMp.call ?_ (by with_reducible assumption) | ((with_reducible refine KOw.put ?_ ?_); (first | omega | (dsimp only; omega))) | ((with_reducible refine KMp.put ?_ ?_); (first | omega | (dsimp only; omega))) | ((with_reducible refine Ko6.put ?_ ?_); (first | omega | (dsimp only; omega))) | ((with_reducible refine KM.put ?_ ?_); (first | omega | (dsimp only; omega))) | ((with_reducible refine Km.put ?_ ?_); (first | omega | (dsimp only; omega))) | ((with_reducible refine Kt.put ?_ ?_); (first | omega | (dsimp only; omega))) | ((with_reducible refine KM.far ?_ ?_); (first | omega | (dsimp only; omega))) | ((with_reducible refine Km.far ?_ ?_); (first | omega | (dsimp only; omega)))))
        (first
         | (go_at_call 148; with_reducible refine (CA.out _).mono ?_; rintro e u1 ⟨rfl, hb1⟩; have Xa1 : Km wr.heap.size a b c d x y u1 := (by with_reducible repeat (first | assumption | refine KM.drew ?_ | refine KM.alloc ?_ _ | refine KM.call ?_ (by assumption) | refine Km.drew ?_ | refine Km.alloc ?_ _ | refine Km.call ?_ (by assumption) | refine Kt.drew ?_ | refine Kt.alloc ?_ _ | refine Kt.call ?_ (by assumption) | refine Ko6.drew ?_ | refine Ko6.alloc ?_ _ | refine Ko6.call ?_ (by assumption) | refine KOw.drew ?_ | refine KOw.alloc ?_ _ | refine KOw.call ?_ (by assumption) | refine KMp.drew ?_ | refine KMp.alloc ?_ _ | refine KMp.call ?_ (by assumption))); have La1 : Kt w.heap.size A B C u1 := (by with_reducible repeat (first | assumption | refine KM.drew ?_ | refine KM.alloc ?_ _ | refine KM.call ?_ (by assumption) | refine Km.drew ?_ | refine Km.alloc ?_ _ | refine Km.call ?_ (by assumption) | refine Kt.drew ?_ | refine Kt.alloc ?_ _ | refine Kt.call ?_ (by assumption) | refine Ko6.drew ?_ | refine Ko6.alloc ?_ _ | refine Ko6.call ?_ (by assumption) | refine KOw.drew ?_ | refine KOw.alloc ?_ _ | refine KOw.call ?_ (by assumption) | refine KMp.drew ?_ | refine KMp.alloc ?_ _ | refine KMp.call ?_ (by assumption))); have Oa1 : KOw g1 (w.heap.size + 1) cap1 136 Q1 u1 := (by with_reducible repeat (first | assumption | refine KM.drew ?_ | refine KM.alloc ?_ _ | refine KM.call ?_ (by assumption) | refine Km.drew ?_ | refine Km.alloc ?_ _ | refine Km.call ?_ (by assumption) | refine Kt.drew ?_ | refine Kt.alloc ?_ _ | refine Kt.call ?_ (by assumption) | refine Ko6.drew ?_ | refine Ko6.alloc ?_ _ | refine Ko6.call ?_ (by assumption) | refine KOw.drew ?_ | refine KOw.alloc ?_ _ | refine KOw.call ?_ (by assumption) | refine KMp.drew ?_ | refine KMp.alloc ?_ _ | refine KMp.call ?_ (by assumption))); have Ma1 : KMp (w.heap.size + 1 + 1) Q1.length Q1 u1 := (by with_reducible repeat (first | assumption | refine KM.drew ?_ | refine KM.alloc ?_ _ | refine KM.call ?_ (by assumption) | refine Km.drew ?_ | refine Km.alloc ?_ _ | refine Km.call ?_ (by assumption) | refine Kt.drew ?_ | refine Kt.alloc ?_ _ | refine Kt.call ?_ (by assumption) | refine Ko6.drew ?_ | refine Ko6.alloc ?_ _ | refine Ko6.call ?_ (by assumption) | refine KOw.drew ?_ | refine KOw.alloc ?_ _ | refine KOw.call ?_ (by assumption) | refine KMp.drew ?_ | refine KMp.alloc ?_ _ | refine KMp.call ?_ (by assumption))); have Na1 : Ko6 g1 (i * 6) a' b' c' d' x' y' u1 := (by with_reducible repeat (first | assumption | refine KM.drew ?_ | refine KM.alloc ?_ _ | refine KM.call ?_ (by assumption) | refine Km.drew ?_ | refine Km.alloc ?_ _ | refine Km.call ?_ (by assumption) | refine Kt.drew ?_ | refine Kt.alloc ?_ _ | refine Kt.call ?_ (by assumption) | refine Ko6.drew ?_ | refine Ko6.alloc ?_ _ | refine Ko6.call ?_ (by assumption) | refine KOw.drew ?_ | refine KOw.alloc ?_ _ | refine KOw.call ?_ (by assumption) | refine KMp.drew ?_ | refine KMp.alloc ?_ _ | refine KMp.call ?_ (by assumption))); have Xl1 := km_lt Xa1; have Ll1 := kt_lt La1; have Nl1 := ko_lt Na1; have Ml1 := kmp_lt Ma1; (try ((refine useIt (P := KM (wr.heap.size + 1) 0 0 0 0 0 0 u1) ?_ ?_); (repeat (first | with_reducible assumption | (with_reducible exact KM.at _ (by first | with_reducible rfl | (simp; done) | fail)) | with_reducible refine KM.drew ?_ | with_reducible refine KM.alloc ?_ _ | with_reducible refine KM.call ?_ (by with_reducible assumption) | with_reducible refine Km.drew ?_ | with_reducible refine Km.alloc ?_ _ | with_reducible refine Km.call ?_ (by with_reducible assumption) | with_reducible refine Kt.drew ?_ | with_reducible refine Kt.alloc ?_ _ | with_reducible refine Kt.call ?_ (by with_reducible assumption) | with_reducible refine Ko6.drew ?_ | with_reducible refine Ko6.alloc ?_ _ | with_reducible refine Ko6.call ?_ (by with_reducible assumption) | with_reducible refine KOw.drew ?_ | with_reducible refine KOw.alloc ?_ _ | with_reducible refine KOw.call ?_ (by with_reducible assumption) | with_reducible refine KMp.drew ?_ | with_reducible refine KMp.alloc ?_ _ | with_reducible refine KMp.call ?_ (by with_reducible assumption))); intro Z1y0; have Z1y0c0 := Z1y0.c0; have Z1y0f0 := Z1y0.f0; have Z1y0c1 := Z1y0.c1; have Z1y0f1 := Z1y0.f1; have Z1y0c2 := Z1y0.c2; have Z1y0f2 := Z1y0.f2; have Z1y0c3 := Z1y0.c3; have Z1y0f3 := Z1y0.f3; have Z1y0c4 := Z1y0.c4; have Z1y0f4 := Z1y0.f4; have Z1y0c5 := Z1y0.c5; have Z1y0f5 := Z1y0.f5; have Z1y0l := Z1y0.lt)); have Ba1 : Below w.heap.size w u1 := (by repeat (first | with_reducible assumption | with_reducible exact Below.refl _ _ | with_reducible refine Below.alloc ?_ (by first | omega | (simp <;> omega)) _ | with_reducible refine bstep ?_ (by with_reducible assumption) | with_reducible refine Below.drew ?_)); have zz1 := Below.size Ba1)
         | (go_at_call 117; with_reducible refine (CR.out _).mono ?_; rintro e u2 ⟨rfl, hb2⟩; have Xa2 : Km wr.heap.size a b c d x y u2 := (by with_reducible repeat (first | assumption | refine KM.drew ?_ | refine KM.alloc ?_ _ | refine KM.call ?_ (by assumption) | refine Km.drew ?_ | refine Km.alloc ?_ _ | refine Km.call ?_ (by assumption) | refine Kt.drew ?_ | refine Kt.alloc ?_ _ | refine Kt.call ?_ (by assumption) | refine Ko6.drew ?_ | refine Ko6.alloc ?_ _ | refine Ko6.call ?_ (by assumption) | refine KOw.drew ?_ | refine KOw.alloc ?_ _ | refine KOw.call ?_ (by assumption) | refine KMp.drew ?_ | refine KMp.alloc ?_ _ | refine KMp.call ?_ (by assumption))); have La2 : Kt w.heap.size A B C u2 := (by with_reducible repeat (first | assumption | refine KM.drew ?_ | refine KM.alloc ?_ _ | refine KM.call ?_ (by assumption) | refine Km.drew ?_ | refine Km.alloc ?_ _ | refine Km.call ?_ (by assumption) | refine Kt.drew ?_ | refine Kt.alloc ?_ _ | refine Kt.call ?_ (by assumption) | refine Ko6.drew ?_ | refine Ko6.alloc ?_ _ | refine Ko6.call ?_ (by assumption) | refine KOw.drew ?_ | refine KOw.alloc ?_ _ | refine KOw.call ?_ (by assumption) | refine KMp.drew ?_ | refine KMp.alloc ?_ _ | refine KMp.call ?_ (by assumption))); have Oa2 : KOw g1 (w.heap.size + 1) cap1 136 Q1 u2 := (by with_reducible repeat (first | assumption | refine KM.drew ?_ | refine KM.alloc ?_ _ | refine KM.call ?_ (by assumption) | refine Km.drew ?_ | refine Km.alloc ?_ _ | refine Km.call ?_ (by assumption) | refine Kt.drew ?_ | refine Kt.alloc ?_ _ | refine Kt.call ?_ (by assumption) | refine Ko6.drew ?_ | refine Ko6.alloc ?_ _ | refine Ko6.call ?_ (by assumption) | refine KOw.drew ?_ | refine KOw.alloc ?_ _ | refine KOw.call ?_ (by assumption) | refine KMp.drew ?_ | refine KMp.alloc ?_ _ | refine KMp.call ?_ (by assumption))); have Ma2 : KMp (w.heap.size + 1 + 1) Q1.length Q1 u2 := (by with_reducible repeat (first | assumption | refine KM.drew ?_ | refine KM.alloc ?_ _ | refine KM.call ?_ (by assumption) | refine Km.drew ?_ | refine Km.alloc ?_ _ | refine Km.call ?_ (by assumption) | refine Kt.drew ?_ | refine Kt.alloc ?_ _ | refine Kt.call ?_ (by assumption) | refine Ko6.drew ?_ | refine Ko6.alloc ?_ _ | refine Ko6.call ?_ (by assumption) | refine KOw.drew ?_ | refine KOw.alloc ?_ _ | refine KOw.call ?_ (by assumption) | refine KMp.drew ?_ | refine KMp.alloc ?_ _ | refine KMp.call ?_ (by assumption))); have Na2 : Ko6 g1 (i * 6) a' b' c' d' x' y' u2 := (by with_reducible repeat (first | assumption | refine KM.drew ?_ | refine KM.alloc ?_ _ | refine KM.call ?_ (by assumption) | refine Km.drew ?_ | refine Km.alloc ?_ _ | refine Km.call ?_ (by assumption) | refine Kt.drew ?_ | refine Kt.alloc ?_ _ | refine Kt.call ?_ (by assumption) | refine Ko6.drew ?_ | refine Ko6.alloc ?_ _ | refine Ko6.call ?_ (by assumption) | refine KOw.drew ?_ | refine KOw.alloc ?_ _ | refine KOw.call ?_ (by assumption) | refine KMp.drew ?_ | refine KMp.alloc ?_ _ | refine KMp.call ?_ (by assumption))); have Xl2 := km_lt Xa2; have Ll2 := kt_lt La2; have Nl2 := ko_lt Na2; have Ml2 := kmp_lt Ma2; (try ((refine useIt (P := KM (wr.heap.size + 1) 0 0 0 0 0 0 u2) ?_ ?_); (repeat (first | with_reducible assumption | (with_reducible exact KM.at _ (by first | with_reducible rfl | (simp; done) | fail)) | with_reducible refine KM.drew ?_ | with_reducible refine KM.alloc ?_ _ | with_reducible refine KM.call ?_ (by with_reducible assumption) | with_reducible refine Km.drew ?_ | with_reducible refine Km.alloc ?_ _ | with_reducible refine Km.call ?_ (by with_reducible assumption) | with_reducible refine Kt.drew ?_ | with_reducible refine Kt.alloc ?_ _ | with_reducible refine Kt.call ?_ (by with_reducible assumption) | with_reducible refine Ko6.drew ?_ | with_reducible refine Ko6.alloc ?_ _ | with_reducible refine Ko6.call ?_ (by with_reducible assumption) | with_reducible refine KOw.drew ?_ | with_reducible refine KOw.alloc ?_ _ | with_reducible refine KOw.call ?_ (by with_reducible assumption) | with_reducible refine KMp.drew ?_ | with_reducible refine KMp.alloc ?_ _ | with_reducible refine KMp.call ?_ (by with_reducible assumption))); intro Z2y0; have Z2y0c0 := Z2y0.c0; have Z2y0f0 := Z2y0.f0; have Z2y0c1 := Z2y0.c1; have Z2y0f1 := Z2y0.f1; have Z2y0c2 := Z2y0.c2; have Z2y0f2 := Z2y0.f2; have Z2y0c3 := Z2y0.c3; have Z2y0f3 := Z2y0.f3; have Z2y0c4 := Z2y0.c4; have Z2y0f4 := Z2y0.f4; have Z2y0c5 := Z2y0.c5; have Z2y0f5 := Z2y0.f5; have Z2y0l := Z2y0.lt)); (try ((refine useIt (P := KM u1.heap.size 0 0 0 0 0 0 u2) ?_ ?_); (repeat (first | with_reducible assumption | (with_reducible exact KM.at _ (by first | with_reducible rfl | (simp; done) | fail)) | with_reducible refine KM.drew ?_ | with_reducible refine KM.alloc ?_ _ | with_reducible refine KM.call ?_ (by with_reducible assumption) | with_reducible refine Km.drew ?_ | with_reducible refine Km.alloc ?_ _ | with_reducible refine Km.call ?_ (by with_reducible assumption) | with_reducible refine Kt.drew ?_ | with_reducible refine Kt.alloc ?_ _ | with_reducible refine Kt.call ?_ (by with_reducible assumption) | with_reducible refine Ko6.drew ?_ | with_reducible refine Ko6.alloc ?_ _ | with_reducible refine Ko6.call ?_ (by with_reducible assumption) | with_reducible refine KOw.drew ?_ | with_reducible refine KOw.alloc ?_ _ | with_reducible refine KOw.call ?_ (by with_reducible assumption) | with_reducible refine KMp.drew ?_ | with_reducible refine KMp.alloc ?_ _ | with_reducible refine KMp.call ?_ (by with_reducible assumption))); intro Z2y1; have Z2y1c0 := Z2y1.c0; have Z2y1f0 := Z2y1.f0; have Z2y1c1 := Z2y1.c1; have Z2y1f1 := Z2y1.f1; have Z2y1c2 := Z2y1.c2; have Z2y1f2 := Z2y1.f2; have Z2y1c3 := Z2y1.c3; have Z2y1f3 := Z2y1.f3; have Z2y1c4 := Z2y1.c4; have Z2y1f4 := Z2y1.f4; have Z2y1c5 := Z2y1.c5; have Z2y1f5 := Z2y1.f5; have Z2y1l := Z2y1.lt)); have Ba2 : Below w.heap.size w u2 := (by repeat (first | with_reducible assumption | with_reducible exact Below.refl _ _ | with_reducible refine Below.alloc ?_ (by first | omega | (simp <;> omega)) _ | with_reducible refine bstep ?_ (by with_reducible assumption) | with_reducible refine Below.drew ?_)); have zz2 := Below.size Ba2))
       all_goals
        go_wp2_with fail
        go_meet
        exact ⟨_, rfl, (by first | (with_reducible exact KM.at _ (by first | with_reducible rfl | (simp; done) | fail)) | (with_reducible exact KM.store (by repeat (first | with_reducible assumption | (with_reducible exact KM.at _ (by first | with_reducible rfl | (simp; done) | fail)) | with_reducible refine KM.drew ?_ | with_reducible refine KM.alloc ?_ _ | with_reducible refine KM.call ?_ (by with_reducible assumption) | with_reducible refine Km.drew ?_ | with_reducible refine Km.alloc ?_ _ | with_reducible refine Km.call ?_ (by with_reducible assumption) | with_reducible refine Kt.drew ?_ | with_reducible refine Kt.alloc ?_ _ | with_reducible refine Kt.call ?_ (by with_reducible assumption) | with_reducible refine Ko6.drew ?_ | with_reducible refine Ko6.alloc ?_ _ | with_reducible refine Ko6.call ?_ (by with_reducible assumption) | with_reducible refine KOw.drew ?_ | with_reducible refine KOw.alloc ?_ _ | with_reducible refine KOw.call ?_ (by with_reducible assumption) | with_reducible refine KMp.drew ?_ | with_reducible refine KMp.alloc ?_ _ | with_reducible refine KMp.call ?_ (by with_reducible assumption))) _ _ _ _ _ _) | fail), (by repeat (first | with_reducible assumption | with_reducible refine KM.drew ?_ | with_reducible refine KM.alloc ?_ _ | with_reducible refine KM.call ?_ (by with_reducible assumption) | with_reducible refine Km.drew ?_ | with_reducible refine Km.alloc ?_ _ | with_reducible refine Km.call ?_ (by with_reducible assumption) | with_reducible refine Kt.drew ?_ | with_reducible refine Kt.alloc ?_ _ | with_reducible refine Kt.call ?_ (by with_reducible assumption) | with_reducible refine Ko6.drew ?_ | with_reducible refine Ko6.alloc ?_ _ | with_reducible refine Ko6.call ?_ (by with_reducible assumption) | with_reducible refine KOw.drew ?_ | with_reducible refine KOw.alloc ?_ _ | with_reducible refine KOw.call ?_ (by with_reducible assumption) | with_reducible refine KMp.drew ?_ | with_reducible refine KMp.alloc ?_ _ | with_reducible refine KMp.call ?_ (by with_reducible assumption) | ((with_reducible refine KOw.put ?_ ?_); (first | omega | (dsimp only; omega))) | ((with_reducible refine KMp.put ?_ ?_); (first | omega | (dsimp only; omega))) | ((with_reducible refine Ko6.put ?_ ?_); (first | omega | (dsimp only; omega))) | ((with_reducible refine KM.put ?_ ?_); (first | omega | (dsimp only; omega))) | ((with_reducible refine Km.put ?_ ?_); (first | omega | (dsimp only; omega))) | ((with_reducible refine Kt.put ?_ ?_); (first | omega | (dsimp only; omega))) | ((with_reducible refine KM.far ?_ ?_); (first | omega | (dsimp only; omega))) | ((with_reducible refine Km.far ?_ ?_); (first | omega | (dsimp only; omega))))), (by repeat (first | with_reducible assumption | with_reducible refine KM.drew ?_ | with_reducible refine KM.alloc ?_ _ | with_reducible refine KM.call ?_ (by with_reducible assumption) | with_reducible refine Km.drew ?_ | with_reducible refine Km.alloc ?_ _ | with_reducible refine Km.call ?_ (by with_reducible assumption) | with_reducible refine Kt.drew ?_ | with_reducible refine Kt.alloc ?_ _ | with_reducible refine Kt.call ?_ (by with_reducible assumption) | with_reducible refine Ko6.drew ?_ | with_reducible refine Ko6.alloc ?_ _ | with_reducible refine Ko6.call ?_ (by with_reducible assumption) | with_reducible refine KOw.drew ?_ | with_reducible refine KOw.alloc ?_ _ | with_reducible refine KOw.call ?_ (by with_reducible assumption) | with_reducible refine KMp.drew ?_ | with_reducible refine KMp.alloc ?_ _ | with_reducible refine KMp.call ?_ (by with_reducible assumption) | ((with_reducible refine KOw.put ?_ ?_); (first | omega | (dsimp only; omega))) | ((with_reducible refine KMp.put ?_ ?_); (first | omega | (dsimp only; omega))) | ((with_reducible refine Ko6.put ?_ ?_); (first | omega | (dsimp only; omega))) | ((with_reducible refine KM.put ?_ ?_); (first | omega | (dsimp only; omega))) | ((with_reducible refine Km.put ?_ ?_); (first | omega | (dsimp only; omega))) | ((with_reducible refine Kt.put ?_ ?_); (first | omega | (dsimp only; omega))) | ((with_reducible refine KM.far ?_ ?_); (first | omega | (dsimp only; omega))) | ((with_reducible refine Km.far ?_ ?_); (first | omega | (dsimp only; omega))))), (by repeat (first | with_reducible assumption | with_reducible refine KM.drew ?_ | with_reducible refine KM.alloc ?_ _ | with_reducible refine KM.call ?_ (by with_reducible assumption) | with_reducible refine Km.drew ?_ | with_reducible refine Km.alloc ?_ _ | with_reducible refine Km.call ?_ (by with_reducible assumption) | with_reducible refine Kt.drew ?_ | with_reducible refine Kt.alloc ?_ _ | with_reducible refine Kt.call ?_ (by with_reducible assumption) | with_reducible refine Ko6.drew ?_ | with_reducible refine Ko6.alloc ?_ _ | with_reducible refine Ko6.call ?_ (by with_reducible assumption) | with_reducible refine KOw.drew ?_ | with_reducible refine KOw.alloc ?_ _ | with_reducible refine KOw.call ?_ (by with_reducible assumption) | with_reducible refine KMp.drew ?_ | with_reducible refine KMp.alloc ?_ _ | with_reducible refine KMp.call ?_ (by with_reducible assumption) | ((with_reducible refine KOw.put ?_ ?_); (first | omega | (dsimp only; omega))) | ((with_reducible refine KMp.put ?_ ?_); (first | omega | (dsimp only; omega))) | ((with_reducible refine Ko6.put ?_ ?_); (first | omega | (dsimp only; omega))) | ((with_reducible refine KM.put ?_ ?_); (first | omega | (dsimp only; omega))) | ((with_reducible refine Km.put ?_ ?_); (first | omega | (dsimp only; omega))) | ((with_reducible refine Kt.put ?_ ?_); (first | omega | (dsimp only; omega))) | ((with_reducible refine KM.far ?_ ?_); (first | omega | (dsimp only; omega))) | ((with_reducible refine Km.far ?_ ?_); (first | omega | (dsimp only; omega))))), (by repeat (first | with_reducible assumption | with_reducible exact Below.refl _ _ | with_reducible refine Below.setCell ?_ (by first | omega | (simp <;> omega)) _ | with_reducible refine Below.alloc ?_ (by first | omega | (simp <;> omega)) _ | with_reducible refine bstep ?_ (by with_reducible assumption) | with_reducible refine Below.drew ?_))⟩
      case rest =>
       obtain ⟨gn, rfl, X, L, O, Mp, Bx⟩ := hcut
       obtain ⟨W4, hW4⟩ : ∃ z, z = wc := ⟨_, rfl⟩
       subst hW4
       clear X0 L3 O3 M3 N3 B3 X0c L3c N3c zB3 CA CR q10 q11 q12 q13 q14 q15 q16
       have Xc := X.cells5
       have Xl := X.lt
       have hgn : gn ≠ w.heap.size + 1 + 1 := km_ne_map X Mp
       have hol := O.lt
       have hg1 : g1 ≠ w.heap.size + 1 + 1 := O.ne_map Mp
       have zx := Bx.size
       rcases hd : decide ((e0, e1, e2, e3, p, q) ∈ Q1) with _ | _
       ·have HG2 := Lib.hid (HD.out (of_decide_eq_false hd))
        clear HH HD
        go_wp2_with (first
         | (at_lookup; refine wpList_look6 rfl _ _ rfl (w.heap.size + 1 + 1) Q1.length Q1 (e0, e1, e2, e3, p, q) rfl rfl Mp HQS.out HSM.out false hd ?_)
         | (at_mapUpdate; refine wpList_store6 rfl _ _ _ rfl (w.heap.size + 1 + 1) Q1.length Q1 (e0, e1, e2, e3, p, q) rfl rfl rfl Mp HSM.out (by have := HK.out; unfold maxLen; omega) ?_; intro w5 hM5 hg5; have X5 := KM.grown X hg5 (fun e => hgn (Option.some.inj e)); have X5c := X5.cells5; have L5 : Kt w.heap.size A B C w5 := Kt.grown L hg5 (fun e => by have := Option.some.inj e; omega); have O5 : w5.ownsRow (w.heap.size + 1) 136 6 (.slice (some ⟨g1, 0, none⟩) Q1.length cap1) Q1.length (cells6 Q1) := KOw.kept O hg5 (fun e => hg1 (Option.some.inj e)); have B5 : Below w.heap.size w w5 := Below.grown Bx hg5 zx (fun r hr => by cases hr; omega); have z5 := B5.size)
         | (at_builtin; refine wpList_append_own _ rfl _ _ 86 rfl (w.heap.size + 1) 136 i0 (.agg #[.int .i64 0, .int .i64 0, .int .i64 0, .int .i64 0, .int .i64 0, .int .i64 0]) 6 48 Tryz.underlying86 hinf hz0 hz1 hz2 rfl (by decide) _ _ _ rfl (O5.alloc _) ⟨w5.heap.size, 0, none⟩ 1 1 [.int .i64 e0, .int .i64 e1, .int .i64 e2, .int .i64 e3, .int .i64 p, .int .i64 q] rfl rfl (new_six _ _ _ _ _ _ _ rfl) one_six (by have := HK.out; unfold maxLen; omega) (by have := HK.out; omega) (by have hz5 := z5; (try simp); omega) ?_; intro v9 w9 hown9 hgrow _))
        obtain ⟨g9, cap9, rfl, O9⟩ := KOw.of (own_next6 hown9) (by simp)
        have hne9 : some (w.heap.size + 1 + 1) ≠ (Value.slice (some ⟨g1, 0, none⟩) Q1.length cap1).ownBlock := fun e => hg1 (by simpa [Value.ownBlock] using e.symm)
        have M9 : KMp (w.heap.size + 1 + 1) (Q1 ++ [(e0, e1, e2, e3, p, q)]).length (Q1 ++ [(e0, e1, e2, e3, p, q)]) w9 := by
         have h := (hM5.alloc (.cells #[.int .i64 e0, .int .i64 e1, .int .i64 e2, .int .i64 e3, .int .i64 p, .int .i64 q] 136)).kept hgrow hne9
         simpa [KMp] using h
        have L9 : Kt w.heap.size A B C w9 := Kt.grown (L5.alloc _) hgrow (fun e => by have e2 : some w.heap.size = some g1 := e; have e3 := Option.some.inj e2; have := hol.1; omega)
        have B9 : Below w.heap.size w w9 := Below.grown (B5.alloc z5 _) hgrow (by simp; omega) (fun r hr => by have e2 : some g1 = some r := hr; have e3 := Option.some.inj e2; have := hol.1; omega)
        have hne10 : g9 ≠ w.heap.size + 1 + 1 := O9.ne_map M9
        clear hown9 hgrow X X5 X5c Xc L L5 O O5 Mp hM5 hg5 Bx B5
        go_wp2
        go_roundw
        case rel => exact ⟨k + 1, by go_num, Q1 ++ [(e0, e1, e2, e3, p, q)], g9, cap9, by have := HK.out; simp; omega, HG2.out, by have := HK.out; omega, rfl, O9, M9, L9, B9, hne10⟩
        case measure => (have := HK.out); first | (simp [intOf]; done) | (simp [intOf]; omega)
       ·have HG2 := Lib.hid (HH.out (of_decide_eq_true hd))
        clear HH HD
        go_wp2_with (at_lookup; refine wpList_look6 rfl _ _ rfl (w.heap.size + 1 + 1) Q1.length Q1 (e0, e1, e2, e3, p, q) rfl rfl Mp HQS.out HSM.out true hd ?_)
        go_roundw
        case rel => exact ⟨k + 1, by go_num, Q1, g1, cap1, by have := HK.out; omega, HG2.out, by have := HK.out; omega, rfl, O, Mp, L, Bx, hg1⟩
        case measure => (have := HK.out); first | (simp [intOf]; done) | (simp [intOf]; omega)
     ·obtain rfl : k = R.length := by omega
      have HG2 := Lib.hid hG.next
      have HK := Lib.hid (show i < Q1.length ∧ i ≤ 768 from ⟨hi, by omega⟩)
      clear hG hk hk1 hi hi2 hQl hi0
      go_wp2
      go_roundw
      case rel => exact ⟨i + 1, by go_num, Q1, g1, cap1, HG2.out, by have := HK.out; omega, rfl, hO, hM, hL, hB, hne⟩
      case measure => (have := HK.out); first | (simp [intOf]; done) | (simp [intOf]; omega)
  ·obtain rfl : i = Q.length := by omega
   have HGM := Lib.hid hG
   clear hG hO hL
   go_wp2
   go_ret
   exact ⟨_, Q.length, Q, rfl, by omega, hM, HGM.out.nodup, HGM.out.mem, hB⟩
end
end Go.Proofs.YtdgophfembpniaaGreatDoor

