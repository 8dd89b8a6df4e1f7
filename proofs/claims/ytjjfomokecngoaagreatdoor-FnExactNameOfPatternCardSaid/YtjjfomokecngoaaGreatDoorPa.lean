/-
 Several of my texts in one: RgA, RgH, RgT.
-/
import Derived.RangeFuncNested
import Derived.RangeFuncBound
import Derived.RangeFuncLeaves
import Derived.Test.YtjjfomokecngoaaGreatDoorRows
import Derived.OrdersHeld
import Derived.OrdersIn
import Derived.TacticsIn
import Derived.RangeFuncCalls
import Derived.Deep.RegionHeld
import Derived.Test.YtjjfomokecngoaaGreatDoorGa
import Derived.Test.YtjjfomokecngoaaGreatDoorGf
namespace Go.Proofs.YtjjfomokecngoaaGreatDoor
section
open Go.RowKit
set_option linter.unusedVariables false
set_option linter.unusedSimpArgs false

theorem room_any {F : Fence} (hd : F.depth = none) (k : Nat) : F.room k := fun d h => by rw [hd] at h; cases h
theorem yieldAt_any {F : Fence} (hd : F.depth = none) {m : Nat} (m' : Nat) {P : Program} {l : Nat} {args : Array Value} {W : World} {R : Ending → World → Prop} (h : YieldAt F m P l args W R) : YieldAt F m' P l args W R := by
 obtain ⟨fn, tmps, assign, body, hy, hR⟩ := h
 exact ⟨fn, tmps, assign, body, hy, hR.1, fun c cs _ => hR.2 c cs (room_any hd _)⟩
theorem kfUp {B B' : Nat} {X Y : World} (h : KeepsFrom B X Y) (hb : B ≤ B') : KeepsFrom B' X Y := ⟨h.size, fun k o hk ho hc => h.same k o (by omega) ho hc⟩
/- the contract: every invariant that abides the turn of what is no cells and was laid since the call began -/
def SeqAll {α : Type} (F : Fence) (n : Nat) (P : Program) (g : Nat) (lb : Array Value) (encs : α → Array Value) (Kp : World → World → Prop) (S : List α → Prop) (N : Nat) (w : World) : Prop :=
 ∀ (l : Nat) (J : List α → World → Prop) (W : World), Below w.heap.size w W → OwnFrom W.heap.size J →
  (∀ pre x X, J pre X → pre.length < N → YieldAt F (n - 1) P l (encs x) X fun e Y => e = .returned (.bool true) ∧ J (pre ++ [x]) Y ∧ Kp X Y ∧ KeepsFrom W.heap.size X Y) →
  J [] W → CallsIn F n P g (#[.func (.yield l) #[] #[]] ++ lb) W fun e Y => (∃ v, e = .returned v) ∧ ∃ xs, S xs ∧ J xs Y
/- the records that the loop lays: the block for deferred calls at D, the loop's own behind it -/
structure Recs (D : Nat) (r : Loop) (W : World) : Prop where
 df : W.heap[D]? = some (.deferred (some []))
 lp : W.heap[D + 1]? = some (.loop r)
theorem Recs.lt {D : Nat} {r : Loop} {W : World} (h : Recs D r W) : D + 1 < W.heap.size := (Array.getElem?_eq_some_iff.1 h.lp).1
theorem Recs.keep {D : Nat} {r : Loop} {W W' : World} (h : Recs D r W) (hk : KeepsFrom D W W') : Recs D r W' := ⟨hk.same _ _ (Nat.le_refl _) h.df rfl, hk.same _ _ (by omega) h.lp rfl⟩
theorem Recs.put {D : Nat} {r r' : Loop} {W : World} (h : Recs D r W) : Recs D r' (W.putObj (D + 1) (.loop r')) := ⟨(World.putObj_heap_other (by omega)).trans h.df, World.putObj_heap_same h.lt⟩
theorem Recs.own {β : Type} {D : Nat} {r : Loop} : OwnFrom (D + 2) (fun (_ : β) W => Recs D r W) := fun _ X Y row hs hg hr =>
 ⟨(hg.block D (by have := hs.lt; omega) (fun e => by have := (hr D e.symm).1; omega)).trans hs.df, (hg.block (D + 1) hs.lt (fun e => by have := (hr (D + 1) e.symm).1; omega)).trans hs.lp⟩
theorem ofUp {β : Type} {B B' : Nat} {I : β → World → Prop} (h : OwnFrom B I) (hb : B ≤ B') : OwnFrom B' I := fun s X Y row hs hg hr => h s X Y row hs hg fun r e => ⟨Nat.le_trans hb (hr r e).1, (hr r e).2⟩
theorem wpIn_rangeFunc_all {α : Type} {F : Fence} {n : Nat} {P : Program} {g : Operand} {ps : Array Tmp} {assign body : Code} {Q : Exit → Act → World → Prop} {a : Act} {w : World}
  (hro : F.round = none) (h1 : 1 ≤ n) {gf : Nat} {lb : Array Value} (hg : a.eval g = .func (.func gf) #[] lb) (hFg : F.fn gf) (eg : ∀ args w, (callFunc gf args).run P w = .ok (.enter gf args) w)
  {encs : α → Array Value} {Kp : World → World → Prop} {S : List α → Prop} {N : Nat} (hseq : SeqAll F (n - 1) P gf lb encs Kp S N w) (hps : ∀ x, (encs x).size = ps.size)
  (hKt : ∀ {A B C : World}, Kp A B → Kp B C → Kp A C) (hKb : ∀ (W : World) (l : Nat) (o o' : Obj), w.heap.size ≤ l → W.heap[l]? = some o → o.isCells = false → o.isWalk = false → Kp W (W.putObj l o'))
  (I : List α → World → Prop) (hI : OwnFrom w.heap.size I) (h0 : I [] w) (Ax : α → Act → World → Prop) (hAx : ∀ x a', OwnFrom w.heap.size (fun (_ : Unit) W => Ax x a' W))
  (hassign : ∀ (l : Nat) (pre : List α) (x : α) (W : World) (K : Act → World → Prop), I pre W → (∀ a' Y, KeepsFrom w.heap.size W Y → Kp W Y → I pre Y → Ax x a' Y → K a' Y) →
   assign.wpIn (F.inRound l) (n - 1 - 1) P (Exit.then K (fun _ _ _ => False)) { tmps := (ps.zip (encs x)).foldl (fun t (p, v) => t.setIfInBounds p v) a.tmps, defers := [] } W)
  (hbody : ∀ (l : Nat) (pre : List α) (x : α) (a' : Act) (W : World), I pre W → Ax x a' W → pre.length < N → body.wpIn (F.inRound l) (n - 1 - 1) P (fun e _ Y => e = .normal ∧ KeepsFrom w.heap.size W Y ∧ Kp W Y ∧ I (pre ++ [x]) Y) a' W)
  (hdone : ∀ (D : Nat) (xs : List α) (W : World), w.heap.size ≤ D → S xs → I xs W → W.heap[D]? = some (.deferred (some [])) → Q .normal { a with defers := { target := .collected D, args := #[] } :: a.defers } W) :
  (Code.rangeFunc g ps assign body).wpIn F n P Q a w := by
 refine wpIn_rangeFunc fun fn hfn => ?_
 rw [hro]
 let rc : LoopState → Loop := fun st => { state := st, pending := none, fn, tmps := a.tmps, params := ps, assign, body, defers := w.heap.size }
 have hal : Below w.heap.size w ((w.alloc (.deferred (some []))).alloc (.loop (rc .ready))) := ((Below.refl _ w).alloc (Nat.le_refl _) _).alloc (by simp) _
 have hrec : Recs w.heap.size (rc .ready) ((w.alloc (.deferred (some []))).alloc (.loop (rc .ready))) := by
  refine ⟨(Below.heap_alloc _ _ _ (by simp)).trans (World.alloc_heap_new w _), ?_⟩
  have h9 := World.alloc_heap_new (w.alloc (.deferred (some []))) (.loop (rc .ready))
  rwa [World.size_alloc] at h9
 have hI1 : I [] ((w.alloc (.deferred (some []))).alloc (.loop (rc .ready))) := hI.alloc _ (hI.alloc _ h0)
 have hs1 : ((w.alloc (.deferred (some []))).alloc (.loop (rc .ready))).heap.size = w.heap.size + 2 := by simp
 have hent := run_enterLoop_outer (P := P) (w := w) fn a.tmps ps assign body
 revert hal hrec hI1 hs1 hent
 generalize (w.alloc (.deferred (some []))).alloc (.loop (rc .ready)) = V
 intro hal hrec hI1 hs1 hent
 refine ⟨w.heap.size + 1, _, V, { target := .fn (.func gf) lb, args := #[.func (.yield (w.heap.size + 1)) #[] #[]] }, V, gf, #[.func (.yield (w.heap.size + 1)) #[] #[]] ++ lb, V, hent, ?_, ?_, ?_, fun _ => h1, ?_⟩
 ·simp only [resolve, hg]
  simp [go_sem]
 ·intro f' hf'
  simp [Target.leads] at hf'
  exact hf' ▸ hFg
 ·simp [invoke, go_sem, eg]
 refine (hseq (w.heap.size + 1) (fun pre W => I pre W ∧ Recs w.heap.size (rc .ready) W) V hal (OwnFrom.and (ofUp hI (by omega)) (by rw [hs1]; exact Recs.own)) ?round ⟨hI1, hrec⟩).mono ?fin
 case fin =>
  rintro e W2 ⟨⟨v, rfl⟩, xs, hS, hi, hr⟩
  refine ⟨none, _, run_endLoop (P := P) hr.lp (by simp [rc]), hdone _ xs _ (Nat.le_refl _) hS (hI.putObj _ hi (by omega) hr.lp rfl) ((World.putObj_heap_other (by omega)).trans hr.df)⟩
 case round =>
  rintro pre x X ⟨hi, hr⟩ hlen
  refine ⟨fn, _, assign, body, run_yield (P := P) (args := encs x) hr.lp (hps x), roundIn_of_wpIn hfn (hassign _ pre x X _ hi ?_)⟩
  intro a' Y hkf hkp hi2 hax
  have hr2 := hr.keep hkf
  have hr3 : Recs w.heap.size (rc .busy) (Y.putObj (w.heap.size + 1) (.loop (rc .busy))) := hr2.put
  have hkp3 := hKb Y (w.heap.size + 1) (.loop (rc .ready)) (.loop (rc .busy)) (by omega) hr2.lp rfl rfl
  refine ⟨_, run_beginRound hr2.lp rfl, wpIn_mono (hbody _ pre x a' _ (hI.putObj _ hi2 (by omega) hr2.lp rfl) ((hAx x a').putObj (s := ()) _ hax (by omega) hr2.lp rfl) hlen) ?_⟩
  rintro e a3 Z ⟨rfl, hkf4, hkp4, hi4⟩
  have hr4 := hr3.keep hkf4
  have hkp5 := hKb Z (w.heap.size + 1) (.loop (rc .busy)) (.loop (rc .ready)) (by omega) hr4.lp rfl rfl
  refine ⟨_, _, run_endRound (P := P) none hr4.lp, rfl, ⟨hI.putObj _ hi4 (by omega) hr4.lp rfl, hr4.put⟩, hKt hkp (hKt hkp3 (hKt hkp4 hkp5)), ?_⟩
  have hz : ∀ (A : World) (o' : Obj), KeepsFrom V.heap.size A (A.putObj (w.heap.size + 1) o') := fun A o' => ⟨by simp, fun k o hk ho _ => (World.putObj_heap_other (by omega)).trans ho⟩
  exact (kfUp hkf (by omega)).trans ((hz _ _).trans ((kfUp hkf4 (by omega)).trans (hz _ _)))
end
end Go.Proofs.YtjjfomokecngoaaGreatDoor

namespace Go.Proofs.YtjjfomokecngoaaGreatDoor
section
open Go.RowKit
set_option linter.unusedSimpArgs false
set_option linter.unusedVariables false

theorem upon_wide {ro : Option Nat} {n : Nat} {P : Program} {o : Oper} {a : Act} {next : Act → World → Prop} {Q : Exit → Act → World → Prop} {r : Result Next} (h : o.upon P a next Q r) : o.uponIn { Fence.wide with round := ro } n P a next Q r := by
 cases r with
 | ok x w' =>
  cases x with
  | value v => exact h
  | skip => exact h
  | defer d => exact h
  | enter f args => exact ⟨(fun e => by simp [Fence.wide] at e), callsIn_wide.2 h⟩
  | row row args => exact ⟨(fun e => by simp [Fence.wide] at e), fun c cs _ => let ⟨v, w'', r, s⟩ := h c cs; ⟨v, w'', r, stepsIn_wide.2 s⟩⟩
  | _ => exact h.elim
 | halt x w' =>
  cases x with
  | panic v => exact h
  | _ => exact h.elim
theorem wpOp_wide {ro : Option Nat} {n : Nat} {P : Program} {ops : Array Oper} {Q : Exit → Act → World → Prop} {i : Nat} {K K' : Act → World → Prop} {a : Act} {w : World} (hL : ¬ LetsOut Q) (hd : ∀ (i : Nat) (o : Oper), ops[i]? = some o → ∀ c, o.op ≠ .defer c)
  (hK : ∀ a w, K a w → K' a w) (h : wpOp P ops Q i K a w) : wpOpIn { Fence.wide with round := ro } n P ops Q i K' a w := by
 unfold wpOp at h
 unfold wpOpIn
 rcases ho : ops[i]? with _ | o
 ·simp only [ho] at h ⊢
  exact hK _ _ h
 ·simp only [ho] at h ⊢
  split
  ·rename_i hw
   simp only [hw, if_true] at h
   rcases h with h | ⟨_, h⟩
   ·refine ⟨fun _ _ => trivial, ?_⟩
    rw [Oper.semAt_eq _ _ _ (hd i o ho)]
    exact upon_wide (Oper.wp_mono hK h)
   ·exact (hL h).elim
  ·rename_i hw
   simp only [hw] at h
   exact ⟨fun _ _ => trivial, hK _ _ h⟩
theorem wpAny_wide {ro : Option Nat} {n : Nat} {P : Program} {md : Region.Mode} {ops : Array Oper} {Q : Exit → Act → World → Prop} (hL : ¬ LetsOut Q) (hd : ∀ (i : Nat) (o : Oper), ops[i]? = some o → ∀ c, o.op ≠ .defer c) :
  ∀ (fuel : Nat) (L : Array Bool) (a : Act) (w : World), wpAny P md ops Q fuel L a w → wpAnyIn { Fence.wide with round := ro } n P md ops Q fuel L a w
 | 0, _, _, _, h => h
 | fuel + 1, _, _, _, h => ⟨h.1, fun i hi => wpOp_wide hL hd (fun a' w' h' => wpAny_wide hL hd fuel _ a' w' h') (h.2 i hi)⟩
def noDefer (ops : Array Oper) : Bool := ops.toList.all fun o => match o.op with | .defer _ => false | _ => true
theorem noDefer_spec {ops : Array Oper} (h : noDefer ops = true) : ∀ (i : Nat) (o : Oper), ops[i]? = some o → ∀ c, o.op ≠ .defer c := by
 intro i o ho c e
 have h1 := List.all_eq_true.1 h o (by rw [Array.mem_toList_iff]; exact Array.mem_of_getElem? ho)
 rw [e] at h1
 cases h1
theorem region_held_in {ro : Option Nat} {n : Nat} {P : Program} {ops : Array Oper} {Q : Exit → Act → World → Prop} {S : World → Prop} {id : Nat} {a : Act} {w : World} (hm : P.follows .mixedOrders = true) (hd : noDefer ops = true) (hL : ¬ LetsOut Q) (hS : S w.drew)
  (h : S w.drew → wpAnyH P .any ops Q S ops.size (Array.replicate ops.size false) a w.drew) : (Code.region id ops true).wpIn { Fence.wide with round := ro } n P Q a w :=
 wpIn_region_any hm (wpAny_wide hL (noDefer_spec hd) _ _ _ _ (wpAny_of_held _ _ _ _ (h hS)))
end
end Go.Proofs.YtjjfomokecngoaaGreatDoor

namespace Go.Proofs.YtjjfomokecngoaaGreatDoor
section
open Go.RowKit
set_option linter.unusedSimpArgs false
set_option linter.unusedVariables false

theorem region_T_in {ro : Option Nat} {m : Nat} {P : Program} {ops : Array Oper} {Q : Exit → Act → World → Prop} (n : Nat) (S : World → Prop) {id : Nat} {a : Act} {w : World} (hm : P.follows .mixedOrders = true) (hd : noDefer ops = true) (hL : ¬ LetsOut Q) (hS : S w.drew)
  (h : S w.drew → HeadInv .any ops n (Array.replicate ops.size false) → wpAnyT P .any ops Q S n ops.size (Array.replicate ops.size false) a w.drew) : (Code.region id ops true).wpIn { Fence.wide with round := ro } m P Q a w :=
 wpIn_region_any hm (wpAny_wide hL (noDefer_spec hd) _ _ _ _ (wpAny_of_T _ _ _ _ (h hS headInv_start)))
end
end Go.Proofs.YtjjfomokecngoaaGreatDoor

