/-
 The program's iterator over the reduced motions that are suitable for a plane and a lattice. Conditions: the frame and the lattice are valid.
-/
import Derived.Test.YtjjfomokecngoaaGreatDoorPa
import Derived.Test.YtjjfomokecngoaaGreatDoorPmJ
import Derived.Test.YtjjfomokecngoaaGreatDoorPc
import Derived.Test.YtjjfomokecngoaaGreatDoorGc
namespace Go.Proofs.YtjjfomokecngoaaGreatDoor
open Go.RowKit Go.Shelf
attribute [local go_sem] Oper.semAt_some
set_option linter.unusedSimpArgs false
set_option linter.unusedVariables false
theorem tkSyM {md P ops Q S} {i : Nat} {oi : Oper} {v : Value} {fuel : Nat} {listed : Array Bool} {a : Act} {w : World} (hi : ops[i]? = some oi := by (simp only [List.getElem?_toArray, List.getElem?_cons_succ, List.getElem?_cons_zero]); rfl) (hs : Region.noSelect ops = true := by kernel_rfl) (hf : Region.free md ops listed i = true := by kernel_rfl) (hr : (Region.ready md ops listed).contains i = true := by kernel_rfl) (hQ : ∀ c a w, Q (.panic c) (a.put oi.dst v) w → Q (.panic c) a w := by exact fun _ _ _ h => h) (hy : YieldsIf P ops S oi v a) (hS : S w := by assumption) (h : wpAnyH P md ops Q S fuel (listed.setIfInBounds i true) (a.put oi.dst v) w) : wpAnyH P md ops Q S (fuel + 1) listed a w := wpAnyH_take hi hs hf hr hQ hy hS h

/- the motions made of a matrix and cells -/
def rowM (m : M4) (L : List (Int × Int)) : List M6 := L.map fun v => (m.1, m.2.1, m.2.2.1, m.2.2.2, v.1, v.2)
def motL (f : Int) (p : Nat) (B : Int) (q : Nat) : List M6 := (stabL f (p : Int) B (q : Int)).flatMap fun m => rowM m (cellP q p)
/- a motion of the list: its matrix keeps the norms and the lattice, its shift is a cell -/
def MotQ (f : Int) (p : Nat) (B : Int) (q : Nat) (m : M6) : Prop := (keepB f m.1 m.2.1 m.2.2.1 m.2.2.2.1 = true ∧ stabB (p : Int) B (q : Int) (m.1, m.2.1, m.2.2.1, m.2.2.2.1) = true) ∧ (0 ≤ m.2.2.2.2.1 ∧ m.2.2.2.2.1 < (p : Int)) ∧ (0 ≤ m.2.2.2.2.2 ∧ m.2.2.2.2.2 < (q : Int))
abbrev MS (f : Int) (p : Nat) (B : Int) (q : Nat) := {m : M6 // MotQ f p B q m}
/- what a round keeps: every block of cells that is no motion and no slice of motions -/
def KeepT (W W' : World) : Prop := W.heap.size ≤ W'.heap.size ∧ ∀ (b : Nat) (cs : Array Value) (T : TypeId), W.heap[b]? = some (Obj.cells cs T (0, 0)) → T ≠ 145 → T ≠ 110 → W'.heap[b]? = W.heap[b]?
theorem KeepT.trans {A B C : World} (h : KeepT A B) (k : KeepT B C) : KeepT A C := ⟨Nat.le_trans h.1 k.1, fun b cs T e h1 h2 => by
 have h3 := h.2 b cs T e h1 h2
 exact (k.2 b cs T (h3.trans e) h1 h2).trans h3⟩
theorem KeepT.below {A B : World} (h : Below A.heap.size A B) : KeepT A B := ⟨h.size, fun b cs T e _ _ => h.block b (Array.getElem?_eq_some_iff.1 e).1⟩
theorem KeepT.put {w : World} (W : World) (l : Nat) (o o' : Obj) (_ : w.heap.size ≤ l) (h : W.heap[l]? = some o) (hc : o.isCells = false) (_ : o.isWalk = false) : KeepT W (W.putObj l o') :=
 ⟨by simp, fun b cs T e _ _ => World.putObj_heap_other (fun hb => by subst hb; rw [e] at h; cases h; simp [Obj.isCells] at hc)⟩
theorem ofEx {β γ : Type} {B : Nat} {J : γ → World → Prop} (h : OwnFrom B J) (P : β → γ → Prop) : OwnFrom B (fun s W => ∃ y, P s y ∧ J y W) := fun s X Y row hs hg hr => by
 obtain ⟨y, h1, h2⟩ := hs
 exact ⟨y, h1, h y X Y row h2 hg hr⟩
theorem ofBelow {β : Type} {B : Nat} {J : β → World → Prop} (h : OwnFrom B J) {s : β} {X Y : World} (hj : J s X) (hb : Below X.heap.size X Y) : J s Y := h s X Y none hj (below_grown hb) (fun r e => by cases e)
theorem len_flat (C : List (Int × Int)) : ∀ L : List M4, (L.flatMap fun m => rowM m C).length = L.length * C.length
 | [] => by simp
 | m :: L => by rw [List.flatMap_cons, List.length_append, len_flat C L, List.length_cons, Nat.succ_mul]; simp [rowM]; omega
theorem mot_len {k m n : Nat} (hk : k ≤ 80) (hn : n ≤ 64) (hm : m < n) : k * n + m < 5184 := by
 have := Nat.mul_le_mul hk hn
 omega
set_option maxRecDepth 100000 in
set_option maxHeartbeats 4000000 in
theorem mots_in (n : Nat) (f A B C : Int) (w : World) :
  CallsIn Fence.wide n Tryz.prog 139 #[.agg #[.int .i64 A, .int .i64 B, .int .i64 C], .iface (planeT f) (.agg #[])] w fun e w' => e = .returned (.func (.func 206) #[] #[.pointer (some ⟨w.heap.size + 1, 0, none⟩), .pointer (some ⟨w.heap.size, 0, none⟩)]) ∧ w' = (w.alloc (.cells #[.int .i64 A, .int .i64 B, .int .i64 C] 28)).alloc (.cells #[.iface (planeT f) (.agg #[])] 106) := by
 refine callsIn_of_wp Tryz.func139 rfl trivial ?_ rfl
 simp only [Tryz.ntmps139, List.size_toArray, List.length_cons, List.length_nil, Nat.reduceAdd, Nat.reduceSub, Array.replicate_succ, Array.replicate_zero, List.push_toArray, List.append_toArray, List.nil_append, List.cons_append]
 gi_wp2
 go_ret
 exact ⟨by simp, rfl⟩
set_option maxRecDepth 100000 in
set_option maxHeartbeats 16000000 in
theorem mots_all (f : Int) (p : Nat) (B : Int) (q : Nat) (hf : frB f = true) (hl : latI (p : Int) B (q : Int)) (bp bl : Nat) (w : World) (hP : w.heap[bp]? = some (.cells #[.iface (planeT f) (.agg #[])] 106 (0, 0))) (hL : w.heap[bl]? = some (.cells #[.int .i64 (p : Int), .int .i64 B, .int .i64 (q : Int)] 28 (0, 0))) :
  SeqAll Fence.wide 8 Tryz.prog 206 #[.pointer (some ⟨bp, 0, none⟩), .pointer (some ⟨bl, 0, none⟩)] (fun x : MS f p B q => #[.agg #[.int .i64 (x.1.1), .int .i64 (x.1.2.1), .int .i64 (x.1.2.2.1), .int .i64 (x.1.2.2.2.1), .int .i64 (x.1.2.2.2.2.1), .int .i64 (x.1.2.2.2.2.2)]]) KeepT (fun ys => ys.map Subtype.val = motL f p B q) 5184 w := by
 intro l J W hW hJ hY h0
 have hP1 := (hW.block bp (Array.getElem?_eq_some_iff.1 hP).1).trans hP
 have hL1 := (hW.block bl (Array.getElem?_eq_some_iff.1 hL).1).trans hL
 have lP := (Array.getElem?_eq_some_iff.1 hP1).1
 have lL := (Array.getElem?_eq_some_iff.1 hL1).1
 have hlb := latI_bd hl
 have HLI := Lib.hid hl
 have hpp : p ≤ 64 := by omega
 have hqq : q ≤ 64 := by omega
 have hpq : p * q ≤ 64 := by have := hl.2.2.2.2; exact_mod_cast this
 have HY := Lib.hid hY
 have HJ := Lib.hid hJ
 have cP : W.cell? ⟨bp, 0, none⟩ = some (.iface (planeT f) (.agg #[])) := by simp [World.cell?, hP1]
 clear hY hP hL hl hW
 refine callsIn_of_wp_marks Tryz.func206 rfl trivial ?_ rfl
 simp only [Tryz.ntmps206, List.size_toArray, List.length_cons, List.length_nil, Nat.reduceAdd, Nat.reduceSub, Array.replicate_succ, Array.replicate_zero, List.push_toArray, List.append_toArray, List.nil_append, List.cons_append]
 gi_wp2_with (refine ⟨trivial, ?_⟩; gi_at_call 207; refine (pm_in Fence.wide _ trivial rfl _ _).mono ?_; rintro e w4 ⟨rfl, rfl⟩)
 have bY : ((W.alloc (.cells #[.func (.yield l) #[] #[]] 143)).alloc (.cells #[.iface (planeT f) (.agg #[])] 106)).heap[W.heap.size]? = some (.cells #[.func (.yield l) #[] #[]] 143 (0, 0)) := (Below.heap_alloc _ _ _ (by simp)).trans (World.alloc_heap_new W _)
 have bM : ((W.alloc (.cells #[.func (.yield l) #[] #[]] 143)).alloc (.cells #[.iface (planeT f) (.agg #[])] 106)).heap[W.heap.size + 1]? = some (.cells #[.iface (planeT f) (.agg #[])] 106 (0, 0)) := by simpa using World.alloc_heap_new (W.alloc (.cells #[.func (.yield l) #[] #[]] 143)) (.cells #[.iface (planeT f) (.agg #[])] 106)
 have BB : Below W.heap.size W ((W.alloc (.cells #[.func (.yield l) #[] #[]] 143)).alloc (.cells #[.iface (planeT f) (.agg #[])] 106)) := ((Below.refl _ _).alloc (Nat.le_refl _) _).alloc (by simp) _
 have hsz : ((W.alloc (.cells #[.func (.yield l) #[] #[]] 143)).alloc (.cells #[.iface (planeT f) (.agg #[])] 106)).heap.size = W.heap.size + 2 := by simp
 have hJ1 : J [] ((W.alloc (.cells #[.func (.yield l) #[] #[]] 143)).alloc (.cells #[.iface (planeT f) (.agg #[])] 106)) := OwnFrom.alloc HJ.out _ (OwnFrom.alloc HJ.out _ h0)
 obtain ⟨W0, hW0⟩ : ∃ W0, (W.alloc (.cells #[.func (.yield l) #[] #[]] 143)).alloc (.cells #[.iface (planeT f) (.agg #[])] 106) = W0 := ⟨_, rfl⟩
 rw [hW0] at bY bM BB hsz hJ1
 have bL := (BB.block bl lL).trans hL1
 have cM : W0.cell? ⟨W.heap.size + 1, 0, none⟩ = some (.iface (planeT f) (.agg #[])) := by simp [World.cell?, bM]
 (try rw [hW0])
 clear hW0 h0 cP hP1 hL1 BB
 refine wpIn_rangeFunc_ownH rfl (by omega) (gf := 249) (lb := #[.pointer (some ⟨W.heap.size + 1, 0, none⟩)]) rfl trivial (enters_of Tryz.func249 (by kernel_rfl) rfl)
  (pm_stops (8 - 1) (by omega) (W.heap.size + 1) f hf W0 (by omega) cM) (fun h k => ⟨Eq.trans k.1 h.1, Nat.le_trans h.2 k.2⟩) (keepP_b (by omega)) (Below.refl _ _) (fun _ => rfl)
  (fun pre X => (((∃ ys : List (MS f p B q), ys.map Subtype.val = (stabK (p : Int) B (q : Int) pre).flatMap (fun m => rowM m (cellP q p)) ∧ J ys X) ∧ X.heap[W.heap.size]? = some (.cells #[.func (.yield l) #[] #[]] 143 (0, 0))) ∧ X.heap[W.heap.size + 1]? = some (.cells #[.iface (planeT f) (.agg #[])] 106 (0, 0))) ∧ X.heap[bl]? = some (.cells #[.int .i64 (p : Int), .int .i64 B, .int .i64 (q : Int)] 28 (0, 0)))
  (fun _ _ _ => False)
  (OwnFrom.and (OwnFrom.and (OwnFrom.and (ofEx (ofUp HJ.out (by omega)) _) (Own.from (at_own4 _ _ rfl) _)) (Own.from (at_own4 _ _ rfl) _)) (Own.from (at_own4 _ _ rfl) _))
  (fun _ _ _ _ _ hs _ _ => hs)
  ⟨⟨⟨⟨[], rfl, hJ1⟩, bY⟩, bM⟩, bL⟩
  (fun x a' X => ∃ Bx : Nat, X.heap[Bx]? = some (.cells #[.int .i64 x.1.1, .int .i64 x.1.2.1, .int .i64 x.1.2.2.1, .int .i64 x.1.2.2.2] 133 (0, 0)) ∧ a' = { tmps := #[.func (.yield l) #[] #[], .pointer (some ⟨bp, 0, none⟩), .pointer (some ⟨bl, 0, none⟩), .pointer (some ⟨W.heap.size, 0, none⟩), .pointer (some ⟨Bx, 0, none⟩), undef, .iface (planeT f) (.agg #[]), .func (.func 249) #[] #[.pointer (some ⟨W.heap.size + 1, 0, none⟩)], .agg #[.int .i64 x.1.1, .int .i64 x.1.2.1, .int .i64 x.1.2.2.1, .int .i64 x.1.2.2.2], undef, undef, undef, undef, undef, undef, undef, undef, undef, undef, undef, undef, undef, undef], defers := [] })
  (fun x a' _ X Y row hs hg hr => by obtain ⟨Bx, h2, h3⟩ := hs; exact ⟨Bx, at_own4 Bx _ rfl () X Y row h2 hg (fun r e => (hr r e).2), h3⟩)
  ?assign ?body ?done ?stop
 case assign =>
  rintro lo pre x X K ⟨⟨⟨⟨ys, hys, hj⟩, hy9⟩, hm9⟩, hl9⟩ hK
  gi_wp2
  have l1 := (Array.getElem?_eq_some_iff.1 hy9).1
  have l2 := (Array.getElem?_eq_some_iff.1 hm9).1
  have l3 := (Array.getElem?_eq_some_iff.1 hl9).1
  have lj := ofUp HJ.out (Nat.le_refl _)
  refine hK _ _ ((KeepsOthers.alloc _ _).from _) ⟨Below.heap_alloc X _ _ l2, by simp⟩ ⟨⟨⟨⟨ys, hys, OwnFrom.alloc HJ.out _ hj⟩, (Below.heap_alloc X _ _ l1).trans hy9⟩, (Below.heap_alloc X _ _ l2).trans hm9⟩, (Below.heap_alloc X _ _ l3).trans hl9⟩ ⟨X.heap.size, World.alloc_heap_new X _, rfl⟩
 case body =>
  rintro lo pre x a' X hlo ⟨rl, hrl⟩ ⟨⟨⟨⟨ys, hys, hj⟩, hy9⟩, hm9⟩, hl9⟩ ⟨Bx, bX, rfl⟩ hlt
  obtain ⟨⟨a, b, c, d⟩, hkp⟩ := x
  dsimp only at bX
  have ltX := (Array.getElem?_eq_some_iff.1 bX).1
  have ltY := (Array.getElem?_eq_some_iff.1 hy9).1
  have ltM := (Array.getElem?_eq_some_iff.1 hm9).1
  have ltL := (Array.getElem?_eq_some_iff.1 hl9).1
  have ltR := (Array.getElem?_eq_some_iff.1 hrl).1
  have KX : Kq Bx a b c d X := ⟨ltX, by simp [World.cell?, bX], by simp [World.cell?, bX], by simp [World.cell?, bX], by simp [World.cell?, bX]⟩
  have KA : Kt bl (p : Int) B (q : Int) X := ⟨ltL, by simp [World.cell?, hl9], by simp [World.cell?, hl9], by simp [World.cell?, hl9]⟩
  have HKB := Lib.hid (show keepB f a b c d = true from hkp)
  obtain ⟨x0, x1, x2, x3, x4⟩ := id KX
  obtain ⟨a0, a1, a2, a3⟩ := id KA
  have hfn1 : Fence.wide.fn 208 := trivial
  have hfo : Tryz.prog.follows Departure.mixedOrders = true := by kernel_rfl
  have HM := Lib.hid (fun W => mapped_any f (p : Int) B (q : Int) a b c d W hf HLI.out HKB.out)
  have HSB := Lib.hid (show stabB (p : Int) B (q : Int) (a, b, c, d) = eqT (mapI (p : Int) B (q : Int) a b c d).1 (mapI (p : Int) B (q : Int) a b c d).2.1 (mapI (p : Int) B (q : Int) a b c d).2.2 (p : Int) B (q : Int) from rfl)
  have HSN := Lib.hid (stabK_snoc (p : Int) B (q : Int) pre ⟨(a, b, c, d), hkp⟩)
  have HLN := Lib.hid (show (stabK (p : Int) B (q : Int) pre).length ≤ 80 from by have := stabK_len (p : Int) B (q : Int) pre; omega)
  have HRL := Lib.hid hrl
  have HIN := Lib.hid (And.intro hys (And.intro hj (And.intro hy9 (And.intro hm9 (And.intro hl9 bX)))))
  generalize (mapI (p : Int) B (q : Int) a b c d).1 = t1 at HM HSB
  generalize (mapI (p : Int) B (q : Int) a b c d).2.1 = t2 at HM HSB
  generalize (mapI (p : Int) B (q : Int) a b c d).2.2 = t3 at HM HSB
  clear hrl hlt hlo hys hj hy9 hm9 hl9 bX
  rcases e1 : (t1 == (p : Int)) with _ | _
  ·have hst : stabB (p : Int) B (q : Int) (a, b, c, d) = false := by rw [HSB.out]; simp [eqT, *]
   have KA0 := KA.drew
   have KX0 := KX.drew
   have D0 : Below X.heap.size X X.drew := (Below.refl _ _).drew
   gi_wp2_with fail
   refine region_held_in (ro := some lo) (S := (fun W9 => (W9.cell? ⟨bl, 0, none⟩ = some (.int .i64 (p : Int)) ∧ W9.cell? ⟨bl, 1, none⟩ = some (.int .i64 B) ∧ W9.cell? ⟨bl, 2, none⟩ = some (.int .i64 (q : Int))) ∧ (W9.cell? ⟨Bx, 0, none⟩ = some (.int .i64 a) ∧ W9.cell? ⟨Bx, 1, none⟩ = some (.int .i64 b) ∧ W9.cell? ⟨Bx, 2, none⟩ = some (.int .i64 c) ∧ W9.cell? ⟨Bx, 3, none⟩ = some (.int .i64 d)))) (by kernel_rfl) (by kernel_rfl) (fun hL9 => by obtain ⟨_, _, hL9⟩ := hL9; exact hL9) ?_ (fun hHeld => ?_)
   ·exact ⟨Kt.cells KA0, Kq.cells KX0⟩
   refine tkSyM (i := 0) (v := ?_) (hy := Or.inl ⟨by rfl, ?_⟩) (h := ?_)
   rotate_left 1
   ·(intro w hSw; (try dsimp only at hSw); go_simp) <;> with_reducible rfl
   (try simp only [Act.put, List.setIfInBounds_toArray, List.set_cons_zero, List.set_cons_succ])
   refine tkSyM (i := 1) (v := ?_) (hy := Or.inl ⟨by rfl, ?_⟩) (h := ?_)
   rotate_left 1
   ·(intro w hSw; (try dsimp only at hSw); go_simp) <;> with_reducible rfl
   (try simp only [Act.put, List.setIfInBounds_toArray, List.set_cons_zero, List.set_cons_succ])
   refine tkSyM (i := 3) (v := ?_) (hy := Or.inl ⟨by rfl, ?_⟩) (h := ?_)
   rotate_left 1
   ·(intro w hSw; (try dsimp only at hSw); go_simp) <;> with_reducible rfl
   (try simp only [Act.put, List.setIfInBounds_toArray, List.set_cons_zero, List.set_cons_succ])
   refine wpAnyH_ready (rs := [2]) (by kernel_rfl) (by simp) ?_
   refine AllReadyH.cons (o := _) (by (simp only [List.getElem?_toArray, List.getElem?_cons_succ, List.getElem?_cons_zero]); rfl) (fun K hK => ?_) AllReadyH.nil
   go_simp
   go_at_call 208
   with_reducible refine (HM.out _).mono ?_
   rintro e u1 ⟨rfl, hb1⟩
   have KA1 := KA0.call hb1
   have KX1 := KX0.call hb1
   have D1 := bstep D0 hb1
   clear hb1
   (try go_wp2_with fail)
   refine hK.out _ _ ?_ (fun hHeld => ?_)
   ·(try dsimp only)
    exact ⟨Kt.cells KA1, Kq.cells KX1⟩
   clear hK K
   (try simp only [Act.put, List.setIfInBounds_toArray, List.set_cons_zero, List.set_cons_succ])
   refine tkSyM (i := 4) (v := ?_) (hy := Or.inl ⟨by rfl, ?_⟩) (h := ?_)
   rotate_left 1
   ·(intro w hSw; (try dsimp only at hSw); go_simp) <;> with_reducible rfl
   (try simp only [Act.put, List.setIfInBounds_toArray, List.set_cons_zero, List.set_cons_succ])
   refine wpAnyH_done (by kernel_rfl) ?_ _
   have HB5 := D1
   obtain ⟨w5, hw5⟩ : ∃ z, z = u1 := ⟨_, rfl⟩
   subst hw5
   clear KA0 KX0 D0 KA1 KX1 D1 x0 x1 x2 x3 x4 a0 a1 a2 a3
   gi_wp2
   obtain ⟨hys, hj, hy9, hm9, hl9, _⟩ := HIN.out
   refine ⟨keepsFrom_below _ HB5, ⟨HB5.block _ ltM, HB5.size⟩, ⟨⟨⟨⟨ys, ?_, ofBelow HJ.out hj HB5⟩, (HB5.block _ ltY).trans hy9⟩, (HB5.block _ ltM).trans hm9⟩, (HB5.block _ ltL).trans hl9⟩⟩
   rw [HSN.out, hst, hys]
   simp
  rcases e2 : (t2 == B) with _ | _
  ·have hst : stabB (p : Int) B (q : Int) (a, b, c, d) = false := by rw [HSB.out]; simp [eqT, *]
   have KA0 := KA.drew
   have KX0 := KX.drew
   have D0 : Below X.heap.size X X.drew := (Below.refl _ _).drew
   gi_wp2_with fail
   refine region_held_in (ro := some lo) (S := (fun W9 => (W9.cell? ⟨bl, 0, none⟩ = some (.int .i64 (p : Int)) ∧ W9.cell? ⟨bl, 1, none⟩ = some (.int .i64 B) ∧ W9.cell? ⟨bl, 2, none⟩ = some (.int .i64 (q : Int))) ∧ (W9.cell? ⟨Bx, 0, none⟩ = some (.int .i64 a) ∧ W9.cell? ⟨Bx, 1, none⟩ = some (.int .i64 b) ∧ W9.cell? ⟨Bx, 2, none⟩ = some (.int .i64 c) ∧ W9.cell? ⟨Bx, 3, none⟩ = some (.int .i64 d)))) (by kernel_rfl) (by kernel_rfl) (fun hL9 => by obtain ⟨_, _, hL9⟩ := hL9; exact hL9) ?_ (fun hHeld => ?_)
   ·exact ⟨Kt.cells KA0, Kq.cells KX0⟩
   refine tkSyM (i := 0) (v := ?_) (hy := Or.inl ⟨by rfl, ?_⟩) (h := ?_)
   rotate_left 1
   ·(intro w hSw; (try dsimp only at hSw); go_simp) <;> with_reducible rfl
   (try simp only [Act.put, List.setIfInBounds_toArray, List.set_cons_zero, List.set_cons_succ])
   refine tkSyM (i := 1) (v := ?_) (hy := Or.inl ⟨by rfl, ?_⟩) (h := ?_)
   rotate_left 1
   ·(intro w hSw; (try dsimp only at hSw); go_simp) <;> with_reducible rfl
   (try simp only [Act.put, List.setIfInBounds_toArray, List.set_cons_zero, List.set_cons_succ])
   refine tkSyM (i := 3) (v := ?_) (hy := Or.inl ⟨by rfl, ?_⟩) (h := ?_)
   rotate_left 1
   ·(intro w hSw; (try dsimp only at hSw); go_simp) <;> with_reducible rfl
   (try simp only [Act.put, List.setIfInBounds_toArray, List.set_cons_zero, List.set_cons_succ])
   refine wpAnyH_ready (rs := [2]) (by kernel_rfl) (by simp) ?_
   refine AllReadyH.cons (o := _) (by (simp only [List.getElem?_toArray, List.getElem?_cons_succ, List.getElem?_cons_zero]); rfl) (fun K hK => ?_) AllReadyH.nil
   go_simp
   go_at_call 208
   with_reducible refine (HM.out _).mono ?_
   rintro e u1 ⟨rfl, hb1⟩
   have KA1 := KA0.call hb1
   have KX1 := KX0.call hb1
   have D1 := bstep D0 hb1
   clear hb1
   (try go_wp2_with fail)
   refine hK.out _ _ ?_ (fun hHeld => ?_)
   ·(try dsimp only)
    exact ⟨Kt.cells KA1, Kq.cells KX1⟩
   clear hK K
   (try simp only [Act.put, List.setIfInBounds_toArray, List.set_cons_zero, List.set_cons_succ])
   refine tkSyM (i := 4) (v := ?_) (hy := Or.inl ⟨by rfl, ?_⟩) (h := ?_)
   rotate_left 1
   ·(intro w hSw; (try dsimp only at hSw); go_simp) <;> with_reducible rfl
   (try simp only [Act.put, List.setIfInBounds_toArray, List.set_cons_zero, List.set_cons_succ])
   refine wpAnyH_done (by kernel_rfl) ?_ _
   have HB5 := D1
   obtain ⟨w5, hw5⟩ : ∃ z, z = u1 := ⟨_, rfl⟩
   subst hw5
   clear KA0 KX0 D0 KA1 KX1 D1 x0 x1 x2 x3 x4 a0 a1 a2 a3
   gi_wp2
   obtain ⟨hys, hj, hy9, hm9, hl9, _⟩ := HIN.out
   refine ⟨keepsFrom_below _ HB5, ⟨HB5.block _ ltM, HB5.size⟩, ⟨⟨⟨⟨ys, ?_, ofBelow HJ.out hj HB5⟩, (HB5.block _ ltY).trans hy9⟩, (HB5.block _ ltM).trans hm9⟩, (HB5.block _ ltL).trans hl9⟩⟩
   rw [HSN.out, hst, hys]
   simp
  rcases e3 : (t3 == (q : Int)) with _ | _
  ·have hst : stabB (p : Int) B (q : Int) (a, b, c, d) = false := by rw [HSB.out]; simp [eqT, *]
   have KA0 := KA.drew
   have KX0 := KX.drew
   have D0 : Below X.heap.size X X.drew := (Below.refl _ _).drew
   gi_wp2_with fail
   refine region_held_in (ro := some lo) (S := (fun W9 => (W9.cell? ⟨bl, 0, none⟩ = some (.int .i64 (p : Int)) ∧ W9.cell? ⟨bl, 1, none⟩ = some (.int .i64 B) ∧ W9.cell? ⟨bl, 2, none⟩ = some (.int .i64 (q : Int))) ∧ (W9.cell? ⟨Bx, 0, none⟩ = some (.int .i64 a) ∧ W9.cell? ⟨Bx, 1, none⟩ = some (.int .i64 b) ∧ W9.cell? ⟨Bx, 2, none⟩ = some (.int .i64 c) ∧ W9.cell? ⟨Bx, 3, none⟩ = some (.int .i64 d)))) (by kernel_rfl) (by kernel_rfl) (fun hL9 => by obtain ⟨_, _, hL9⟩ := hL9; exact hL9) ?_ (fun hHeld => ?_)
   ·exact ⟨Kt.cells KA0, Kq.cells KX0⟩
   refine tkSyM (i := 0) (v := ?_) (hy := Or.inl ⟨by rfl, ?_⟩) (h := ?_)
   rotate_left 1
   ·(intro w hSw; (try dsimp only at hSw); go_simp) <;> with_reducible rfl
   (try simp only [Act.put, List.setIfInBounds_toArray, List.set_cons_zero, List.set_cons_succ])
   refine tkSyM (i := 1) (v := ?_) (hy := Or.inl ⟨by rfl, ?_⟩) (h := ?_)
   rotate_left 1
   ·(intro w hSw; (try dsimp only at hSw); go_simp) <;> with_reducible rfl
   (try simp only [Act.put, List.setIfInBounds_toArray, List.set_cons_zero, List.set_cons_succ])
   refine tkSyM (i := 3) (v := ?_) (hy := Or.inl ⟨by rfl, ?_⟩) (h := ?_)
   rotate_left 1
   ·(intro w hSw; (try dsimp only at hSw); go_simp) <;> with_reducible rfl
   (try simp only [Act.put, List.setIfInBounds_toArray, List.set_cons_zero, List.set_cons_succ])
   refine wpAnyH_ready (rs := [2]) (by kernel_rfl) (by simp) ?_
   refine AllReadyH.cons (o := _) (by (simp only [List.getElem?_toArray, List.getElem?_cons_succ, List.getElem?_cons_zero]); rfl) (fun K hK => ?_) AllReadyH.nil
   go_simp
   go_at_call 208
   with_reducible refine (HM.out _).mono ?_
   rintro e u1 ⟨rfl, hb1⟩
   have KA1 := KA0.call hb1
   have KX1 := KX0.call hb1
   have D1 := bstep D0 hb1
   clear hb1
   (try go_wp2_with fail)
   refine hK.out _ _ ?_ (fun hHeld => ?_)
   ·(try dsimp only)
    exact ⟨Kt.cells KA1, Kq.cells KX1⟩
   clear hK K
   (try simp only [Act.put, List.setIfInBounds_toArray, List.set_cons_zero, List.set_cons_succ])
   refine tkSyM (i := 4) (v := ?_) (hy := Or.inl ⟨by rfl, ?_⟩) (h := ?_)
   rotate_left 1
   ·(intro w hSw; (try dsimp only at hSw); go_simp) <;> with_reducible rfl
   (try simp only [Act.put, List.setIfInBounds_toArray, List.set_cons_zero, List.set_cons_succ])
   refine wpAnyH_done (by kernel_rfl) ?_ _
   have HB5 := D1
   obtain ⟨w5, hw5⟩ : ∃ z, z = u1 := ⟨_, rfl⟩
   subst hw5
   clear KA0 KX0 D0 KA1 KX1 D1 x0 x1 x2 x3 x4 a0 a1 a2 a3
   gi_wp2
   obtain ⟨hys, hj, hy9, hm9, hl9, _⟩ := HIN.out
   refine ⟨keepsFrom_below _ HB5, ⟨HB5.block _ ltM, HB5.size⟩, ⟨⟨⟨⟨ys, ?_, ofBelow HJ.out hj HB5⟩, (HB5.block _ ltY).trans hy9⟩, (HB5.block _ ltM).trans hm9⟩, (HB5.block _ ltL).trans hl9⟩⟩
   rw [HSN.out, hst, hys]
   simp
  obtain rfl : t1 = (p : Int) := by simpa using e1
  have e2' : t2 = B := by simpa using e2
  subst e2'
  obtain rfl : t3 = (q : Int) := by simpa using e3
  have HST := Lib.hid (show stabB (p : Int) t2 (q : Int) (a, b, c, d) = true from by rw [HSB.out]; simp [eqT])
  clear e1 e2 e3
  have KA0 := KA.drew
  have KX0 := KX.drew
  have D0 : Below X.heap.size X X.drew := (Below.refl _ _).drew
  gi_wp2_with fail
  refine region_held_in (ro := some lo) (S := (fun W9 => (W9.cell? ⟨bl, 0, none⟩ = some (.int .i64 (p : Int)) ∧ W9.cell? ⟨bl, 1, none⟩ = some (.int .i64 t2) ∧ W9.cell? ⟨bl, 2, none⟩ = some (.int .i64 (q : Int))) ∧ (W9.cell? ⟨Bx, 0, none⟩ = some (.int .i64 a) ∧ W9.cell? ⟨Bx, 1, none⟩ = some (.int .i64 b) ∧ W9.cell? ⟨Bx, 2, none⟩ = some (.int .i64 c) ∧ W9.cell? ⟨Bx, 3, none⟩ = some (.int .i64 d)))) (by kernel_rfl) (by kernel_rfl) (fun hL9 => by obtain ⟨_, _, hL9⟩ := hL9; exact hL9) ?_ (fun hHeld => ?_)
  ·exact ⟨Kt.cells KA0, Kq.cells KX0⟩
  refine tkSyM (i := 0) (v := ?_) (hy := Or.inl ⟨by rfl, ?_⟩) (h := ?_)
  rotate_left 1
  ·(intro w hSw; (try dsimp only at hSw); go_simp) <;> with_reducible rfl
  (try simp only [Act.put, List.setIfInBounds_toArray, List.set_cons_zero, List.set_cons_succ])
  refine tkSyM (i := 1) (v := ?_) (hy := Or.inl ⟨by rfl, ?_⟩) (h := ?_)
  rotate_left 1
  ·(intro w hSw; (try dsimp only at hSw); go_simp) <;> with_reducible rfl
  (try simp only [Act.put, List.setIfInBounds_toArray, List.set_cons_zero, List.set_cons_succ])
  refine tkSyM (i := 3) (v := ?_) (hy := Or.inl ⟨by rfl, ?_⟩) (h := ?_)
  rotate_left 1
  ·(intro w hSw; (try dsimp only at hSw); go_simp) <;> with_reducible rfl
  (try simp only [Act.put, List.setIfInBounds_toArray, List.set_cons_zero, List.set_cons_succ])
  refine wpAnyH_ready (rs := [2]) (by kernel_rfl) (by simp) ?_
  refine AllReadyH.cons (o := _) (by (simp only [List.getElem?_toArray, List.getElem?_cons_succ, List.getElem?_cons_zero]); rfl) (fun K hK => ?_) AllReadyH.nil
  go_simp
  go_at_call 208
  with_reducible refine (HM.out _).mono ?_
  rintro e u1 ⟨rfl, hb1⟩
  have KA1 := KA0.call hb1
  have KX1 := KX0.call hb1
  have D1 := bstep D0 hb1
  clear hb1
  (try go_wp2_with fail)
  refine hK.out _ _ ?_ (fun hHeld => ?_)
  ·(try dsimp only)
   exact ⟨Kt.cells KA1, Kq.cells KX1⟩
  clear hK K
  (try simp only [Act.put, List.setIfInBounds_toArray, List.set_cons_zero, List.set_cons_succ])
  refine tkSyM (i := 4) (v := ?_) (hy := Or.inl ⟨by rfl, ?_⟩) (h := ?_)
  rotate_left 1
  ·(intro w hSw; (try dsimp only at hSw); go_simp) <;> with_reducible rfl
  (try simp only [Act.put, List.setIfInBounds_toArray, List.set_cons_zero, List.set_cons_succ])
  refine wpAnyH_done (by kernel_rfl) ?_ _
  have HB5 := D1
  obtain ⟨w5, hw5⟩ : ∃ z, z = u1 := ⟨_, rfl⟩
  subst hw5
  clear KA0 KX0 D0 KA1 KX1 D1 x0 x1 x2 x3 x4 a0 a1 a2 a3
  obtain ⟨hys, hj, hy9, hm9, hl9, bX⟩ := HIN.out
  have y5 := (HB5.block _ ltY).trans hy9
  have m5 := (HB5.block _ ltM).trans hm9
  have l5 := (HB5.block _ ltL).trans hl9
  have x5 := (HB5.block _ ltX).trans bX
  have r5 := (HB5.block _ ltR).trans HRL.out
  have hj5 := ofBelow HJ.out hj HB5
  have c5 : w5.cell? ⟨bl, 0, none⟩ = some (.int .i64 (p : Int)) ∧ w5.cell? ⟨bl, 1, none⟩ = some (.int .i64 t2) ∧ w5.cell? ⟨bl, 2, none⟩ = some (.int .i64 (q : Int)) := by simp [World.cell?, l5]
  obtain ⟨c50, c51, c52⟩ := c5
  gi_wp2_with (refine ⟨trivial, ?_⟩; gi_at_call 199; refine (CallsIn.inRound lo (cellsS_in Fence.wide _ trivial rfl _ _ _ _)).mono ?_; rintro e w6 ⟨rfl, rfl⟩)
  have AL : Below w5.heap.size w5 (w5.alloc (.cells #[.int .i64 (p : Int), .int .i64 t2, .int .i64 (q : Int)] 28)) := (Below.refl _ _).alloc (Nat.le_refl _) _
  have bC : (w5.alloc (.cells #[.int .i64 (p : Int), .int .i64 t2, .int .i64 (q : Int)] 28)).heap[w5.heap.size]? = some (.cells #[.int .i64 (p : Int), .int .i64 t2, .int .i64 (q : Int)] 28 (0, 0)) := World.alloc_heap_new w5 _
  have hs6 : (w5.alloc (.cells #[.int .i64 (p : Int), .int .i64 t2, .int .i64 (q : Int)] 28)).heap.size = w5.heap.size + 1 := by simp
  have HB6 := bstep HB5 AL
  obtain ⟨w6, hw6⟩ : ∃ w6, w5.alloc (.cells #[.int .i64 (p : Int), .int .i64 t2, .int .i64 (q : Int)] 28) = w6 := ⟨_, rfl⟩
  rw [hw6] at AL bC hs6 HB6
  (try rw [hw6])
  clear hw6
  have y6 := (AL.block _ (Array.getElem?_eq_some_iff.1 y5).1).trans y5
  have m6 := (AL.block _ (Array.getElem?_eq_some_iff.1 m5).1).trans m5
  have l6 := (AL.block _ (Array.getElem?_eq_some_iff.1 l5).1).trans l5
  have x6 := (AL.block _ (Array.getElem?_eq_some_iff.1 x5).1).trans x5
  have r6 := (AL.block _ (Array.getElem?_eq_some_iff.1 r5).1).trans r5
  have hj6 := ofBelow HJ.out hj5 AL
  have cA : w6.cell? ⟨w5.heap.size, 0, none⟩ = some (.int .i64 (p : Int)) := by simp [World.cell?, bC]
  have cC : w6.cell? ⟨w5.heap.size, 2, none⟩ = some (.int .i64 (q : Int)) := by simp [World.cell?, bC]
  have hz6 := HB6.size
  have hzW : W.heap.size ≤ w6.heap.size := by omega
  clear y5 m5 l5 x5 r5 hj5 c50 c51 c52 hj hy9 hm9 hl9 bX AL
  refine wpIn_rangeFunc_ownN (l₀ := lo) (r₀ := rl) rfl r6 (by omega) (gf := 244) (lb := #[.pointer (some ⟨w5.heap.size, 0, none⟩)]) rfl trivial (enters_of Tryz.func244 (by kernel_rfl) rfl)
   ((cellsS_stops Fence.wide (8 - 1 - 1 - 1) trivial rfl (by omega) w5.heap.size p q hpp hqq w6 (by omega) cA cC).inRound lo) (fun h k => Eq.trans k h) (keepC_b (by omega)) (Below.refl _ _) (fun _ => rfl)
   (fun pre' Y => ((((((∃ zs : List (MS f p t2 q), zs.map Subtype.val = (stabK (p : Int) t2 (q : Int) pre).flatMap (fun m => rowM m (cellP q p)) ++ rowM (a, b, c, d) (pre'.map Subtype.val) ∧ J zs Y) ∧ Y.heap[W.heap.size]? = some (.cells #[.func (.yield l) #[] #[]] 143 (0, 0))) ∧ Y.heap[W.heap.size + 1]? = some (.cells #[.iface (planeT f) (.agg #[])] 106 (0, 0))) ∧ Y.heap[bl]? = some (.cells #[.int .i64 (p : Int), .int .i64 t2, .int .i64 (q : Int)] 28 (0, 0))) ∧ Y.heap[Bx]? = some (.cells #[.int .i64 a, .int .i64 b, .int .i64 c, .int .i64 d] 133 (0, 0))) ∧ Y.heap[w5.heap.size]? = some (.cells #[.int .i64 (p : Int), .int .i64 t2, .int .i64 (q : Int)] 28 (0, 0))) ∧ KeepsFrom W0.heap.size X Y)
   (fun _ _ _ => False)
   (OwnFrom.and (OwnFrom.and (OwnFrom.and (OwnFrom.and (OwnFrom.and (OwnFrom.and (ofEx (ofUp HJ.out hzW) _) (Own.from (at_own4 _ _ rfl) _)) (Own.from (at_own4 _ _ rfl) _)) (Own.from (at_own4 _ _ rfl) _)) (Own.from (at_own4 _ _ rfl) _)) (Own.from (at_own4 _ _ rfl) _)) (ownFrom_keepsFrom hz6))
   (fun _ _ _ _ _ hs _ _ => hs)
   ⟨⟨⟨⟨⟨⟨⟨ys, by rw [hys]; simp [rowM], hj6⟩, y6⟩, m6⟩, l6⟩, x6⟩, bC⟩, keepsFrom_below _ HB6⟩
   (fun y a'' Y => ∃ Cx : Nat, Y.heap[Cx]? = some (.cells #[.int .i64 y.1.1, .int .i64 y.1.2] 63 (0, 0)) ∧ a'' = { tmps := #[.func (.yield l) #[] #[], .pointer (some ⟨bp, 0, none⟩), .pointer (some ⟨bl, 0, none⟩), .pointer (some ⟨W.heap.size, 0, none⟩), .pointer (some ⟨Bx, 0, none⟩), .pointer (some ⟨Cx, 0, none⟩), .iface (planeT f) (.agg #[]), .func (.func 249) #[] #[.pointer (some ⟨W.heap.size + 1, 0, none⟩)], .agg #[.int .i64 a, .int .i64 b, .int .i64 c, .int .i64 d], .agg #[.int .i64 ((p : Int)), .int .i64 t2, .int .i64 ((q : Int))], .agg #[.int .i64 a, .int .i64 b, .int .i64 c, .int .i64 d], .agg #[.int .i64 ((p : Int)), .int .i64 t2, .int .i64 ((q : Int))], .agg #[.int .i64 ((p : Int)), .int .i64 t2, .int .i64 ((q : Int))], .bool false, .agg #[.int .i64 ((p : Int)), .int .i64 t2, .int .i64 ((q : Int))], .func (.func 244) #[] #[.pointer (some ⟨w5.heap.size, 0, none⟩)], .agg #[.int .i64 y.1.1, .int .i64 y.1.2], undef, undef, undef, undef, undef, undef], defers := [] })
   (fun y a'' _ U V row hs hg hr => by obtain ⟨Cx, h2, h3⟩ := hs; exact ⟨Cx, at_own4 Cx _ rfl () U V row h2 hg (fun r e => (hr r e).2), h3⟩)
   ?assign2 ?body2 ?done2 ?stop2
  case assign2 =>
   rintro l2 pre' y Y K ⟨⟨⟨⟨⟨⟨⟨zs, hzs, hjz⟩, y9⟩, m9⟩, l9⟩, x9⟩, c9⟩, kf⟩ hK
   gi_wp2
   have AL : Below Y.heap.size Y (Y.alloc (.cells #[.int .i64 y.1.1, .int .i64 y.1.2] 63)) := (Below.refl _ _).alloc (Nat.le_refl _) _
   have at9 : ∀ (bb : Nat) (oo : Obj), Y.heap[bb]? = some oo → (Y.alloc (.cells #[.int .i64 y.1.1, .int .i64 y.1.2] 63)).heap[bb]? = some oo := fun bb oo h => (AL.block bb (Array.getElem?_eq_some_iff.1 h).1).trans h
   refine hK _ _ ((KeepsOthers.alloc _ _).from _) (Below.heap_alloc Y _ _ (Array.getElem?_eq_some_iff.1 c9).1) ⟨⟨⟨⟨⟨⟨⟨zs, hzs, ofBelow HJ.out hjz AL⟩, at9 _ _ y9⟩, at9 _ _ m9⟩, at9 _ _ l9⟩, at9 _ _ x9⟩, at9 _ _ c9⟩, kf.trans ((KeepsOthers.alloc _ _).from _)⟩ ⟨Y.heap.size, World.alloc_heap_new Y _, rfl⟩
  case body2 =>
   rintro l2 pre' y a'' Y hl2 _ ⟨⟨⟨⟨⟨⟨⟨zs, hzs, hjz⟩, y9⟩, m9⟩, l9⟩, x9⟩, c9⟩, kf⟩ ⟨Cx, bV, rfl⟩ hlt2
   obtain ⟨⟨v0, v1⟩, hv⟩ := y
   dsimp only at bV
   have cY : Y.cell? ⟨W.heap.size, 0, none⟩ = some (.func (.yield l) #[] #[]) := by simp [World.cell?, y9]
   have cX : Y.cell? ⟨Bx, 0, none⟩ = some (.int .i64 a) ∧ Y.cell? ⟨Bx, 1, none⟩ = some (.int .i64 b) ∧ Y.cell? ⟨Bx, 2, none⟩ = some (.int .i64 c) ∧ Y.cell? ⟨Bx, 3, none⟩ = some (.int .i64 d) := by simp [World.cell?, x9]
   obtain ⟨cX0, cX1, cX2, cX3⟩ := cX
   have cV : Y.cell? ⟨Cx, 0, none⟩ = some (.int .i64 v0) ∧ Y.cell? ⟨Cx, 1, none⟩ = some (.int .i64 v1) := by simp [World.cell?, bV]
   obtain ⟨cV0, cV1⟩ := cV
   have hq : MotQ f p t2 q (a, b, c, d, v0, v1) := ⟨⟨HKB.out, HST.out⟩, hv.1, hv.2⟩
   have hlen : zs.length < 5184 := by
    have h1 := congrArg List.length hzs
    rw [List.length_map, List.length_append, len_flat, cellP_len] at h1
    have h2 := mot_len HLN.out hpq hlt2
    simp [rowM] at h1
    omega
   obtain ⟨fn, tmps, assign, body, hyd, hR⟩ := yieldAt_any rfl 3 (HY.out zs ⟨(a, b, c, d, v0, v1), hq⟩ Y hjz hlen)
   dsimp only at hyd
   gi_wp2
   refine RoundIn.mono (F := (Fence.wide.inRound lo).inRound l2) hR ?_
   rintro e Z ⟨rfl, hj2, hkt, hkf⟩
   have yZ := (hkt.2 _ _ _ y9 (by decide) (by decide)).trans y9
   have mZ := (hkt.2 _ _ _ m9 (by decide) (by decide)).trans m9
   have lZ := (hkt.2 _ _ _ l9 (by decide) (by decide)).trans l9
   have xZ := (hkt.2 _ _ _ x9 (by decide) (by decide)).trans x9
   have cZ := (hkt.2 _ _ _ c9 (by decide) (by decide)).trans c9
   have cK : KeepC w5.heap.size Y Z := cZ.trans c9.symm
   gi_wp2
   refine ⟨kfUp hkf hzW, cK, ⟨⟨⟨⟨⟨⟨⟨_, ?_, hj2⟩, yZ⟩, mZ⟩, lZ⟩, xZ⟩, cZ⟩, kf.trans (kfUp hkf (by omega))⟩⟩
   rw [List.map_append, hzs]
   simp [rowM]
  case done2 =>
   rintro vs Y hvs ⟨⟨⟨⟨⟨⟨⟨zs, hzs, hjz⟩, y9⟩, m9⟩, l9⟩, x9⟩, c9⟩, kf⟩
   gi_wp2
   refine ⟨kf, ⟨m9.trans (HIN.out.2.2.2.1).symm, kf.size⟩, ⟨⟨⟨⟨zs, ?_, hjz⟩, y9⟩, m9⟩, l9⟩⟩
   rw [hzs, hvs, HSN.out, if_pos HST.out, List.flatMap_append]
   simp
  case stop2 =>
   rintro c9 pre' Y _ h
   exact h.elim
 case done =>
  rintro D zs X hD hzs ⟨⟨⟨⟨ys, hys, hj⟩, _⟩, _⟩, _⟩ hK
  gi_wp2
  refine ⟨by simp, .inl ⟨_, _, rfl, run_takeDeferred hK, ?_⟩⟩
  refine ⟨_, results_none rfl _ _ _, ⟨_, rfl⟩, ys, ?_, OwnFrom.putObj HJ.out _ hj (by omega) hK rfl⟩
  rw [hys]
  unfold stabK motL stabL
  rw [hzs]
 case stop =>
  rintro D c pre X _ _ h _
  exact h.elim
end Go.Proofs.YtjjfomokecngoaaGreatDoor
