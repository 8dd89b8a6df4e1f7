/-
  Shortened friezes in the program and in the model. Condition: the slice lies in a block of its own.
-/
import Derived.Test.YtajmfeppnhkcdaaFzN
import Derived.Test.YtajmfeppnhkcdaaFzS
import Derived.Test.YtajmfeppnhkcdaaFzX
import Derived.Test.YtajmfeppnhkcdaaTail
import Derived.Laws.OwnMore
import Derived.Laws.AppendOwn
import Derived.Maps.AppendAt
namespace Go.Proofs.Ytajmfeppnhkcdaa
open Go.RowKit
set_option linter.unusedSimpArgs false
set_option linter.unusedVariables false

def cellsI (G : Nat → Int) (n : Nat) : List Value := (List.range n).map fun t => .int .i64 (G t)
theorem cellsI_len (G : Nat → Int) (n : Nat) : (cellsI G n).length = n := by simp [cellsI]
theorem cellsI_at {G : Nat → Int} {n t : Nat} (ht : t < n) : (cellsI G n)[t]? = some (.int .i64 (G t)) := by
  unfold cellsI
  rw [List.getElem?_map, List.getElem?_range ht]; rfl
theorem cellsI_succ (G : Nat → Int) (n : Nat) : cellsI G (n + 1) = cellsI G n ++ [.int .i64 (G n)] := by
  unfold cellsI; rw [List.range_succ, List.map_append]; rfl
theorem cellsI_add (G : Nat → Int) (n m : Nat) : cellsI G (n + m) = cellsI G n ++ cellsI (fun j => G (n + j)) m := by
  induction m with
  | zero => simp [cellsI]
  | succ m ih => rw [← Nat.add_assoc, cellsI_succ, ih, cellsI_succ, List.append_assoc]
theorem cellsI_ext {G G' : Nat → Int} {n : Nat} (h : ∀ t, t < n → G t = G' t) : cellsI G n = cellsI G' n := by
  unfold cellsI
  exact List.map_congr_left fun t ht => by rw [h t (List.mem_range.1 ht)]
theorem cellsI_int (G : Nat → Int) (n : Nat) : ∀ u ∈ cellsI G n, ∃ z, u = .int .i64 z := by
  intro u hu
  simp only [cellsI, List.mem_map] at hu
  obtain ⟨t, _, rfl⟩ := hu
  exact ⟨_, rfl⟩
theorem cellsI_one (G : Nat → Int) (n : Nat) : ∀ u ∈ cellsI G n, u.oneCell' = true := by
  intro u hu
  obtain ⟨z, rfl⟩ := cellsI_int G n u hu
  rfl
theorem SRow.ext {lo hi K n : Nat} {v : Value} {F F' : Nat → Int} {W : World} (h : SRow lo hi K v n F W) (he : ∀ t, t < n * K → F t = F' t) : SRow lo hi K v n F' W := by
  obtain ⟨h1, h2, h3⟩ := h
  refine ⟨h1, h2, h3.imp id ?_⟩
  rintro ⟨g, cap, e, a, b, r⟩
  exact ⟨g, cap, e, a, b, r.ext he⟩
theorem SRow.own {lo n : Nat} {G : Nat → Int} {v : Value} {W : World} (h : W.ownsRow lo 2 1 v n (cellsI G n)) (hn : n ≤ 1000000) : SRow lo W.heap.size 1 v n G W := by
  refine SRow.ext (SRow.of h (cellsI_int G n) hn) fun t ht => ?_
  unfold intAt
  rw [cellsI_at (by omega)]
theorem at_add (g t : Nat) : (⟨g, 0, none⟩ : Addr).add t = ⟨g, t, none⟩ := by
  unfold Addr.add
  split
  · subst_vars; rfl
  · simp
theorem own_sh {W : World} {base n : Nat} {e : TypeId} {size : Nat} {v : Value} {xs : List Value} (h : W.ownsRow base e size v n xs) : ∃ ao cap, v = .slice ao n cap := by
  rcases h.2 with ⟨rfl, h2⟩ | ⟨g, cap, cur, rfl, _⟩
  · exact ⟨none, 0, by rw [h2]⟩
  · exact ⟨_, cap, rfl⟩
theorem ownsRow_set {W : World} {base n : Nat} {e : TypeId} {size : Nat} {v : Value} {xs : List Value} {bx o : Nat} (h : W.ownsRow base e size v n xs) (hb : v.ownBlock ≠ some bx) (u : Value) : (W.setCell ⟨bx, o, none⟩ u).ownsRow base e size v n xs := by
  obtain ⟨h1, h2⟩ := h
  refine ⟨h1, ?_⟩
  rcases h2 with h2 | ⟨g, cap, cur, rfl, hg, hgg, rest⟩
  · exact .inl h2
  · have hne : g ≠ bx := fun e9 => hb (by rw [e9]; rfl)
    exact .inr ⟨g, cap, cur, rfl, hg, (Below.heap_setCell _ _ _ _ (by dsimp only; omega)).trans hgg, rest⟩
def shG (w d : Nat) (F : Nat → Int) (t : Nat) : Int := F (t / d * w + t % d)
theorem shG_at {w d y x : Nat} (F : Nat → Int) (hx : x < d) : shG w d F (y * d + x) = F (y * w + x) := by
  unfold shG; rw [div_row hx, mod_row hx]
def shA (a b : Int) (n : Nat) (F : Nat → Int) : FR :=
  if friB a b n F = true then (a, ((perN a.toNat b.toNat F : Nat) : Int), a.toNat * perN a.toNat b.toNat F, shG b.toNat (perN a.toNat b.toNat F) F, 0) else (0, 0, 0, fun _ => 0, 1)
theorem shA_no {a b : Int} {n : Nat} {F : Nat → Int} (h : friB a b n F = false) : shA a b n F = (0, 0, 0, fun _ => 0, 1) := by simp [shA, h]
theorem shA_yes {h w n : Nat} {F : Nat → Int} (p : FriI h w n F) : shA h w n F = ((h : Int), ((perN h w F : Nat) : Int), h * perN h w F, shG w (perN h w F) F, 0) := by unfold shA; rw [if_pos p.b]; rfl
/- what the region leaves that makes the new frieze -/
def ShCut (W : World) (h w n d g cap : Nat) (s4 : Value) (wx : World) : Prop :=
  ∃ bx v9, s4 = .pointer (some ⟨bx, 0, none⟩) ∧ KF bx (h : Int) (d : Int) v9 wx ∧ wx.ownsRow (W.heap.size + 2) 2 1 v9 0 (cellsI (fun _ => 0) 0) ∧ v9.ownBlock ≠ some bx ∧ W.heap.size + 2 ≤ bx ∧ K3 W.heap.size (.int .i64 (h : Int)) (.int .i64 (w : Int)) (.slice (some ⟨g, 0, none⟩) n cap) wx ∧ KF (W.heap.size + 1) 0 0 (.slice none 0 0) wx ∧ Below W.heap.size W wx
set_option maxHeartbeats 4000000 in
theorem specSh_no {lo hi n : Nat} {v : Value} {F : Nat → Int} {W : World} (a b : Int) (hv : SRow lo hi 1 v n F W) (hf : friB a b n F = false) :
    Calls Try.prog 20 #[.agg #[.int .i64 a, .int .i64 b, v]] W (FAns (shA a b n F) W) := by
  have R := Lib.hid hv
  obtain ⟨ao, cap, rfl⟩ := hv.slice
  clear hv
  go_enter Try.func20, Try.ntmps20
  go_wp2_with fail
  with_reducible refine (specIsFri_any a b (R.out.call (by repeat (first | with_reducible exact Below.refl _ _ | with_reducible assumption | with_reducible refine Below.setCell ?_ (by first | omega | (dsimp only; omega) | (simp <;> omega)) _ | with_reducible refine Below.alloc ?_ (by first | omega | (simp <;> omega)) _ | with_reducible refine bstep ?_ (by with_reducible assumption) | with_reducible refine Below.drew ?_)))).mono ?_
  rintro e w1 ⟨rfl, hb1⟩
  rw [hf]
  have HB := Lib.hid (show Below W.heap.size W w1 from bstep (by repeat (first | with_reducible exact Below.refl _ _ | with_reducible assumption | with_reducible refine Below.setCell ?_ (by first | omega | (dsimp only; omega) | (simp <;> omega)) _ | with_reducible refine Below.alloc ?_ (by first | omega | (simp <;> omega)) _ | with_reducible refine bstep ?_ (by with_reducible assumption) | with_reducible refine Below.drew ?_)) hb1)
  have KC1 : KF (W.heap.size + 1) 0 0 (.slice none 0 0) w1 := (KF.at (w := (W.alloc (.cells #[.int .i64 a, .int .i64 b, .slice ao n cap] 26))) _ (by simp)).call hb1
  have kc0 := KC1.c0
  have kc1 := KC1.c1
  have kc2 := KC1.c2
  have kcf0 := KC1.f0
  have kcf1 := KC1.f1
  have kcf2 := KC1.f2
  have kcl := KC1.lt
  clear hb1 KC1
  go_wp2
  refine bodyPost_ret (v := .tuple #[.agg #[.int .i64 0, .int .i64 0, .slice none 0 0], .int .i64 1]) (by simp [results, Try.results20, go_sem, *]) rfl ⟨0, 0, 0, fun _ => 0, 1, _, shA_no hf, rfl, ?_, ?_⟩
  · exact SRow.zero _ _ _
  · have hB := HB.out
    repeat (first | with_reducible exact Below.refl _ _ | with_reducible assumption | with_reducible refine Below.setCell ?_ (by first | omega | (dsimp only; omega) | (simp <;> omega)) _ | with_reducible refine Below.alloc ?_ (by first | omega | (simp <;> omega)) _ | with_reducible refine bstep ?_ (by with_reducible assumption) | with_reducible refine Below.drew ?_)
set_option maxHeartbeats 4000000 in
theorem implSh_no {lo hi n : Nat} {v : Value} {F : Nat → Int} {W : World} (a b : Int) (hv : SRow lo hi 1 v n F W) (hf : friB a b n F = false) :
    Calls Try.prog 19 #[.agg #[.int .i64 a, .int .i64 b, v]] W (FAns (shA a b n F) W) := by
  have R := Lib.hid hv
  obtain ⟨ao, cap, rfl⟩ := hv.slice
  clear hv
  go_enter Try.func19, Try.ntmps19
  go_wp2_with fail
  with_reducible refine (friValid_any a b (R.out.call (by repeat (first | with_reducible exact Below.refl _ _ | with_reducible assumption | with_reducible refine Below.setCell ?_ (by first | omega | (dsimp only; omega) | (simp <;> omega)) _ | with_reducible refine Below.alloc ?_ (by first | omega | (simp <;> omega)) _ | with_reducible refine bstep ?_ (by with_reducible assumption) | with_reducible refine Below.drew ?_)))).mono ?_
  rintro e w1 ⟨rfl, hb1⟩
  rw [hf]
  have HB := Lib.hid (show Below W.heap.size W w1 from bstep (by repeat (first | with_reducible exact Below.refl _ _ | with_reducible assumption | with_reducible refine Below.setCell ?_ (by first | omega | (dsimp only; omega) | (simp <;> omega)) _ | with_reducible refine Below.alloc ?_ (by first | omega | (simp <;> omega)) _ | with_reducible refine bstep ?_ (by with_reducible assumption) | with_reducible refine Below.drew ?_)) hb1)
  have KC1 : KF (W.heap.size + 1) 0 0 (.slice none 0 0) w1 := (KF.at (w := (W.alloc (.cells #[.int .i64 a, .int .i64 b, .slice ao n cap] 26))) _ (by simp)).call hb1
  have kc0 := KC1.c0
  have kc1 := KC1.c1
  have kc2 := KC1.c2
  have kcf0 := KC1.f0
  have kcf1 := KC1.f1
  have kcf2 := KC1.f2
  have kcl := KC1.lt
  clear hb1 KC1
  go_wp2
  refine bodyPost_ret (v := .tuple #[.agg #[.int .i64 0, .int .i64 0, .slice none 0 0], .int .i64 1]) (by simp [results, Try.results19, go_sem, *]) rfl ⟨0, 0, 0, fun _ => 0, 1, _, shA_no hf, rfl, ?_, ?_⟩
  · exact SRow.zero _ _ _
  · have hB := HB.out
    repeat (first | with_reducible exact Below.refl _ _ | with_reducible assumption | with_reducible refine Below.setCell ?_ (by first | omega | (dsimp only; omega) | (simp <;> omega)) _ | with_reducible refine Below.alloc ?_ (by first | omega | (simp <;> omega)) _ | with_reducible refine bstep ?_ (by with_reducible assumption) | with_reducible refine Below.drew ?_)
set_option maxRecDepth 100000 in
set_option maxHeartbeats 16000000 in
theorem implSh_yes {lo hi h w n : Nat} {v : Value} {F : Nat → Int} {W : World} (p : FriI h w n F) (hv : SRow lo hi 1 v n F W) (hcap : CapOK v) :
    Calls Try.prog 19 #[.agg #[.int .i64 (h : Int), .int .i64 (w : Int), v]] W (FAns (shA h w n F) W) := by
  obtain ⟨i0, hinf, hz0, hz1, hz2⟩ := info_parts infoI64
  have R := Lib.hid hv
  have P := Lib.hid p
  have hf := p.b
  have h6 := p.h6
  have h1' := p.h1
  have w1' := p.w1
  have w24 := p.w24
  have n144 := p.n144
  have HNN := Lib.hid p.nn
  obtain ⟨g, cap, rfl, hg, _, r⟩ := hv.irow p.n1
  have hgs := hv.1
  have hgw : g < W.heap.size := by omega
  have HA := Lib.hid (shA_yes p)
  have pb := perN_bd F p.w1 (h := h)
  obtain ⟨d, hd⟩ : ∃ d, d = perN h w F := ⟨_, rfl⟩
  rw [← hd] at HA pb
  have HD := Lib.hid (show ((perN h w F : Nat) : Int) = (d : Int) by rw [hd])
  have hd1 : 1 ≤ d ∧ d ≤ w := ⟨pb.1, pb.2.1⟩
  have HPER := Lib.hid (fun X (hb : Below W.heap.size W X) => (show Calls Try.prog 54 #[.agg #[.int .i64 (h : Int), .int .i64 (w : Int), .slice (some ⟨g, 0, none⟩) n cap]] X (fun e w' => e = .returned (.int .i64 (d : Int)) ∧ Below X.heap.size X w') by rw [← HD.out]; exact period_any P.out (R.out.call hb)))
  have HCAP : Hid (n ≤ cap) := Lib.hid (hcap _ _ _ rfl)
  clear hv p pb hd
  go_enter Try.func19, Try.ntmps19
  go_wp2_with fail
  with_reducible refine (friValid_any _ _ (R.out.call (by repeat (first | with_reducible exact Below.refl _ _ | with_reducible assumption | with_reducible refine Below.setCell ?_ (by first | omega | (dsimp only; omega) | (simp <;> omega)) _ | with_reducible refine Below.alloc ?_ (by first | omega | (simp <;> omega)) _ | with_reducible refine bstep ?_ (by with_reducible assumption) | with_reducible refine Below.drew ?_)))).mono ?_
  rintro e w1 ⟨rfl, hb1⟩
  rw [hf]
  have B1 : Below W.heap.size W w1 := bstep (by repeat (first | with_reducible exact Below.refl _ _ | with_reducible assumption | with_reducible refine Below.setCell ?_ (by first | omega | (dsimp only; omega) | (simp <;> omega)) _ | with_reducible refine Below.alloc ?_ (by first | omega | (simp <;> omega)) _ | with_reducible refine bstep ?_ (by with_reducible assumption) | with_reducible refine Below.drew ?_)) hb1
  have KA1 : K3 W.heap.size (.int .i64 (h : Int)) (.int .i64 (w : Int)) (.slice (some ⟨g, 0, none⟩) n cap) w1 := ((K3.at _ rfl).alloc _ : K3 _ _ _ _ ((W.alloc (.cells #[.int .i64 (h : Int), .int .i64 (w : Int), .slice (some ⟨g, 0, none⟩) n cap] 26)).alloc (.cells #[.int .i64 0, .int .i64 0, .slice none 0 0] 26))).call hb1
  have KC1 : KF (W.heap.size + 1) 0 0 (.slice none 0 0) w1 := (KF.at (w := (W.alloc (.cells #[.int .i64 (h : Int), .int .i64 (w : Int), .slice (some ⟨g, 0, none⟩) n cap] 26))) _ (by simp)).call hb1
  have ka0 := KA1.c0
  have ka1 := KA1.c1
  have ka2 := KA1.c2
  have kal := KA1.lt
  have kcl := KC1.lt
  clear hb1
  go_upto_region 1 with fail
  go_cut [4] (fun s4 wx => ShCut W h w n d g cap s4 wx)
  case first =>
    go_region_held3 (fun W9 => (W9.cell? ⟨W.heap.size, 0, none⟩ = some (.int .i64 (h : Int)) ∧ W9.cell? ⟨W.heap.size, 1, none⟩ = some (.int .i64 (w : Int)) ∧ W9.cell? ⟨W.heap.size, 2, none⟩ = some (.slice (some ⟨g, 0, none⟩) n cap))) ((refine K3.cells ?_) <;> (repeat (first | with_reducible assumption | with_reducible refine K3.drew ?_ | with_reducible refine IRow.drew ?_ | with_reducible refine K3.alloc ?_ _ | with_reducible refine K3.call ?_ (by with_reducible assumption) | with_reducible refine IRow.call ?_ (by with_reducible assumption) | ((with_reducible refine K3.far ?_ ?_); (first | omega | (dsimp only; omega))) | ((with_reducible refine IRow.far ?_ ?_); (first | omega | (dsimp only; omega))) | with_reducible refine KF.drew ?_ | with_reducible refine KF.call ?_ (by with_reducible assumption) | ((with_reducible refine KF.far ?_ ?_); (first | omega | (dsimp only; omega))))))
      ((go_at_call 54; with_reducible refine (HPER.out _ (by repeat (first | with_reducible assumption | with_reducible exact Below.refl _ _ | with_reducible refine Below.drew ?_ | with_reducible refine below_drewN ?_ _ | with_reducible refine Below.alloc ?_ (by first | omega | (simp <;> omega)) _ | with_reducible refine bstep ?_ (by with_reducible assumption)))).mono ?_; rintro e w2 ⟨rfl, hb2⟩; (try ((refine useIt (P := KF w1.heap.size 0 0 (.slice none 0 0) w2) ?_ ?_); (repeat (first | with_reducible assumption | with_reducible refine KF.drew ?_ | with_reducible refine KF.call ?_ (by with_reducible assumption) | (with_reducible exact KF.at _ (by first | with_reducible rfl | (simp; done))))); intro D; have dc0 := D.c0; have dc1 := D.c1; have dc2 := D.c2; have df0 := D.f0; have df1 := D.f1; have df2 := D.f2; have dl := D.lt)); have c2 : Below w1.heap.size w1 w2 := (by repeat (first | with_reducible assumption | with_reducible exact Below.refl _ _ | with_reducible refine Below.drew ?_ | with_reducible refine below_drewN ?_ _ | with_reducible refine Below.alloc ?_ (by first | omega | (simp <;> omega)) _ | with_reducible refine bstep ?_ (by with_reducible assumption))); have y2 := c2.size))
    all_goals
      go_wp2_with fail
      go_meet
      (first
        | exact ⟨w2.heap.size, .slice none 0 0, rfl, KF.at _ rfl, ⟨rfl, .inl ⟨rfl, rfl⟩⟩, (fun e9 => by cases e9), by omega, (KA1.call c2).alloc _, (KC1.call c2).alloc _, (B1.trans (c2.mono B1.size)).alloc (by have := B1.size; omega) _⟩
        | exact ⟨w1.heap.size, .slice none 0 0, rfl, KF.store D _ _ _, ⟨rfl, .inl ⟨rfl, rfl⟩⟩, (fun e9 => by cases e9), by omega, K3.far (by dsimp only; omega) (K3.far (by dsimp only; omega) (K3.far (by dsimp only; omega) (KA1.call c2))), KF.far (by dsimp only; omega) (KF.far (by dsimp only; omega) (KF.far (by dsimp only; omega) (KC1.call c2))), (((B1.trans (c2.mono B1.size)).setCell (by have := B1.size; dsimp only; omega) _).setCell (by have := B1.size; dsimp only; omega) _).setCell (by have := B1.size; dsimp only; omega) _⟩)
  case rest =>
    clear KA1 KC1 ka0 ka1 ka2 kal kcl B1
    obtain ⟨bx, v0, rfl, KD, O1, hnb, hbx, KA, KC, hB⟩ := hcut
    have ka0 := KA.c0
    have kal := KA.lt
    go_wp2_with fail
    go_loopw [18] (fun s18 X => ∃ (y : Nat) (v9 : Value), s18 = .int .i64 (y : Int) ∧ y ≤ h ∧ KF bx (h : Int) (d : Int) v9 X ∧ X.ownsRow (W.heap.size + 2) 2 1 v9 (y * d) (cellsI (shG w d F) (y * d)) ∧ v9.ownBlock ≠ some bx ∧ K3 W.heap.size (.int .i64 (h : Int)) (.int .i64 (w : Int)) (.slice (some ⟨g, 0, none⟩) n cap) X ∧ KF (W.heap.size + 1) 0 0 (.slice none 0 0) X ∧ Below W.heap.size W X) (fun s18 _ => h - (intOf s18).toNat)
    case atStart => exact ⟨0, v0, rfl, by omega, KD, by simpa [cellsI] using O1, hnb, KA, KC, hB⟩
    case round =>
      clear KD O1 KA KC hB hnb ka0 kal
      obtain ⟨y, v9, rfl, hy, KD, O1, hnb, KA, KC, hB⟩ := hrel
      by_cases hy1 : y < h
      · have hy2 : (y : Int) < (h : Int) := by omega
        have ka0 := KA.c0
        have ka1 := KA.c1
        have ka2 := KA.c2
        have kal := KA.lt
        go_wp2_with fail
        with_reducible refine (indexAt_any _ _ _ _ _ _ (by omega) (by omega) (by omega)).mono ?_
        rintro e w2 ⟨rfl, hb2⟩
        have KA2 := KA.call hb2
        have KC2 := KC.call hb2
        have KD2 := KD.call hb2
        have O2 := ownsRow_call O1 hb2
        have B2 := bstep hB hb2
        have I2 := r.call B2
        clear hb2 KA KC KD O1 hB ka0 ka1 ka2 kal
        have e0 : (y : Int) * (w : Int) + 0 % (w : Int) = ((y * w : Nat) : Int) := by simp
        have ha0 : (0 : Int) ≤ ((y * w : Nat) : Int) := by omega
        have hyw : y * w + d ≤ n := by
          have h9 : (y + 1) * w ≤ h * w := Nat.mul_le_mul_right w hy1
          have h8 : (y + 1) * w = y * w + w := Nat.succ_mul y w
          have := HNN.out
          omega
        rw [e0]
        obtain ⟨a, ha⟩ : ∃ a, a = y * w := ⟨_, rfl⟩
        have HAY := Lib.hid ha
        rw [← ha] at ha0 hyw ⊢
        clear ha e0
        have HYD : Hid (y * d ≤ 144) := Lib.hid (Nat.le_trans (Nat.mul_le_mul (show y ≤ 6 by omega) (show d ≤ 24 by omega)) (by omega))
        have ha1 : (a : Int) ≤ (a : Int) + (d : Int) := by omega
        have ha2 : (a : Int) + (d : Int) ≤ (cap : Int) := by have := HCAP.out; omega
        have hwr : IntKind.i64.wrap ((a : Int) + (d : Int)) = (a : Int) + (d : Int) := IntWalk.i64_in _ (by omega)
        have ka0 := KA2.c0
        have ka1 := KA2.c1
        have ka2 := KA2.c2
        have kal := KA2.lt
        have kd1 := KD2.c1
        have kd2 := KD2.c2
        have kdl := KD2.lt
        have hc9 : ∀ (j : Nat) (u : Value), (cellsI (fun j => F (a + j)) (((a : Int) + (d : Int)).toNat - a))[j]? = some u → w2.drew.cell? ((⟨g, a, none⟩ : Addr).add j) = some u := fun j u hu => by
          have hj : j < ((a : Int) + (d : Int)).toNat - a := by have := (List.getElem?_eq_some_iff.1 hu).1; rwa [cellsI_len] at this
          rw [cellsI_at hj] at hu
          have e9 : (⟨g, a, none⟩ : Addr).add j = ⟨g, a + j, none⟩ := by
            unfold Addr.add
            split
            · subst_vars; rfl
            · rfl
          rw [e9, ← hu]
          exact (IRow.drew I2).at (a + j) (by omega)
        have hbase : W.heap.size + 2 ≤ w2.drew.heap.size := by have := KC2.lt; simp; omega
        have O2d := ownsRow_call O2 (Below.refl _ _).drew
        have e8 : y * d + (((a : Int) + (d : Int)).toNat - a) = (y + 1) * d := by rw [Nat.succ_mul]; omega
        have HE8 := Lib.hid (show ∀ (v' : Value) (X : World), X.ownsRow (W.heap.size + 2) 2 1 v' (y * d + (((a : Int) + (d : Int)).toNat - a)) (cellsI (shG w d F) (y * d) ++ cellsI (fun j => F (a + j)) (((a : Int) + (d : Int)).toNat - a)) → X.ownsRow (W.heap.size + 2) 2 1 v' ((y + 1) * d) (cellsI (shG w d F) ((y + 1) * d)) from fun v' X hX => by
          rw [← e8, cellsI_add]
          rw [cellsI_ext (G := fun j => shG w d F (y * d + j)) (G' := fun j => F (a + j)) (fun t ht => by rw [shG_at F (by omega), HAY.out])]
          exact hX)
        have hca : ¬ cap = a := by omega
        have KDd := KD2.drew
        have KAd := KA2.drew
        have KCd := KC2.drew
        have Bd := B2.drew
        have hkd : w2.drew.cell? ⟨bx, 2, none⟩ = some v9 := KDd.c2
        clear e8 I2 ka0 ka1 ka2 kal kd1 kd2 kdl
        go_wp2_with fail
        refine wp_region_T 10 (fun W9 => (W9.cell? ⟨W.heap.size, 0, none⟩ = some (.int .i64 (h : Int)) ∧ W9.cell? ⟨W.heap.size, 1, none⟩ = some (.int .i64 (w : Int)) ∧ W9.cell? ⟨W.heap.size, 2, none⟩ = some (.slice (some ⟨g, 0, none⟩) n cap)) ∧ W9.cell? ⟨bx, 1, none⟩ = some (.int .i64 (d : Int)) ∧ W9.cell? ⟨bx, 2, none⟩ = some v9) (by kernel_rfl) ⟨KAd.cells, KDd.c1, KDd.c2⟩ (fun hHeld inv => ?_)
        refine wpAnyT_take (i := 0) (v := ?_) (by kernel_rfl) (by kernel_rfl) (by decide) (by kernel_rfl) inv rfl (by decide) (by kernel_rfl) (by kernel_rfl) (fun _ _ _ h => h) (Or.inl ⟨by rfl, ?_⟩) (by assumption) (fun inv => ?_)
        rotate_left
        · (intro w hSw; (try dsimp only at hSw); go_simp; try with_reducible rfl)
        simp only [Act.put, List.setIfInBounds_toArray, List.set_cons_zero, List.set_cons_succ]
        refine wpAnyT_take (i := 1) (v := ?_) (by kernel_rfl) (by kernel_rfl) (by decide) (by kernel_rfl) inv rfl (by decide) (by kernel_rfl) (by kernel_rfl) (fun _ _ _ h => h) (Or.inl ⟨by rfl, ?_⟩) (by assumption) (fun inv => ?_)
        rotate_left
        · (intro w hSw; (try dsimp only at hSw); go_simp; try with_reducible rfl)
        simp only [Act.put, List.setIfInBounds_toArray, List.set_cons_zero, List.set_cons_succ]
        refine wpAnyT_take (i := 2) (v := ?_) (by kernel_rfl) (by kernel_rfl) (by decide) (by kernel_rfl) inv rfl (by decide) (by kernel_rfl) (by kernel_rfl) (fun _ _ _ h => h) (Or.inl ⟨by rfl, ?_⟩) (by assumption) (fun inv => ?_)
        rotate_left
        · (intro w hSw; (try dsimp only at hSw); go_simp; try with_reducible rfl)
        simp only [Act.put, List.setIfInBounds_toArray, List.set_cons_zero, List.set_cons_succ]
        refine wpAnyT_take (i := 3) (v := ?_) (by kernel_rfl) (by kernel_rfl) (by decide) (by kernel_rfl) inv rfl (by decide) (by kernel_rfl) (by kernel_rfl) (fun _ _ _ h => h) (Or.inl ⟨by rfl, ?_⟩) (by assumption) (fun inv => ?_)
        rotate_left
        · (intro w hSw; (try dsimp only at hSw); go_simp; try with_reducible rfl)
        simp only [Act.put, List.setIfInBounds_toArray, List.set_cons_zero, List.set_cons_succ]
        refine wpAnyT_take (i := 4) (v := ?_) (by kernel_rfl) (by kernel_rfl) (by decide) (by kernel_rfl) inv rfl (by decide) (by kernel_rfl) (by kernel_rfl) (fun _ _ _ h => h) (Or.inl ⟨by rfl, ?_⟩) (by assumption) (fun inv => ?_)
        rotate_left
        · (intro w hSw; (try dsimp only at hSw); go_simp; try with_reducible rfl)
        simp only [Act.put, List.setIfInBounds_toArray, List.set_cons_zero, List.set_cons_succ]
        refine wpAnyT_take (i := 5) (v := ?_) (by kernel_rfl) (by kernel_rfl) (by decide) (by kernel_rfl) inv rfl (by decide) (by kernel_rfl) (by kernel_rfl) (fun _ _ _ h => h) (Or.inl ⟨by rfl, ?_⟩) (by assumption) (fun inv => ?_)
        rotate_left
        · (intro w hSw; (try dsimp only at hSw); go_simp; try with_reducible rfl)
        simp only [Act.put, List.setIfInBounds_toArray, List.set_cons_zero, List.set_cons_succ]
        refine wpAnyT_take (i := 6) (v := ?_) (by kernel_rfl) (by kernel_rfl) (by decide) (by kernel_rfl) inv rfl (by decide) (by kernel_rfl) (by kernel_rfl) (fun _ _ _ h => h) (Or.inl ⟨by rfl, ?_⟩) (by assumption) (fun inv => ?_)
        rotate_left
        · (intro w hSw; (try dsimp only at hSw); go_simp; try with_reducible rfl)
        simp only [Act.put, List.setIfInBounds_toArray, List.set_cons_zero, List.set_cons_succ]
        refine wpAnyT_take (i := 7) (v := ?_) (by kernel_rfl) (by kernel_rfl) (by decide) (by kernel_rfl) inv rfl (by decide) (by kernel_rfl) (by kernel_rfl) (fun _ _ _ h => h) (Or.inl ⟨by rfl, ?_⟩) (by assumption) (fun inv => ?_)
        rotate_left
        · (intro w hSw; (try dsimp only at hSw); go_simp; try with_reducible rfl)
        simp only [Act.put, List.setIfInBounds_toArray, List.set_cons_zero, List.set_cons_succ]
        refine wpAnyT_take (i := 8) (v := ?_) (by kernel_rfl) (by kernel_rfl) (by decide) (by kernel_rfl) inv rfl (by decide) (by kernel_rfl) (by kernel_rfl) (fun _ _ _ h => h) (Or.inl ⟨by rfl, ?_⟩) (by assumption) (fun inv => ?_)
        rotate_left
        · (intro w hSw; (try dsimp only at hSw); go_simp; try with_reducible rfl)
        simp only [Act.put, List.setIfInBounds_toArray, List.set_cons_zero, List.set_cons_succ]
        refine wpAnyT_take (i := 9) (v := ?_) (by kernel_rfl) (by kernel_rfl) (by decide) (by kernel_rfl) inv rfl (by decide) (by kernel_rfl) (by kernel_rfl) (fun _ _ _ h => h) (Or.inl ⟨by rfl, ?_⟩) (by assumption) (fun inv => ?_)
        rotate_left
        · (intro w hSw; (try dsimp only at hSw); go_simp; try with_reducible rfl)
        simp only [Act.put, List.setIfInBounds_toArray, List.set_cons_zero, List.set_cons_succ]
        refine wpAnyT_seq (k := 10) (by decide) rfl rfl (by kernel_rfl) ?_
        refine wpList_append_own_at _ rfl _ _ 22 rfl (W.heap.size + 2) 2 i0 (.int .i64 0) 1 8 Try.underlying22 hinf hz0 hz1 hz2 rfl (by decide) _ _ _ rfl O2d ⟨g, a, none⟩ (((a : Int) + (d : Int)).toNat - a) (cap - a) (cellsI (fun j => F (a + j)) (((a : Int) + (d : Int)).toNat - a)) rfl ?c0 ?c1 ?c2 ?c3 ?c4 ?c5 ?_
        case c0 => rw [cellsI_len]; omega
        case c1 => exact hc9
        case c2 => exact cellsI_one _ _
        case c3 => unfold maxLen; have := HYD.out; omega
        case c4 => have := HYD.out; omega
        case c5 => exact hbase
        intro v' w3 hown3 hgr3 _ hat
        have KA3 := KAd.grown hgr3 (fun e9 => by have := (O2d.lt _ e9).1; omega)
        have KC3 := KCd.grown hgr3 (fun e9 => by have := (O2d.lt _ e9).1; omega)
        have KD3 := KDd.grown hgr3 hnb
        have B3 : Below W.heap.size W w3 := Below.grown Bd hgr3 (by omega) (fun q hq => by have := (O2d.lt q hq).1; omega)
        have hown4 := HE8.out v' w3 hown3
        have KD4 := KD3.store2 v'
        have hnb4 : v'.ownBlock ≠ some bx := by
          rcases hat with e9 | e9 <;> rw [e9]
          · exact hnb
          · intro e7; have := KDd.lt; simp only [Option.some.injEq] at e7; omega
        have OWN9 := Lib.hid hown4
        obtain ⟨ao', cap', rfl⟩ := own_sh hown4
        clear hown4 hat
        have kd2' := KD3.c2
        have kdf2 := KD3.f2
        have kdl' := KD3.lt
        have HG := Lib.hid hgr3
        clear hc9 hown3 hgr3 O2 O2d KA2 KC2 B2 KDd KAd KCd Bd hHeld inv hkd
        go_wp2
        go_roundw
        case rel => exact ⟨y + 1, _, by go_num, by omega, KD4, ownsRow_set OWN9.out hnb4 _, hnb4, K3.far (by dsimp only; omega) KA3, KF.far (by dsimp only; omega) KC3, B3.setCell (by dsimp only; omega) _⟩
        case measure => first | (simp [intOf]; done) | (simp [intOf]; omega)
      · obtain rfl : y = h := by omega
        have kd0 := KD.c0
        have kd1 := KD.c1
        have kd2 := KD.c2
        have kdl := KD.lt
        have kc0 := KC.c0
        have kc1 := KC.c1
        have kc2 := KC.c2
        have kcf0 := KC.f0
        have kcf1 := KC.f1
        have kcf2 := KC.f2
        have kcl := KC.lt
        have HR1 := Lib.hid (SRow.own O1 (by have := Nat.mul_le_mul h6 (Nat.le_trans hd1.2 w24); omega))
        have HB := Lib.hid hB
        clear hB O1
        obtain ⟨ao9, cap9, rfl⟩ := SRow.slice HR1.out
        go_wp2
        refine bodyPost_ret (v := .tuple #[.agg #[.int .i64 (y : Int), .int .i64 (d : Int), .slice ao9 (y * d) cap9], .int .i64 0]) (by simp [results, Try.results19, go_sem, *]) rfl ⟨_, _, _, _, _, _, HA.out, rfl, ?_, ?_⟩
        · refine SRow.up (hi := wr.heap.size) (SRow.low (lo := W.heap.size + 2) ?_ (by omega))
          repeat (first | with_reducible exact HR1.out | with_reducible refine SRow.put (by first | omega | (dsimp only; omega)) _ ?_)
        · have hB := HB.out
          repeat (first | with_reducible exact Below.refl _ _ | with_reducible assumption | with_reducible refine Below.setCell ?_ (by first | omega | (dsimp only; omega) | (simp <;> omega)) _ | with_reducible refine Below.alloc ?_ (by first | omega | (simp <;> omega)) _ | with_reducible refine bstep ?_ (by with_reducible assumption) | with_reducible refine Below.drew ?_)
end Go.Proofs.Ytajmfeppnhkcdaa
