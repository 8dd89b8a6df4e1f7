/-
  The walk of the exact law of MoveFrieze: the law returns true and writes nothing that was there. Condition: the list's length is one that a slice can have.
-/
import Derived.Test.YthfgmadogknnaaaFzN
namespace Go.Proofs.Ythfgmadogknnaaa
open Go.RowKit
set_option linter.unusedSimpArgs false
set_option linter.unusedVariables false

theorem SRow.putO {lo hi K n : Nat} {F : Nat → Int} {v : Value} {W : World} {q : Addr} (hq : offB v q.block) (u : Value) (h : SRow lo hi K v n F W) : SRow lo hi K v n F (W.setCell q u) := by
  obtain ⟨e1, e2, e3⟩ := h
  refine ⟨by simpa [World.setCell] using e1, e2, ?_⟩
  rcases e3 with e3 | ⟨g, cap, rfl, hg, hg2, r⟩
  · exact .inl e3
  · by_cases hn : n = 0
    · subst hn; exact .inl ⟨rfl, _, _, rfl⟩
    · exact .inr ⟨g, cap, rfl, hg, hg2, r.far (fun e => hn (hq n cap (by rw [e])))⟩
theorem lt_al (W : World) (o : Obj) : W.heap.size < (W.alloc o).heap.size := by simp
/- what a drawn region leaves that sets a new variable from a call's answer: a frieze, and a code -/
def McX (r : FR) (W : World) (s6 s7 : Value) (wx : World) : Prop :=
  ∃ (bx : Nat) (P Q : Int) (m : Nat) (G : Nat → Int) (c : Int) (ao : Option Addr) (cap : Nat), r = (P, Q, m, G, c) ∧ s6 = .pointer (some ⟨bx, 0, none⟩) ∧ s7 = .int .i64 c ∧
    KF bx P Q (.slice ao m cap) wx ∧ SRow W.heap.size wx.heap.size 1 (.slice ao m cap) m G wx ∧ W.heap.size ≤ bx ∧ offB (.slice ao m cap) bx ∧ Below W.heap.size W wx
theorem SRow.alloc8 {lo hi K n : Nat} {F : Nat → Int} {v : Value} {W : World} (h : SRow lo hi K v n F W) (o : Obj) : SRow lo hi K v n F (W.alloc o) := h.call ((Below.refl _ _).alloc (Nat.le_refl _) _)
theorem SRow.drew8 {lo hi K n : Nat} {F : Nat → Int} {v : Value} {W : World} (h : SRow lo hi K v n F W) : SRow lo hi K v n F W.drew := h.call (Below.refl _ _).drew
set_option maxRecDepth 100000 in
set_option maxHeartbeats 16000000 in
theorem walkMv (a b : Int) (v : Value) (n : Nat) (F : Nat → Int) (tx ty : Bool) (s : Int) (w : World) (hA : ARw v n F w) (hm : n ≤ 9223372036854775807) :
    Calls Try.prog 9 #[.agg #[.int .i64 a, .int .i64 b, v], .agg #[.bool tx, .bool ty, .int .i64 s]] w fun e w' => e = .returned (.bool true) ∧ Below w.heap.size w w' := by
  have HA := Lib.hid hA
  obtain ⟨ao, cap, rfl, _⟩ := hA
  by_cases hbig : n ≤ 1048576
  · have hz : (if (n : Int) ≤ 1048576 then 1048576 - (n : Int) else -1) = 1048576 - (n : Int) := if_pos (by omega)
    have HN := Lib.hid hbig
    have hn1 : ¬ (1048576 - (n : Int) < 0) := by omega
    clear hbig
    go_enter Try.func9, Try.ntmps9
    go_wp2_with fail
    with_reducible refine (szFr_any a b ao n cap 1048576 _ hm (by omega)).mono ?_
    rintro e w1 ⟨rfl, hb1⟩
    rw [hz]
    have Kb1 : Kf (w.heap.size) a b (.slice ao n cap) w1 := Kf.call ((Kf.at _ rfl).alloc _) hb1
    have M1 : K3 (w.heap.size + 1) (.bool tx) (.bool ty) (.int .i64 s) w1 := K3.call (K3.at _ (by simp)) hb1
    have B1 : Below w.heap.size w w1 := bstep (((Below.refl _ _).alloc (Nat.le_refl _) _).alloc (by simp) _) hb1
    have A1 := Lib.hid (HA.out.call B1)
    have z1 : w.heap.size < w1.heap.size := Kb1.lt
    clear hb1
    have Kb1c0 := Kb1.c0
    have Kb1c1 := Kb1.c1
    have Kb1c2 := Kb1.c2
    have Kb1l := Kb1.lt
    have M1c0 := M1.c0
    have M1c1 := M1.c1
    have M1c2 := M1.c2
    have M1l := M1.lt
    go_upto_region 1 with fail
    go_cut [6, 7] (fun s6 s7 wx => McX (mvA a b n F tx ty s) w1 s6 s7 wx)
    case first =>
      have k9 : Kf (w.heap.size) a b (.slice ao n cap) w1 := Kb1
      go_region_held3 (fun W => (W.cell? ⟨w.heap.size, 0, none⟩ = some (.int .i64 a) ∧ W.cell? ⟨w.heap.size, 1, none⟩ = some (.int .i64 b) ∧ W.cell? ⟨w.heap.size, 2, none⟩ = some (.slice ao n cap)) ∧ (W.cell? ⟨w.heap.size + 1, 0, none⟩ = some (.bool tx) ∧ W.cell? ⟨w.heap.size + 1, 1, none⟩ = some (.bool ty) ∧ W.cell? ⟨w.heap.size + 1, 2, none⟩ = some (.int .i64 s))) ((refine And.intro (Kf.cells ?_) (K3.cells ?_)) <;> (repeat (first | with_reducible assumption | (with_reducible exact KF.at _ (by first | with_reducible rfl | (simp; done))) | with_reducible refine Kf.drew ?_ | with_reducible refine K3.drew ?_ | with_reducible refine KF.drew ?_ | with_reducible refine Kf.alloc ?_ _ | with_reducible refine K3.alloc ?_ _ | with_reducible refine KF.alloc ?_ _ | with_reducible refine Kf.call ?_ (by with_reducible assumption) | with_reducible refine K3.call ?_ (by with_reducible assumption) | with_reducible refine KF.call ?_ (by with_reducible assumption) | ((with_reducible refine Kf.far ?_ ?_); (first | omega | (dsimp only; omega))) | ((with_reducible refine K3.far ?_ ?_); (first | omega | (dsimp only; omega))))))
        (first
          | (go_at_call 16; with_reducible refine (toFr_any a b (A1.out.call (by repeat (first | with_reducible assumption | with_reducible exact Below.refl _ _ | with_reducible refine Below.drew ?_ | with_reducible refine Below.alloc ?_ (by first | omega | (simp <;> omega)) _ | with_reducible refine Below.setCell ?_ (by first | omega | (dsimp only; omega)) _ | with_reducible refine bstep ?_ (by with_reducible assumption)))) HN.out).mono ?_; rintro e w1fr ⟨v1fr, rfl, r1fr, hb1fr⟩; obtain ⟨ao1fr, cap1fr, rfl⟩ := r1fr.slice; (try ((refine useIt (P := KF (w1.heap.size) 0 0 (.slice none 0 0) w1fr) ?_ ?_); (repeat (first | with_reducible assumption | (with_reducible exact KF.at _ (by first | with_reducible rfl | (simp; done))) | with_reducible refine Kf.drew ?_ | with_reducible refine K3.drew ?_ | with_reducible refine KF.drew ?_ | with_reducible refine Kf.alloc ?_ _ | with_reducible refine K3.alloc ?_ _ | with_reducible refine KF.alloc ?_ _ | with_reducible refine Kf.call ?_ (by with_reducible assumption) | with_reducible refine K3.call ?_ (by with_reducible assumption) | with_reducible refine KF.call ?_ (by with_reducible assumption) | ((with_reducible refine Kf.far ?_ ?_); (first | omega | (dsimp only; omega))) | ((with_reducible refine K3.far ?_ ?_); (first | omega | (dsimp only; omega))))); intro d1fr_1; have d1fr_1c0 := d1fr_1.c0; have d1fr_1c1 := d1fr_1.c1; have d1fr_1c2 := d1fr_1.c2; have d1fr_1f0 := d1fr_1.f0; have d1fr_1f1 := d1fr_1.f1; have d1fr_1f2 := d1fr_1.f2; have d1fr_1l := d1fr_1.lt)); (try ((refine useIt (P := KF (w1mo.heap.size) 0 0 (.slice none 0 0) w1fr) ?_ ?_); (repeat (first | with_reducible assumption | (with_reducible exact KF.at _ (by first | with_reducible rfl | (simp; done))) | with_reducible refine Kf.drew ?_ | with_reducible refine K3.drew ?_ | with_reducible refine KF.drew ?_ | with_reducible refine Kf.alloc ?_ _ | with_reducible refine K3.alloc ?_ _ | with_reducible refine KF.alloc ?_ _ | with_reducible refine Kf.call ?_ (by with_reducible assumption) | with_reducible refine K3.call ?_ (by with_reducible assumption) | with_reducible refine KF.call ?_ (by with_reducible assumption) | ((with_reducible refine Kf.far ?_ ?_); (first | omega | (dsimp only; omega))) | ((with_reducible refine K3.far ?_ ?_); (first | omega | (dsimp only; omega))))); intro d1fr_1mo; have d1fr_1moc0 := d1fr_1mo.c0; have d1fr_1moc1 := d1fr_1mo.c1; have d1fr_1moc2 := d1fr_1mo.c2; have d1fr_1mof0 := d1fr_1mo.f0; have d1fr_1mof1 := d1fr_1mo.f1; have d1fr_1mof2 := d1fr_1mo.f2; have d1fr_1mol := d1fr_1mo.lt)); have c1fr : Below w1.heap.size w1 w1fr := (by repeat (first | with_reducible assumption | with_reducible exact Below.refl _ _ | with_reducible refine Below.drew ?_ | with_reducible refine Below.alloc ?_ (by first | omega | (simp <;> omega)) _ | with_reducible refine Below.setCell ?_ (by first | omega | (dsimp only; omega)) _ | with_reducible refine bstep ?_ (by with_reducible assumption))); have y1fr := c1fr.size; have l1fr : Kf (w.heap.size) a b (.slice ao n cap) w1fr := Kf.call k9 c1fr; have ll1fr := l1fr.lt; have n1fr : K3 (w.heap.size + 1) (.bool tx) (.bool ty) (.int .i64 s) w1fr := K3.call M1 c1fr; have nl1fr := n1fr.lt)
          | (go_at_call 35; with_reducible refine (toFm_any _ _ _ _).mono ?_; rintro e w1mo ⟨rfl, hb1mo⟩; (try ((refine useIt (P := KF (w1.heap.size) 0 0 (.slice none 0 0) w1mo) ?_ ?_); (repeat (first | with_reducible assumption | (with_reducible exact KF.at _ (by first | with_reducible rfl | (simp; done))) | with_reducible refine Kf.drew ?_ | with_reducible refine K3.drew ?_ | with_reducible refine KF.drew ?_ | with_reducible refine Kf.alloc ?_ _ | with_reducible refine K3.alloc ?_ _ | with_reducible refine KF.alloc ?_ _ | with_reducible refine Kf.call ?_ (by with_reducible assumption) | with_reducible refine K3.call ?_ (by with_reducible assumption) | with_reducible refine KF.call ?_ (by with_reducible assumption) | ((with_reducible refine Kf.far ?_ ?_); (first | omega | (dsimp only; omega))) | ((with_reducible refine K3.far ?_ ?_); (first | omega | (dsimp only; omega))))); intro d1mo_1; have d1mo_1c0 := d1mo_1.c0; have d1mo_1c1 := d1mo_1.c1; have d1mo_1c2 := d1mo_1.c2; have d1mo_1f0 := d1mo_1.f0; have d1mo_1f1 := d1mo_1.f1; have d1mo_1f2 := d1mo_1.f2; have d1mo_1l := d1mo_1.lt)); (try ((refine useIt (P := KF (w1fr.heap.size) 0 0 (.slice none 0 0) w1mo) ?_ ?_); (repeat (first | with_reducible assumption | (with_reducible exact KF.at _ (by first | with_reducible rfl | (simp; done))) | with_reducible refine Kf.drew ?_ | with_reducible refine K3.drew ?_ | with_reducible refine KF.drew ?_ | with_reducible refine Kf.alloc ?_ _ | with_reducible refine K3.alloc ?_ _ | with_reducible refine KF.alloc ?_ _ | with_reducible refine Kf.call ?_ (by with_reducible assumption) | with_reducible refine K3.call ?_ (by with_reducible assumption) | with_reducible refine KF.call ?_ (by with_reducible assumption) | ((with_reducible refine Kf.far ?_ ?_); (first | omega | (dsimp only; omega))) | ((with_reducible refine K3.far ?_ ?_); (first | omega | (dsimp only; omega))))); intro d1mo_1fr; have d1mo_1frc0 := d1mo_1fr.c0; have d1mo_1frc1 := d1mo_1fr.c1; have d1mo_1frc2 := d1mo_1fr.c2; have d1mo_1frf0 := d1mo_1fr.f0; have d1mo_1frf1 := d1mo_1fr.f1; have d1mo_1frf2 := d1mo_1fr.f2; have d1mo_1frl := d1mo_1fr.lt)); (try ((refine useIt (P := Below w1fr.heap.size w1fr w1mo) ?_ ?_); (with_reducible exact bstep (by repeat (first | with_reducible assumption | with_reducible exact Below.refl _ _ | with_reducible refine Below.drew ?_ | with_reducible refine Below.alloc ?_ (by first | omega | (simp <;> omega)) _ | with_reducible refine Below.setCell ?_ (by first | omega | (dsimp only; omega)) _ | with_reducible refine bstep ?_ (by with_reducible assumption))) hb1mo); intro e1mo; have ye1mo := e1mo.size)); have c1mo : Below w1.heap.size w1 w1mo := (by repeat (first | with_reducible assumption | with_reducible exact Below.refl _ _ | with_reducible refine Below.drew ?_ | with_reducible refine Below.alloc ?_ (by first | omega | (simp <;> omega)) _ | with_reducible refine Below.setCell ?_ (by first | omega | (dsimp only; omega)) _ | with_reducible refine bstep ?_ (by with_reducible assumption))); have y1mo := c1mo.size; have l1mo : Kf (w.heap.size) a b (.slice ao n cap) w1mo := Kf.call k9 c1mo; have ll1mo := l1mo.lt; have n1mo : K3 (w.heap.size + 1) (.bool tx) (.bool ty) (.int .i64 s) w1mo := K3.call M1 c1mo; have nl1mo := n1mo.lt)
          | (go_at_call 34; with_reducible refine (specMv_any a b (SRow.call r1fr (by repeat (first | with_reducible assumption | with_reducible exact Below.refl _ _ | with_reducible refine Below.drew ?_ | with_reducible refine Below.alloc ?_ (by first | omega | (simp <;> omega)) _ | with_reducible refine Below.setCell ?_ (by first | omega | (dsimp only; omega)) _ | with_reducible refine bstep ?_ (by with_reducible assumption)))) tx ty s).mono ?_; rintro e w1mv hh; unfold FAns at hh; obtain ⟨P2, Q2, m2, G2, c2, v2, hr2, rfl, rq2, hb1mv⟩ := hh; obtain ⟨ao2, cap2, rfl⟩ := rq2.slice; (try ((refine useIt (P := KF (w1.heap.size) 0 0 (.slice none 0 0) w1mv) ?_ ?_); (repeat (first | with_reducible assumption | (with_reducible exact KF.at _ (by first | with_reducible rfl | (simp; done))) | with_reducible refine Kf.drew ?_ | with_reducible refine K3.drew ?_ | with_reducible refine KF.drew ?_ | with_reducible refine Kf.alloc ?_ _ | with_reducible refine K3.alloc ?_ _ | with_reducible refine KF.alloc ?_ _ | with_reducible refine Kf.call ?_ (by with_reducible assumption) | with_reducible refine K3.call ?_ (by with_reducible assumption) | with_reducible refine KF.call ?_ (by with_reducible assumption) | ((with_reducible refine Kf.far ?_ ?_); (first | omega | (dsimp only; omega))) | ((with_reducible refine K3.far ?_ ?_); (first | omega | (dsimp only; omega))))); intro d1mv_1; have d1mv_1c0 := d1mv_1.c0; have d1mv_1c1 := d1mv_1.c1; have d1mv_1c2 := d1mv_1.c2; have d1mv_1f0 := d1mv_1.f0; have d1mv_1f1 := d1mv_1.f1; have d1mv_1f2 := d1mv_1.f2; have d1mv_1l := d1mv_1.lt)); (try ((refine useIt (P := KF (w1mo.heap.size) 0 0 (.slice none 0 0) w1mv) ?_ ?_); (repeat (first | with_reducible assumption | (with_reducible exact KF.at _ (by first | with_reducible rfl | (simp; done))) | with_reducible refine Kf.drew ?_ | with_reducible refine K3.drew ?_ | with_reducible refine KF.drew ?_ | with_reducible refine Kf.alloc ?_ _ | with_reducible refine K3.alloc ?_ _ | with_reducible refine KF.alloc ?_ _ | with_reducible refine Kf.call ?_ (by with_reducible assumption) | with_reducible refine K3.call ?_ (by with_reducible assumption) | with_reducible refine KF.call ?_ (by with_reducible assumption) | ((with_reducible refine Kf.far ?_ ?_); (first | omega | (dsimp only; omega))) | ((with_reducible refine K3.far ?_ ?_); (first | omega | (dsimp only; omega))))); intro d1mv_1mo; have d1mv_1moc0 := d1mv_1mo.c0; have d1mv_1moc1 := d1mv_1mo.c1; have d1mv_1moc2 := d1mv_1mo.c2; have d1mv_1mof0 := d1mv_1mo.f0; have d1mv_1mof1 := d1mv_1mo.f1; have d1mv_1mof2 := d1mv_1mo.f2; have d1mv_1mol := d1mv_1mo.lt)); (try ((refine useIt (P := KF (w1fr.heap.size) 0 0 (.slice none 0 0) w1mv) ?_ ?_); (repeat (first | with_reducible assumption | (with_reducible exact KF.at _ (by first | with_reducible rfl | (simp; done))) | with_reducible refine Kf.drew ?_ | with_reducible refine K3.drew ?_ | with_reducible refine KF.drew ?_ | with_reducible refine Kf.alloc ?_ _ | with_reducible refine K3.alloc ?_ _ | with_reducible refine KF.alloc ?_ _ | with_reducible refine Kf.call ?_ (by with_reducible assumption) | with_reducible refine K3.call ?_ (by with_reducible assumption) | with_reducible refine KF.call ?_ (by with_reducible assumption) | ((with_reducible refine Kf.far ?_ ?_); (first | omega | (dsimp only; omega))) | ((with_reducible refine K3.far ?_ ?_); (first | omega | (dsimp only; omega))))); intro d1mv_1fr; have d1mv_1frc0 := d1mv_1fr.c0; have d1mv_1frc1 := d1mv_1fr.c1; have d1mv_1frc2 := d1mv_1fr.c2; have d1mv_1frf0 := d1mv_1fr.f0; have d1mv_1frf1 := d1mv_1fr.f1; have d1mv_1frf2 := d1mv_1fr.f2; have d1mv_1frl := d1mv_1fr.lt)); have c1mv : Below w1.heap.size w1 w1mv := (by repeat (first | with_reducible assumption | with_reducible exact Below.refl _ _ | with_reducible refine Below.drew ?_ | with_reducible refine Below.alloc ?_ (by first | omega | (simp <;> omega)) _ | with_reducible refine Below.setCell ?_ (by first | omega | (dsimp only; omega)) _ | with_reducible refine bstep ?_ (by with_reducible assumption))); have y1mv := c1mv.size; have l1mv : Kf (w.heap.size) a b (.slice ao n cap) w1mv := Kf.call k9 c1mv; have ll1mv := l1mv.lt; have n1mv : K3 (w.heap.size + 1) (.bool tx) (.bool ty) (.int .i64 s) w1mv := K3.call M1 c1mv; have nl1mv := n1mv.lt; have rr2 : SRow w1.heap.size w1mv.heap.size 1 (.slice ao2 m2 cap2) m2 G2 w1mv := SRow.low rq2 (by first | omega | (simp <;> omega))))
      all_goals
        go_wp2_with fail
        go_meet
        exact ⟨_, _, _, _, _, _, _, _, hr2, rfl, rfl, (by first | (with_reducible exact KF.at _ (by first | with_reducible rfl | (simp; done) | fail)) | (with_reducible exact KF.store (by repeat (first | with_reducible assumption | (with_reducible exact KF.at _ (by first | with_reducible rfl | (simp; done))) | with_reducible refine Kf.drew ?_ | with_reducible refine K3.drew ?_ | with_reducible refine KF.drew ?_ | with_reducible refine Kf.alloc ?_ _ | with_reducible refine K3.alloc ?_ _ | with_reducible refine KF.alloc ?_ _ | with_reducible refine Kf.call ?_ (by with_reducible assumption) | with_reducible refine K3.call ?_ (by with_reducible assumption) | with_reducible refine KF.call ?_ (by with_reducible assumption) | ((with_reducible refine Kf.far ?_ ?_); (first | omega | (dsimp only; omega))) | ((with_reducible refine K3.far ?_ ?_); (first | omega | (dsimp only; omega))))) _ _ _) | fail), (by refine SRow.up (hi := w1mv.heap.size) ?_; repeat (first | with_reducible exact rr2 | with_reducible refine SRow.alloc8 ?_ _ | with_reducible refine SRow.drew8 ?_ | (with_reducible refine SRow.putO (rq2.off (by dsimp only; first | omega | exact Or.inl (lt_al _ _) | (have := d1mo_1.lt; first | omega | (simp <;> omega)) | (have := d1mo_1mo.lt; first | omega | (simp <;> omega)) | (have := d1mo_1fr.lt; first | omega | (simp <;> omega)) | (have := d1mv_1.lt; first | omega | (simp <;> omega)) | (have := d1mv_1mo.lt; first | omega | (simp <;> omega)) | (have := d1mv_1fr.lt; first | omega | (simp <;> omega)) | (have := d1fr_1.lt; first | omega | (simp <;> omega)) | (have := d1fr_1mo.lt; first | omega | (simp <;> omega)) | (have := d1fr_1fr.lt; first | omega | (simp <;> omega)))) _ ?_))), (by first | omega | (simp <;> omega)), rq2.off (by first | omega | exact Or.inl (lt_al _ _) | (simp <;> omega) | (have := d1mo_1.lt; first | omega | (simp <;> omega)) | (have := d1mo_1mo.lt; first | omega | (simp <;> omega)) | (have := d1mo_1fr.lt; first | omega | (simp <;> omega)) | (have := d1mv_1.lt; first | omega | (simp <;> omega)) | (have := d1mv_1mo.lt; first | omega | (simp <;> omega)) | (have := d1mv_1fr.lt; first | omega | (simp <;> omega)) | (have := d1fr_1.lt; first | omega | (simp <;> omega)) | (have := d1fr_1mo.lt; first | omega | (simp <;> omega)) | (have := d1fr_1fr.lt; first | omega | (simp <;> omega))), (by repeat (first | with_reducible assumption | with_reducible exact Below.refl _ _ | with_reducible refine Below.drew ?_ | with_reducible refine Below.alloc ?_ (by first | omega | (simp <;> omega)) _ | with_reducible refine Below.setCell ?_ (by first | omega | (dsimp only; omega)) _ | with_reducible refine bstep ?_ (by with_reducible assumption)))⟩
    case rest =>
      obtain ⟨bx2, P2, Q2, m2, G2, c2, ao2, cap2, hr2, rfl, rfl, KD2, rq2, hl2, ho2, hb2⟩ := hcut
      obtain ⟨w2, hw2⟩ : ∃ z, z = wc := ⟨_, rfl⟩
      subst hw2
      have HP := Lib.hid hr2
      clear hr2
      have Kb2 : Kf (w.heap.size) a b (.slice ao n cap) w2 := Kf.call Kb1 hb2
      have M2 : K3 (w.heap.size + 1) (.bool tx) (.bool ty) (.int .i64 s) w2 := K3.call M1 hb2
      have B2 : Below w.heap.size w w2 := bstep B1 hb2
      have A2 := Lib.hid (HA.out.call B2)
      have z2 : w1.heap.size ≤ w2.heap.size := hb2.size
      clear Kb1 M1 B1 A1 Kb1c0 Kb1c1 Kb1c2 Kb1l M1c0 M1c1 M1c2 M1l hb2
      have y2 := Lib.hid rq2
      clear rq2
      have Y2 := KF.kf KD2
      have bl2 := KD2.lt
      clear KD2
      have HO2 := Lib.hid ho2
      clear ho2
      have Kb2c0 := Kb2.c0
      have Kb2c1 := Kb2.c1
      have Kb2c2 := Kb2.c2
      have Kb2l := Kb2.lt
      go_wp2_with fail
      with_reducible refine (toFr_any a b A2.out HN.out).mono ?_
      rintro e w3 ⟨v3, rfl, r3, hb3⟩
      have Kb3 : Kf (w.heap.size) a b (.slice ao n cap) w3 := Kf.call Kb2 hb3
      have Y3 : Kf (bx2) P2 Q2 (.slice ao2 m2 cap2) w3 := Kf.call Y2 hb3
      have M3 : K3 (w.heap.size + 1) (.bool tx) (.bool ty) (.int .i64 s) w3 := K3.call M2 hb3
      have B3 : Below w.heap.size w w3 := bstep B2 hb3
      have A3 := Lib.hid (HA.out.call B3)
      have z3 : w2.heap.size ≤ w3.heap.size := hb3.size
      have y3 := Lib.hid (SRow.call y2.out hb3)
      clear Kb2 Y2 M2 B2 A2 y2 Kb2c0 Kb2c1 Kb2c2 Kb2l hb3
      obtain ⟨ao3, cap3, rfl⟩ := r3.slice
      have x3 := Lib.hid r3
      clear r3
      go_upto_region 1 with fail
      have Kb4 : Kf (w.heap.size) a b (.slice ao n cap) (w3.alloc (.cells #[.int .i64 a, .int .i64 b, .slice ao3 n cap3] 27)) := Kf.alloc Kb3 _
      have Y4 : Kf (bx2) P2 Q2 (.slice ao2 m2 cap2) (w3.alloc (.cells #[.int .i64 a, .int .i64 b, .slice ao3 n cap3] 27)) := Kf.alloc Y3 _
      have M4 : K3 (w.heap.size + 1) (.bool tx) (.bool ty) (.int .i64 s) (w3.alloc (.cells #[.int .i64 a, .int .i64 b, .slice ao3 n cap3] 27)) := K3.alloc M3 _
      have X4 : Kf (w3.heap.size) a b (.slice ao3 n cap3) (w3.alloc (.cells #[.int .i64 a, .int .i64 b, .slice ao3 n cap3] 27)) := Kf.at _ rfl
      have B4 : Below w.heap.size w (w3.alloc (.cells #[.int .i64 a, .int .i64 b, .slice ao3 n cap3] 27)) := bstep B3 (show Below w3.heap.size w3 (w3.alloc (.cells #[.int .i64 a, .int .i64 b, .slice ao3 n cap3] 27)) from (Below.refl _ _).alloc (Nat.le_refl _) _)
      have z4 : w3.heap.size + 1 ≤ (w3.alloc (.cells #[.int .i64 a, .int .i64 b, .slice ao3 n cap3] 27)).heap.size := by simp
      have y4 := Lib.hid (SRow.call y3.out (show Below w3.heap.size w3 (w3.alloc (.cells #[.int .i64 a, .int .i64 b, .slice ao3 n cap3] 27)) from (Below.refl _ _).alloc (Nat.le_refl _) _))
      have x4 := Lib.hid (SRow.call x3.out (show Below w3.heap.size w3 (w3.alloc (.cells #[.int .i64 a, .int .i64 b, .slice ao3 n cap3] 27)) from (Below.refl _ _).alloc (Nat.le_refl _) _))
      generalize hW4 : w3.alloc (.cells #[.int .i64 a, .int .i64 b, .slice ao3 n cap3] 27) = w4 at *
      clear hW4
      have A4 := Lib.hid (HA.out.call B4)
      clear Kb3 Y3 M3 B3 A3 y3 x3
      have X4c0 := X4.c0
      have X4c1 := X4.c1
      have X4c2 := X4.c2
      have X4l := X4.lt
      have M4c0 := M4.c0
      have M4c1 := M4.c1
      have M4c2 := M4.c2
      have M4l := M4.lt
      go_upto_region 1 with fail
      go_cut [9, 10] (fun s6 s7 wx => McX (mvA a b n F tx ty s) w4 s6 s7 wx)
      case first =>
        have k9 : Kf (w3.heap.size) a b (.slice ao3 n cap3) w4 := X4
        go_region_held3 (fun W => (W.cell? ⟨w3.heap.size, 0, none⟩ = some (.int .i64 a) ∧ W.cell? ⟨w3.heap.size, 1, none⟩ = some (.int .i64 b) ∧ W.cell? ⟨w3.heap.size, 2, none⟩ = some (.slice ao3 n cap3)) ∧ (W.cell? ⟨w.heap.size + 1, 0, none⟩ = some (.bool tx) ∧ W.cell? ⟨w.heap.size + 1, 1, none⟩ = some (.bool ty) ∧ W.cell? ⟨w.heap.size + 1, 2, none⟩ = some (.int .i64 s))) ((refine And.intro (Kf.cells ?_) (K3.cells ?_)) <;> (repeat (first | with_reducible assumption | (with_reducible exact KF.at _ (by first | with_reducible rfl | (simp; done))) | with_reducible refine Kf.drew ?_ | with_reducible refine K3.drew ?_ | with_reducible refine KF.drew ?_ | with_reducible refine Kf.alloc ?_ _ | with_reducible refine K3.alloc ?_ _ | with_reducible refine KF.alloc ?_ _ | with_reducible refine Kf.call ?_ (by with_reducible assumption) | with_reducible refine K3.call ?_ (by with_reducible assumption) | with_reducible refine KF.call ?_ (by with_reducible assumption) | ((with_reducible refine Kf.far ?_ ?_); (first | omega | (dsimp only; omega))) | ((with_reducible refine K3.far ?_ ?_); (first | omega | (dsimp only; omega))))))
          (first
            | (go_at_call 35; with_reducible refine (toFm_any _ _ _ _).mono ?_; rintro e w4mo ⟨rfl, hb4mo⟩; (try ((refine useIt (P := KF (w4.heap.size) 0 0 (.slice none 0 0) w4mo) ?_ ?_); (repeat (first | with_reducible assumption | (with_reducible exact KF.at _ (by first | with_reducible rfl | (simp; done))) | with_reducible refine Kf.drew ?_ | with_reducible refine K3.drew ?_ | with_reducible refine KF.drew ?_ | with_reducible refine Kf.alloc ?_ _ | with_reducible refine K3.alloc ?_ _ | with_reducible refine KF.alloc ?_ _ | with_reducible refine Kf.call ?_ (by with_reducible assumption) | with_reducible refine K3.call ?_ (by with_reducible assumption) | with_reducible refine KF.call ?_ (by with_reducible assumption) | ((with_reducible refine Kf.far ?_ ?_); (first | omega | (dsimp only; omega))) | ((with_reducible refine K3.far ?_ ?_); (first | omega | (dsimp only; omega))))); intro d4mo_4; have d4mo_4c0 := d4mo_4.c0; have d4mo_4c1 := d4mo_4.c1; have d4mo_4c2 := d4mo_4.c2; have d4mo_4f0 := d4mo_4.f0; have d4mo_4f1 := d4mo_4.f1; have d4mo_4f2 := d4mo_4.f2; have d4mo_4l := d4mo_4.lt)); (try ((refine useIt (P := KF (w4fr.heap.size) 0 0 (.slice none 0 0) w4mo) ?_ ?_); (repeat (first | with_reducible assumption | (with_reducible exact KF.at _ (by first | with_reducible rfl | (simp; done))) | with_reducible refine Kf.drew ?_ | with_reducible refine K3.drew ?_ | with_reducible refine KF.drew ?_ | with_reducible refine Kf.alloc ?_ _ | with_reducible refine K3.alloc ?_ _ | with_reducible refine KF.alloc ?_ _ | with_reducible refine Kf.call ?_ (by with_reducible assumption) | with_reducible refine K3.call ?_ (by with_reducible assumption) | with_reducible refine KF.call ?_ (by with_reducible assumption) | ((with_reducible refine Kf.far ?_ ?_); (first | omega | (dsimp only; omega))) | ((with_reducible refine K3.far ?_ ?_); (first | omega | (dsimp only; omega))))); intro d4mo_4fr; have d4mo_4frc0 := d4mo_4fr.c0; have d4mo_4frc1 := d4mo_4fr.c1; have d4mo_4frc2 := d4mo_4fr.c2; have d4mo_4frf0 := d4mo_4fr.f0; have d4mo_4frf1 := d4mo_4fr.f1; have d4mo_4frf2 := d4mo_4fr.f2; have d4mo_4frl := d4mo_4fr.lt)); (try ((refine useIt (P := Below w4fr.heap.size w4fr w4mo) ?_ ?_); (with_reducible exact bstep (by repeat (first | with_reducible assumption | with_reducible exact Below.refl _ _ | with_reducible refine Below.drew ?_ | with_reducible refine Below.alloc ?_ (by first | omega | (simp <;> omega)) _ | with_reducible refine Below.setCell ?_ (by first | omega | (dsimp only; omega)) _ | with_reducible refine bstep ?_ (by with_reducible assumption))) hb4mo); intro e4mo; have ye4mo := e4mo.size)); have c4mo : Below w4.heap.size w4 w4mo := (by repeat (first | with_reducible assumption | with_reducible exact Below.refl _ _ | with_reducible refine Below.drew ?_ | with_reducible refine Below.alloc ?_ (by first | omega | (simp <;> omega)) _ | with_reducible refine Below.setCell ?_ (by first | omega | (dsimp only; omega)) _ | with_reducible refine bstep ?_ (by with_reducible assumption))); have y4mo := c4mo.size; have l4mo : Kf (w3.heap.size) a b (.slice ao3 n cap3) w4mo := Kf.call k9 c4mo; have ll4mo := l4mo.lt; have n4mo : K3 (w.heap.size + 1) (.bool tx) (.bool ty) (.int .i64 s) w4mo := K3.call M4 c4mo; have nl4mo := n4mo.lt)
            | (go_at_call 36; with_reducible refine (implMv_any a b (SRow.call x4.out (by repeat (first | with_reducible assumption | with_reducible exact Below.refl _ _ | with_reducible refine Below.drew ?_ | with_reducible refine Below.alloc ?_ (by first | omega | (simp <;> omega)) _ | with_reducible refine Below.setCell ?_ (by first | omega | (dsimp only; omega)) _ | with_reducible refine bstep ?_ (by with_reducible assumption)))) tx ty s).mono ?_; rintro e w4mv hh; unfold FAns at hh; obtain ⟨P5, Q5, m5, G5, c5, v5, hr5, rfl, rq5, hb4mv⟩ := hh; obtain ⟨ao5, cap5, rfl⟩ := rq5.slice; (try ((refine useIt (P := KF (w4.heap.size) 0 0 (.slice none 0 0) w4mv) ?_ ?_); (repeat (first | with_reducible assumption | (with_reducible exact KF.at _ (by first | with_reducible rfl | (simp; done))) | with_reducible refine Kf.drew ?_ | with_reducible refine K3.drew ?_ | with_reducible refine KF.drew ?_ | with_reducible refine Kf.alloc ?_ _ | with_reducible refine K3.alloc ?_ _ | with_reducible refine KF.alloc ?_ _ | with_reducible refine Kf.call ?_ (by with_reducible assumption) | with_reducible refine K3.call ?_ (by with_reducible assumption) | with_reducible refine KF.call ?_ (by with_reducible assumption) | ((with_reducible refine Kf.far ?_ ?_); (first | omega | (dsimp only; omega))) | ((with_reducible refine K3.far ?_ ?_); (first | omega | (dsimp only; omega))))); intro d4mv_4; have d4mv_4c0 := d4mv_4.c0; have d4mv_4c1 := d4mv_4.c1; have d4mv_4c2 := d4mv_4.c2; have d4mv_4f0 := d4mv_4.f0; have d4mv_4f1 := d4mv_4.f1; have d4mv_4f2 := d4mv_4.f2; have d4mv_4l := d4mv_4.lt)); (try ((refine useIt (P := KF (w4mo.heap.size) 0 0 (.slice none 0 0) w4mv) ?_ ?_); (repeat (first | with_reducible assumption | (with_reducible exact KF.at _ (by first | with_reducible rfl | (simp; done))) | with_reducible refine Kf.drew ?_ | with_reducible refine K3.drew ?_ | with_reducible refine KF.drew ?_ | with_reducible refine Kf.alloc ?_ _ | with_reducible refine K3.alloc ?_ _ | with_reducible refine KF.alloc ?_ _ | with_reducible refine Kf.call ?_ (by with_reducible assumption) | with_reducible refine K3.call ?_ (by with_reducible assumption) | with_reducible refine KF.call ?_ (by with_reducible assumption) | ((with_reducible refine Kf.far ?_ ?_); (first | omega | (dsimp only; omega))) | ((with_reducible refine K3.far ?_ ?_); (first | omega | (dsimp only; omega))))); intro d4mv_4mo; have d4mv_4moc0 := d4mv_4mo.c0; have d4mv_4moc1 := d4mv_4mo.c1; have d4mv_4moc2 := d4mv_4mo.c2; have d4mv_4mof0 := d4mv_4mo.f0; have d4mv_4mof1 := d4mv_4mo.f1; have d4mv_4mof2 := d4mv_4mo.f2; have d4mv_4mol := d4mv_4mo.lt)); (try ((refine useIt (P := KF (w4fr.heap.size) 0 0 (.slice none 0 0) w4mv) ?_ ?_); (repeat (first | with_reducible assumption | (with_reducible exact KF.at _ (by first | with_reducible rfl | (simp; done))) | with_reducible refine Kf.drew ?_ | with_reducible refine K3.drew ?_ | with_reducible refine KF.drew ?_ | with_reducible refine Kf.alloc ?_ _ | with_reducible refine K3.alloc ?_ _ | with_reducible refine KF.alloc ?_ _ | with_reducible refine Kf.call ?_ (by with_reducible assumption) | with_reducible refine K3.call ?_ (by with_reducible assumption) | with_reducible refine KF.call ?_ (by with_reducible assumption) | ((with_reducible refine Kf.far ?_ ?_); (first | omega | (dsimp only; omega))) | ((with_reducible refine K3.far ?_ ?_); (first | omega | (dsimp only; omega))))); intro d4mv_4fr; have d4mv_4frc0 := d4mv_4fr.c0; have d4mv_4frc1 := d4mv_4fr.c1; have d4mv_4frc2 := d4mv_4fr.c2; have d4mv_4frf0 := d4mv_4fr.f0; have d4mv_4frf1 := d4mv_4fr.f1; have d4mv_4frf2 := d4mv_4fr.f2; have d4mv_4frl := d4mv_4fr.lt)); have c4mv : Below w4.heap.size w4 w4mv := (by repeat (first | with_reducible assumption | with_reducible exact Below.refl _ _ | with_reducible refine Below.drew ?_ | with_reducible refine Below.alloc ?_ (by first | omega | (simp <;> omega)) _ | with_reducible refine Below.setCell ?_ (by first | omega | (dsimp only; omega)) _ | with_reducible refine bstep ?_ (by with_reducible assumption))); have y4mv := c4mv.size; have l4mv : Kf (w3.heap.size) a b (.slice ao3 n cap3) w4mv := Kf.call k9 c4mv; have ll4mv := l4mv.lt; have n4mv : K3 (w.heap.size + 1) (.bool tx) (.bool ty) (.int .i64 s) w4mv := K3.call M4 c4mv; have nl4mv := n4mv.lt; have rr5 : SRow w4.heap.size w4mv.heap.size 1 (.slice ao5 m5 cap5) m5 G5 w4mv := SRow.low rq5 (by first | omega | (simp <;> omega))))
        all_goals
          go_wp2_with fail
          go_meet
          exact ⟨_, _, _, _, _, _, _, _, hr5, rfl, rfl, (by first | (with_reducible exact KF.at _ (by first | with_reducible rfl | (simp; done) | fail)) | (with_reducible exact KF.store (by repeat (first | with_reducible assumption | (with_reducible exact KF.at _ (by first | with_reducible rfl | (simp; done))) | with_reducible refine Kf.drew ?_ | with_reducible refine K3.drew ?_ | with_reducible refine KF.drew ?_ | with_reducible refine Kf.alloc ?_ _ | with_reducible refine K3.alloc ?_ _ | with_reducible refine KF.alloc ?_ _ | with_reducible refine Kf.call ?_ (by with_reducible assumption) | with_reducible refine K3.call ?_ (by with_reducible assumption) | with_reducible refine KF.call ?_ (by with_reducible assumption) | ((with_reducible refine Kf.far ?_ ?_); (first | omega | (dsimp only; omega))) | ((with_reducible refine K3.far ?_ ?_); (first | omega | (dsimp only; omega))))) _ _ _) | fail), (by refine SRow.up (hi := w4mv.heap.size) ?_; repeat (first | with_reducible exact rr5 | with_reducible refine SRow.alloc8 ?_ _ | with_reducible refine SRow.drew8 ?_ | (with_reducible refine SRow.putO (rq5.off (by dsimp only; first | omega | exact Or.inl (lt_al _ _) | (have := d4mo_4.lt; first | omega | (simp <;> omega)) | (have := d4mo_4mo.lt; first | omega | (simp <;> omega)) | (have := d4mo_4fr.lt; first | omega | (simp <;> omega)) | (have := d4mv_4.lt; first | omega | (simp <;> omega)) | (have := d4mv_4mo.lt; first | omega | (simp <;> omega)) | (have := d4mv_4fr.lt; first | omega | (simp <;> omega)) | (have := d4fr_4.lt; first | omega | (simp <;> omega)) | (have := d4fr_4mo.lt; first | omega | (simp <;> omega)) | (have := d4fr_4fr.lt; first | omega | (simp <;> omega)))) _ ?_))), (by first | omega | (simp <;> omega)), rq5.off (by first | omega | exact Or.inl (lt_al _ _) | (simp <;> omega) | (have := d4mo_4.lt; first | omega | (simp <;> omega)) | (have := d4mo_4mo.lt; first | omega | (simp <;> omega)) | (have := d4mo_4fr.lt; first | omega | (simp <;> omega)) | (have := d4mv_4.lt; first | omega | (simp <;> omega)) | (have := d4mv_4mo.lt; first | omega | (simp <;> omega)) | (have := d4mv_4fr.lt; first | omega | (simp <;> omega)) | (have := d4fr_4.lt; first | omega | (simp <;> omega)) | (have := d4fr_4mo.lt; first | omega | (simp <;> omega)) | (have := d4fr_4fr.lt; first | omega | (simp <;> omega))), (by repeat (first | with_reducible assumption | with_reducible exact Below.refl _ _ | with_reducible refine Below.drew ?_ | with_reducible refine Below.alloc ?_ (by first | omega | (simp <;> omega)) _ | with_reducible refine Below.setCell ?_ (by first | omega | (dsimp only; omega)) _ | with_reducible refine bstep ?_ (by with_reducible assumption)))⟩
      case rest =>
        obtain ⟨bx5, P5, Q5, m5, G5, c5, ao5, cap5, hr5, rfl, rfl, KD5, rq5, hl5, ho5, hb5⟩ := hcut
        obtain ⟨w5, hw5⟩ : ∃ z, z = wc := ⟨_, rfl⟩
        subst hw5
        obtain ⟨rfl, rfl, rfl, rfl, rfl⟩ : P2 = P5 ∧ Q2 = Q5 ∧ m2 = m5 ∧ G2 = G5 ∧ c2 = c5 := by have h9 := HP.out.symm.trans hr5; simpa using h9
        clear hr5
        have Kb5 : Kf (w.heap.size) a b (.slice ao n cap) w5 := Kf.call Kb4 hb5
        have Y5 : Kf (bx2) P2 Q2 (.slice ao2 m2 cap2) w5 := Kf.call Y4 hb5
        have X5 : Kf (w3.heap.size) a b (.slice ao3 n cap3) w5 := Kf.call X4 hb5
        have M5 : K3 (w.heap.size + 1) (.bool tx) (.bool ty) (.int .i64 s) w5 := K3.call M4 hb5
        have B5 : Below w.heap.size w w5 := bstep B4 hb5
        have A5 := Lib.hid (HA.out.call B5)
        have z5 : w4.heap.size ≤ w5.heap.size := hb5.size
        have y5 := Lib.hid (SRow.call y4.out hb5)
        have x5 := Lib.hid (SRow.call x4.out hb5)
        clear Kb4 Y4 X4 M4 B4 A4 y4 x4 X4c0 X4c1 X4c2 X4l M4c0 M4c1 M4c2 M4l hb5
        have g5 := Lib.hid rq5
        clear rq5
        have G5 := KF.kf KD5
        have bl5 := KD5.lt
        clear KD5
        have HO5 := Lib.hid ho5
        clear ho5
        have G5c0 := G5.c0
        have G5c1 := G5.c1
        have G5c2 := G5.c2
        have G5l := G5.lt
        have Y5c0 := Y5.c0
        have Y5c1 := Y5.c1
        have Y5c2 := Y5.c2
        have Y5l := Y5.lt
        go_wp2_with fail
        with_reducible refine (eqFr_any P2 Q2 g5.out y5.out).mono ?_
        rintro e w6 ⟨rfl, hb6⟩
        have Kb6 : Kf (w.heap.size) a b (.slice ao n cap) w6 := Kf.call Kb5 hb6
        have Y6 : Kf (bx2) P2 Q2 (.slice ao2 m2 cap2) w6 := Kf.call Y5 hb6
        have X6 : Kf (w3.heap.size) a b (.slice ao3 n cap3) w6 := Kf.call X5 hb6
        have G6 : Kf (bx5) P2 Q2 (.slice ao5 m2 cap5) w6 := Kf.call G5 hb6
        have M6 : K3 (w.heap.size + 1) (.bool tx) (.bool ty) (.int .i64 s) w6 := K3.call M5 hb6
        have B6 : Below w.heap.size w w6 := bstep B5 hb6
        have A6 := Lib.hid (HA.out.call B6)
        have z6 : w5.heap.size ≤ w6.heap.size := hb6.size
        have y6 := Lib.hid (SRow.call y5.out hb6)
        have x6 := Lib.hid (SRow.call x5.out hb6)
        have g6 := Lib.hid (SRow.call g5.out hb6)
        clear Kb5 Y5 X5 G5 M5 B5 A5 y5 x5 g5 G5c0 G5c1 G5c2 G5l Y5c0 Y5c1 Y5c2 Y5l hb6
        have Kb6c0 := Kb6.c0
        have Kb6c1 := Kb6.c1
        have Kb6c2 := Kb6.c2
        have Kb6l := Kb6.lt
        have X6c0 := X6.c0
        have X6c1 := X6.c1
        have X6c2 := X6.c2
        have X6l := X6.lt
        go_wp2_with fail
        go_region_held3 (fun W => (W.cell? ⟨w.heap.size, 0, none⟩ = some (.int .i64 a) ∧ W.cell? ⟨w.heap.size, 1, none⟩ = some (.int .i64 b) ∧ W.cell? ⟨w.heap.size, 2, none⟩ = some (.slice ao n cap)) ∧ (W.cell? ⟨w3.heap.size, 0, none⟩ = some (.int .i64 a) ∧ W.cell? ⟨w3.heap.size, 1, none⟩ = some (.int .i64 b) ∧ W.cell? ⟨w3.heap.size, 2, none⟩ = some (.slice ao3 n cap3))) ((refine And.intro (Kf.cells ?_) (Kf.cells ?_)) <;> (repeat (first | with_reducible assumption | (with_reducible exact KF.at _ (by first | with_reducible rfl | (simp; done))) | with_reducible refine Kf.drew ?_ | with_reducible refine K3.drew ?_ | with_reducible refine KF.drew ?_ | with_reducible refine Kf.alloc ?_ _ | with_reducible refine K3.alloc ?_ _ | with_reducible refine KF.alloc ?_ _ | with_reducible refine Kf.call ?_ (by with_reducible assumption) | with_reducible refine K3.call ?_ (by with_reducible assumption) | with_reducible refine KF.call ?_ (by with_reducible assumption) | ((with_reducible refine Kf.far ?_ ?_); (first | omega | (dsimp only; omega))) | ((with_reducible refine K3.far ?_ ?_); (first | omega | (dsimp only; omega))))))
          (first
            | (go_at_call 16; with_reducible refine (toFr_any a b (A6.out.call (by repeat (first | with_reducible assumption | with_reducible exact Below.refl _ _ | with_reducible refine Below.drew ?_ | with_reducible refine Below.alloc ?_ (by first | omega | (simp <;> omega)) _ | with_reducible refine Below.setCell ?_ (by first | omega | (dsimp only; omega)) _ | with_reducible refine bstep ?_ (by with_reducible assumption)))) HN.out).mono ?_; rintro e w7 ⟨v7, rfl, s7, hb7⟩; have c7 : Below w6.heap.size w6 w7 := (by repeat (first | with_reducible assumption | with_reducible exact Below.refl _ _ | with_reducible refine Below.drew ?_ | with_reducible refine Below.alloc ?_ (by first | omega | (simp <;> omega)) _ | with_reducible refine Below.setCell ?_ (by first | omega | (dsimp only; omega)) _ | with_reducible refine bstep ?_ (by with_reducible assumption))); have k97 := Kf.call Kb6 c7; have x97 := Kf.call X6 c7)
            | (go_at_call 18; with_reducible refine (eqFr_any a b (SRow.call x6.out (by repeat (first | with_reducible assumption | with_reducible exact Below.refl _ _ | with_reducible refine Below.drew ?_ | with_reducible refine Below.alloc ?_ (by first | omega | (simp <;> omega)) _ | with_reducible refine Below.setCell ?_ (by first | omega | (dsimp only; omega)) _ | with_reducible refine bstep ?_ (by with_reducible assumption)))) (SRow.call s7 (by repeat (first | with_reducible assumption | with_reducible exact Below.refl _ _ | with_reducible refine Below.drew ?_ | with_reducible refine Below.alloc ?_ (by first | omega | (simp <;> omega)) _ | with_reducible refine Below.setCell ?_ (by first | omega | (dsimp only; omega)) _ | with_reducible refine bstep ?_ (by with_reducible assumption))))).mono ?_; rintro e w8 ⟨rfl, hb8⟩; have c8 : Below w6.heap.size w6 w8 := (by repeat (first | with_reducible assumption | with_reducible exact Below.refl _ _ | with_reducible refine Below.drew ?_ | with_reducible refine Below.alloc ?_ (by first | omega | (simp <;> omega)) _ | with_reducible refine Below.setCell ?_ (by first | omega | (dsimp only; omega)) _ | with_reducible refine bstep ?_ (by with_reducible assumption)))))
        all_goals
          have Kb8 : Kf (w.heap.size) a b (.slice ao n cap) w8 := Kf.call Kb6 c8
          have Y8 : Kf (bx2) P2 Q2 (.slice ao2 m2 cap2) w8 := Kf.call Y6 c8
          have X8 : Kf (w3.heap.size) a b (.slice ao3 n cap3) w8 := Kf.call X6 c8
          have G8 : Kf (bx5) P2 Q2 (.slice ao5 m2 cap5) w8 := Kf.call G6 c8
          have M8 : K3 (w.heap.size + 1) (.bool tx) (.bool ty) (.int .i64 s) w8 := K3.call M6 c8
          have B8 : Below w.heap.size w w8 := bstep B6 c8
          have A8 := Lib.hid (HA.out.call B8)
          have z8 : w6.heap.size ≤ w8.heap.size := c8.size
          have y8 := Lib.hid (SRow.call y6.out c8)
          have x8 := Lib.hid (SRow.call x6.out c8)
          have g8 := Lib.hid (SRow.call g6.out c8)
          clear Kb6 Y6 X6 G6 M6 B6 A6 s7 hb7 c7 hb8 c8 k97 x97 y6 x6 g6 Kb6c0 Kb6c1 Kb6c2 Kb6l X6c0 X6c1 X6c2 X6l
          have X8c0 := X8.c0
          have X8c1 := X8.c1
          have X8c2 := X8.c2
          have X8l := X8.lt
          go_wp2_with fail
          with_reducible refine (markFr_any a b x8.out (by omega)).mono ?_
          rintro e w9 ⟨rfl, rm9, hb9, hk9⟩
          have z9 : w8.heap.size ≤ w9.heap.size := hb9.size
          have Kb9 : Kf (w.heap.size) a b (.slice ao n cap) w9 := Kf.keepV Kb8 hk9 (SRow.off x8.out (by omega)) z9
          have Y9 : Kf (bx2) P2 Q2 (.slice ao2 m2 cap2) w9 := Kf.keepV Y8 hk9 (SRow.off x8.out (by omega)) z9
          have X9 : Kf (w3.heap.size) a b (.slice ao3 n cap3) w9 := Kf.keepV X8 hk9 (SRow.off x8.out (by omega)) z9
          have G9 : Kf (bx5) P2 Q2 (.slice ao5 m2 cap5) w9 := Kf.keepV G8 hk9 (SRow.off x8.out (by omega)) z9
          have M9 : K3 (w.heap.size + 1) (.bool tx) (.bool ty) (.int .i64 s) w9 := M8.grow hb9 (by omega)
          have B9 : Below w.heap.size w w9 := B8.trans (hb9.mono (by omega))
          have A9 := Lib.hid (HA.out.call B9)
          have y9 := Lib.hid (SRow.keepV y8.out hk9 (fun b9 h8 h9 => SRow.off x8.out (by omega)) z9)
          have g9 := Lib.hid (SRow.keepV g8.out hk9 (fun b9 h8 h9 => SRow.off x8.out (by omega)) z9)
          have x9 := Lib.hid rm9
          clear rm9 hb9 hk9 Kb8 Y8 X8 G8 M8 B8 A8 y8 x8 g8 X8c0 X8c1 X8c2 X8l
          clear x9
          clear X9
          have hk9 : ¬ ((n : Int) * 1 + 1 < 0) := by omega
          have G9c0 := G9.c0
          have G9c1 := G9.c1
          have G9c2 := G9.c2
          have G9l := G9.lt
          have Y9c0 := Y9.c0
          have Y9c1 := Y9.c1
          have Y9c2 := Y9.c2
          have Y9l := Y9.lt
          go_wp2_with fail
          with_reducible refine (eqFr_any P2 Q2 g9.out y9.out).mono ?_
          rintro e w10 ⟨rfl, hb10⟩
          have Kb10 : Kf (w.heap.size) a b (.slice ao n cap) w10 := Kf.call Kb9 hb10
          have Y10 : Kf (bx2) P2 Q2 (.slice ao2 m2 cap2) w10 := Kf.call Y9 hb10
          have G10 : Kf (bx5) P2 Q2 (.slice ao5 m2 cap5) w10 := Kf.call G9 hb10
          have M10 : K3 (w.heap.size + 1) (.bool tx) (.bool ty) (.int .i64 s) w10 := K3.call M9 hb10
          have B10 : Below w.heap.size w w10 := bstep B9 hb10
          have A10 := Lib.hid (HA.out.call B10)
          have z10 : w9.heap.size ≤ w10.heap.size := hb10.size
          have y10 := Lib.hid (SRow.call y9.out hb10)
          have g10 := Lib.hid (SRow.call g9.out hb10)
          clear Kb9 Y9 G9 M9 B9 A9 y9 g9 G9c0 G9c1 G9c2 G9l Y9c0 Y9c1 Y9c2 Y9l hb10
          have G10c0 := G10.c0
          have G10c1 := G10.c1
          have G10c2 := G10.c2
          have G10l := G10.lt
          go_wp2_with fail
          with_reducible refine (markFr_any P2 Q2 g10.out (by omega)).mono ?_
          rintro e w11 ⟨rfl, rm11, hb11, hk11⟩
          have z11 : w10.heap.size ≤ w11.heap.size := hb11.size
          have Kb11 : Kf (w.heap.size) a b (.slice ao n cap) w11 := Kf.keepV Kb10 hk11 (SRow.off g10.out (by omega)) z11
          have Y11 : Kf (bx2) P2 Q2 (.slice ao2 m2 cap2) w11 := Kf.keepV Y10 hk11 (SRow.off g10.out (by omega)) z11
          have G11 : Kf (bx5) P2 Q2 (.slice ao5 m2 cap5) w11 := Kf.keepV G10 hk11 HO5.out z11
          have M11 : K3 (w.heap.size + 1) (.bool tx) (.bool ty) (.int .i64 s) w11 := M10.grow hb11 (by omega)
          have B11 : Below w.heap.size w w11 := B10.trans (hb11.mono (by omega))
          have A11 := Lib.hid (HA.out.call B11)
          have y11 := Lib.hid (SRow.keepV y10.out hk11 (fun b9 h8 h9 => SRow.off g10.out (by omega)) z11)
          have g11 := Lib.hid rm11
          clear rm11 hb11 hk11 Kb10 Y10 G10 M10 B10 A10 y10 g10 G10c0 G10c1 G10c2 G10l
          have hk8 : ¬ ((m2 : Int) * 1 + 1 < 0) := by have := g11.out.2.1; omega
          have hq8 : (((m2 : Int) * 1 + 1) != (m2 : Int) * 1 + 1) = false := by simp
          have hm8 : (m2 : Int) ≤ 2000000 := by have := g11.out.2.1; omega
          have G11c0 := G11.c0
          have G11c1 := G11.c1
          have G11c2 := G11.c2
          have G11l := G11.lt
          go_wp2_with fail
          with_reducible refine (heldFr_any P2 Q2 g11.out).mono ?_
          rintro e w12 ⟨rfl, hb12⟩
          have Kb12 : Kf (w.heap.size) a b (.slice ao n cap) w12 := Kf.call Kb11 hb12
          have Y12 : Kf (bx2) P2 Q2 (.slice ao2 m2 cap2) w12 := Kf.call Y11 hb12
          have G12 : Kf (bx5) P2 Q2 (.slice ao5 m2 cap5) w12 := Kf.call G11 hb12
          have M12 : K3 (w.heap.size + 1) (.bool tx) (.bool ty) (.int .i64 s) w12 := K3.call M11 hb12
          have B12 : Below w.heap.size w w12 := bstep B11 hb12
          have A12 := Lib.hid (HA.out.call B12)
          have z12 : w11.heap.size ≤ w12.heap.size := hb12.size
          have y12 := Lib.hid (SRow.call y11.out hb12)
          have g12 := Lib.hid (SRow.call g11.out hb12)
          clear Kb11 Y11 G11 M11 B11 A11 y11 g11 G11c0 G11c1 G11c2 G11l hb12
          have Kb12c0 := Kb12.c0
          have Kb12c1 := Kb12.c1
          have Kb12c2 := Kb12.c2
          have Kb12l := Kb12.lt
          have M12c0 := M12.c0
          have M12c1 := M12.c1
          have M12c2 := M12.c2
          have M12l := M12.lt
          go_upto_region 1 with fail
          go_cut [14, 15] (fun s6 s7 wx => McX (mvA a b n F tx ty s) w12 s6 s7 wx)
          case first =>
            have k9 : Kf (w.heap.size) a b (.slice ao n cap) w12 := Kb12
            go_region_held3 (fun W => (W.cell? ⟨w.heap.size, 0, none⟩ = some (.int .i64 a) ∧ W.cell? ⟨w.heap.size, 1, none⟩ = some (.int .i64 b) ∧ W.cell? ⟨w.heap.size, 2, none⟩ = some (.slice ao n cap)) ∧ (W.cell? ⟨w.heap.size + 1, 0, none⟩ = some (.bool tx) ∧ W.cell? ⟨w.heap.size + 1, 1, none⟩ = some (.bool ty) ∧ W.cell? ⟨w.heap.size + 1, 2, none⟩ = some (.int .i64 s))) ((refine And.intro (Kf.cells ?_) (K3.cells ?_)) <;> (repeat (first | with_reducible assumption | (with_reducible exact KF.at _ (by first | with_reducible rfl | (simp; done))) | with_reducible refine Kf.drew ?_ | with_reducible refine K3.drew ?_ | with_reducible refine KF.drew ?_ | with_reducible refine Kf.alloc ?_ _ | with_reducible refine K3.alloc ?_ _ | with_reducible refine KF.alloc ?_ _ | with_reducible refine Kf.call ?_ (by with_reducible assumption) | with_reducible refine K3.call ?_ (by with_reducible assumption) | with_reducible refine KF.call ?_ (by with_reducible assumption) | ((with_reducible refine Kf.far ?_ ?_); (first | omega | (dsimp only; omega))) | ((with_reducible refine K3.far ?_ ?_); (first | omega | (dsimp only; omega))))))
              (first
                | (go_at_call 16; with_reducible refine (toFr_any a b (A12.out.call (by repeat (first | with_reducible assumption | with_reducible exact Below.refl _ _ | with_reducible refine Below.drew ?_ | with_reducible refine Below.alloc ?_ (by first | omega | (simp <;> omega)) _ | with_reducible refine Below.setCell ?_ (by first | omega | (dsimp only; omega)) _ | with_reducible refine bstep ?_ (by with_reducible assumption)))) HN.out).mono ?_; rintro e w12fr ⟨v12fr, rfl, r12fr, hb12fr⟩; obtain ⟨ao12fr, cap12fr, rfl⟩ := r12fr.slice; (try ((refine useIt (P := KF (w12.heap.size) 0 0 (.slice none 0 0) w12fr) ?_ ?_); (repeat (first | with_reducible assumption | (with_reducible exact KF.at _ (by first | with_reducible rfl | (simp; done))) | with_reducible refine Kf.drew ?_ | with_reducible refine K3.drew ?_ | with_reducible refine KF.drew ?_ | with_reducible refine Kf.alloc ?_ _ | with_reducible refine K3.alloc ?_ _ | with_reducible refine KF.alloc ?_ _ | with_reducible refine Kf.call ?_ (by with_reducible assumption) | with_reducible refine K3.call ?_ (by with_reducible assumption) | with_reducible refine KF.call ?_ (by with_reducible assumption) | ((with_reducible refine Kf.far ?_ ?_); (first | omega | (dsimp only; omega))) | ((with_reducible refine K3.far ?_ ?_); (first | omega | (dsimp only; omega))))); intro d12fr_12; have d12fr_12c0 := d12fr_12.c0; have d12fr_12c1 := d12fr_12.c1; have d12fr_12c2 := d12fr_12.c2; have d12fr_12f0 := d12fr_12.f0; have d12fr_12f1 := d12fr_12.f1; have d12fr_12f2 := d12fr_12.f2; have d12fr_12l := d12fr_12.lt)); (try ((refine useIt (P := KF (w12mo.heap.size) 0 0 (.slice none 0 0) w12fr) ?_ ?_); (repeat (first | with_reducible assumption | (with_reducible exact KF.at _ (by first | with_reducible rfl | (simp; done))) | with_reducible refine Kf.drew ?_ | with_reducible refine K3.drew ?_ | with_reducible refine KF.drew ?_ | with_reducible refine Kf.alloc ?_ _ | with_reducible refine K3.alloc ?_ _ | with_reducible refine KF.alloc ?_ _ | with_reducible refine Kf.call ?_ (by with_reducible assumption) | with_reducible refine K3.call ?_ (by with_reducible assumption) | with_reducible refine KF.call ?_ (by with_reducible assumption) | ((with_reducible refine Kf.far ?_ ?_); (first | omega | (dsimp only; omega))) | ((with_reducible refine K3.far ?_ ?_); (first | omega | (dsimp only; omega))))); intro d12fr_12mo; have d12fr_12moc0 := d12fr_12mo.c0; have d12fr_12moc1 := d12fr_12mo.c1; have d12fr_12moc2 := d12fr_12mo.c2; have d12fr_12mof0 := d12fr_12mo.f0; have d12fr_12mof1 := d12fr_12mo.f1; have d12fr_12mof2 := d12fr_12mo.f2; have d12fr_12mol := d12fr_12mo.lt)); have c12fr : Below w12.heap.size w12 w12fr := (by repeat (first | with_reducible assumption | with_reducible exact Below.refl _ _ | with_reducible refine Below.drew ?_ | with_reducible refine Below.alloc ?_ (by first | omega | (simp <;> omega)) _ | with_reducible refine Below.setCell ?_ (by first | omega | (dsimp only; omega)) _ | with_reducible refine bstep ?_ (by with_reducible assumption))); have y12fr := c12fr.size; have l12fr : Kf (w.heap.size) a b (.slice ao n cap) w12fr := Kf.call k9 c12fr; have ll12fr := l12fr.lt; have n12fr : K3 (w.heap.size + 1) (.bool tx) (.bool ty) (.int .i64 s) w12fr := K3.call M12 c12fr; have nl12fr := n12fr.lt)
                | (go_at_call 35; with_reducible refine (toFm_any _ _ _ _).mono ?_; rintro e w12mo ⟨rfl, hb12mo⟩; (try ((refine useIt (P := KF (w12.heap.size) 0 0 (.slice none 0 0) w12mo) ?_ ?_); (repeat (first | with_reducible assumption | (with_reducible exact KF.at _ (by first | with_reducible rfl | (simp; done))) | with_reducible refine Kf.drew ?_ | with_reducible refine K3.drew ?_ | with_reducible refine KF.drew ?_ | with_reducible refine Kf.alloc ?_ _ | with_reducible refine K3.alloc ?_ _ | with_reducible refine KF.alloc ?_ _ | with_reducible refine Kf.call ?_ (by with_reducible assumption) | with_reducible refine K3.call ?_ (by with_reducible assumption) | with_reducible refine KF.call ?_ (by with_reducible assumption) | ((with_reducible refine Kf.far ?_ ?_); (first | omega | (dsimp only; omega))) | ((with_reducible refine K3.far ?_ ?_); (first | omega | (dsimp only; omega))))); intro d12mo_12; have d12mo_12c0 := d12mo_12.c0; have d12mo_12c1 := d12mo_12.c1; have d12mo_12c2 := d12mo_12.c2; have d12mo_12f0 := d12mo_12.f0; have d12mo_12f1 := d12mo_12.f1; have d12mo_12f2 := d12mo_12.f2; have d12mo_12l := d12mo_12.lt)); (try ((refine useIt (P := KF (w12fr.heap.size) 0 0 (.slice none 0 0) w12mo) ?_ ?_); (repeat (first | with_reducible assumption | (with_reducible exact KF.at _ (by first | with_reducible rfl | (simp; done))) | with_reducible refine Kf.drew ?_ | with_reducible refine K3.drew ?_ | with_reducible refine KF.drew ?_ | with_reducible refine Kf.alloc ?_ _ | with_reducible refine K3.alloc ?_ _ | with_reducible refine KF.alloc ?_ _ | with_reducible refine Kf.call ?_ (by with_reducible assumption) | with_reducible refine K3.call ?_ (by with_reducible assumption) | with_reducible refine KF.call ?_ (by with_reducible assumption) | ((with_reducible refine Kf.far ?_ ?_); (first | omega | (dsimp only; omega))) | ((with_reducible refine K3.far ?_ ?_); (first | omega | (dsimp only; omega))))); intro d12mo_12fr; have d12mo_12frc0 := d12mo_12fr.c0; have d12mo_12frc1 := d12mo_12fr.c1; have d12mo_12frc2 := d12mo_12fr.c2; have d12mo_12frf0 := d12mo_12fr.f0; have d12mo_12frf1 := d12mo_12fr.f1; have d12mo_12frf2 := d12mo_12fr.f2; have d12mo_12frl := d12mo_12fr.lt)); (try ((refine useIt (P := Below w12fr.heap.size w12fr w12mo) ?_ ?_); (with_reducible exact bstep (by repeat (first | with_reducible assumption | with_reducible exact Below.refl _ _ | with_reducible refine Below.drew ?_ | with_reducible refine Below.alloc ?_ (by first | omega | (simp <;> omega)) _ | with_reducible refine Below.setCell ?_ (by first | omega | (dsimp only; omega)) _ | with_reducible refine bstep ?_ (by with_reducible assumption))) hb12mo); intro e12mo; have ye12mo := e12mo.size)); have c12mo : Below w12.heap.size w12 w12mo := (by repeat (first | with_reducible assumption | with_reducible exact Below.refl _ _ | with_reducible refine Below.drew ?_ | with_reducible refine Below.alloc ?_ (by first | omega | (simp <;> omega)) _ | with_reducible refine Below.setCell ?_ (by first | omega | (dsimp only; omega)) _ | with_reducible refine bstep ?_ (by with_reducible assumption))); have y12mo := c12mo.size; have l12mo : Kf (w.heap.size) a b (.slice ao n cap) w12mo := Kf.call k9 c12mo; have ll12mo := l12mo.lt; have n12mo : K3 (w.heap.size + 1) (.bool tx) (.bool ty) (.int .i64 s) w12mo := K3.call M12 c12mo; have nl12mo := n12mo.lt)
                | (go_at_call 36; with_reducible refine (implMv_any a b (SRow.call r12fr (by repeat (first | with_reducible assumption | with_reducible exact Below.refl _ _ | with_reducible refine Below.drew ?_ | with_reducible refine Below.alloc ?_ (by first | omega | (simp <;> omega)) _ | with_reducible refine Below.setCell ?_ (by first | omega | (dsimp only; omega)) _ | with_reducible refine bstep ?_ (by with_reducible assumption)))) tx ty s).mono ?_; rintro e w12mv hh; unfold FAns at hh; obtain ⟨P13, Q13, m13, G13, c13, v13, hr13, rfl, rq13, hb12mv⟩ := hh; obtain ⟨ao13, cap13, rfl⟩ := rq13.slice; (try ((refine useIt (P := KF (w12.heap.size) 0 0 (.slice none 0 0) w12mv) ?_ ?_); (repeat (first | with_reducible assumption | (with_reducible exact KF.at _ (by first | with_reducible rfl | (simp; done))) | with_reducible refine Kf.drew ?_ | with_reducible refine K3.drew ?_ | with_reducible refine KF.drew ?_ | with_reducible refine Kf.alloc ?_ _ | with_reducible refine K3.alloc ?_ _ | with_reducible refine KF.alloc ?_ _ | with_reducible refine Kf.call ?_ (by with_reducible assumption) | with_reducible refine K3.call ?_ (by with_reducible assumption) | with_reducible refine KF.call ?_ (by with_reducible assumption) | ((with_reducible refine Kf.far ?_ ?_); (first | omega | (dsimp only; omega))) | ((with_reducible refine K3.far ?_ ?_); (first | omega | (dsimp only; omega))))); intro d12mv_12; have d12mv_12c0 := d12mv_12.c0; have d12mv_12c1 := d12mv_12.c1; have d12mv_12c2 := d12mv_12.c2; have d12mv_12f0 := d12mv_12.f0; have d12mv_12f1 := d12mv_12.f1; have d12mv_12f2 := d12mv_12.f2; have d12mv_12l := d12mv_12.lt)); (try ((refine useIt (P := KF (w12mo.heap.size) 0 0 (.slice none 0 0) w12mv) ?_ ?_); (repeat (first | with_reducible assumption | (with_reducible exact KF.at _ (by first | with_reducible rfl | (simp; done))) | with_reducible refine Kf.drew ?_ | with_reducible refine K3.drew ?_ | with_reducible refine KF.drew ?_ | with_reducible refine Kf.alloc ?_ _ | with_reducible refine K3.alloc ?_ _ | with_reducible refine KF.alloc ?_ _ | with_reducible refine Kf.call ?_ (by with_reducible assumption) | with_reducible refine K3.call ?_ (by with_reducible assumption) | with_reducible refine KF.call ?_ (by with_reducible assumption) | ((with_reducible refine Kf.far ?_ ?_); (first | omega | (dsimp only; omega))) | ((with_reducible refine K3.far ?_ ?_); (first | omega | (dsimp only; omega))))); intro d12mv_12mo; have d12mv_12moc0 := d12mv_12mo.c0; have d12mv_12moc1 := d12mv_12mo.c1; have d12mv_12moc2 := d12mv_12mo.c2; have d12mv_12mof0 := d12mv_12mo.f0; have d12mv_12mof1 := d12mv_12mo.f1; have d12mv_12mof2 := d12mv_12mo.f2; have d12mv_12mol := d12mv_12mo.lt)); (try ((refine useIt (P := KF (w12fr.heap.size) 0 0 (.slice none 0 0) w12mv) ?_ ?_); (repeat (first | with_reducible assumption | (with_reducible exact KF.at _ (by first | with_reducible rfl | (simp; done))) | with_reducible refine Kf.drew ?_ | with_reducible refine K3.drew ?_ | with_reducible refine KF.drew ?_ | with_reducible refine Kf.alloc ?_ _ | with_reducible refine K3.alloc ?_ _ | with_reducible refine KF.alloc ?_ _ | with_reducible refine Kf.call ?_ (by with_reducible assumption) | with_reducible refine K3.call ?_ (by with_reducible assumption) | with_reducible refine KF.call ?_ (by with_reducible assumption) | ((with_reducible refine Kf.far ?_ ?_); (first | omega | (dsimp only; omega))) | ((with_reducible refine K3.far ?_ ?_); (first | omega | (dsimp only; omega))))); intro d12mv_12fr; have d12mv_12frc0 := d12mv_12fr.c0; have d12mv_12frc1 := d12mv_12fr.c1; have d12mv_12frc2 := d12mv_12fr.c2; have d12mv_12frf0 := d12mv_12fr.f0; have d12mv_12frf1 := d12mv_12fr.f1; have d12mv_12frf2 := d12mv_12fr.f2; have d12mv_12frl := d12mv_12fr.lt)); have c12mv : Below w12.heap.size w12 w12mv := (by repeat (first | with_reducible assumption | with_reducible exact Below.refl _ _ | with_reducible refine Below.drew ?_ | with_reducible refine Below.alloc ?_ (by first | omega | (simp <;> omega)) _ | with_reducible refine Below.setCell ?_ (by first | omega | (dsimp only; omega)) _ | with_reducible refine bstep ?_ (by with_reducible assumption))); have y12mv := c12mv.size; have l12mv : Kf (w.heap.size) a b (.slice ao n cap) w12mv := Kf.call k9 c12mv; have ll12mv := l12mv.lt; have n12mv : K3 (w.heap.size + 1) (.bool tx) (.bool ty) (.int .i64 s) w12mv := K3.call M12 c12mv; have nl12mv := n12mv.lt; have rr13 : SRow w12.heap.size w12mv.heap.size 1 (.slice ao13 m13 cap13) m13 G13 w12mv := SRow.low rq13 (by first | omega | (simp <;> omega))))
            all_goals
              go_wp2_with fail
              go_meet
              exact ⟨_, _, _, _, _, _, _, _, hr13, rfl, rfl, (by first | (with_reducible exact KF.at _ (by first | with_reducible rfl | (simp; done) | fail)) | (with_reducible exact KF.store (by repeat (first | with_reducible assumption | (with_reducible exact KF.at _ (by first | with_reducible rfl | (simp; done))) | with_reducible refine Kf.drew ?_ | with_reducible refine K3.drew ?_ | with_reducible refine KF.drew ?_ | with_reducible refine Kf.alloc ?_ _ | with_reducible refine K3.alloc ?_ _ | with_reducible refine KF.alloc ?_ _ | with_reducible refine Kf.call ?_ (by with_reducible assumption) | with_reducible refine K3.call ?_ (by with_reducible assumption) | with_reducible refine KF.call ?_ (by with_reducible assumption) | ((with_reducible refine Kf.far ?_ ?_); (first | omega | (dsimp only; omega))) | ((with_reducible refine K3.far ?_ ?_); (first | omega | (dsimp only; omega))))) _ _ _) | fail), (by refine SRow.up (hi := w12mv.heap.size) ?_; repeat (first | with_reducible exact rr13 | with_reducible refine SRow.alloc8 ?_ _ | with_reducible refine SRow.drew8 ?_ | (with_reducible refine SRow.putO (rq13.off (by dsimp only; first | omega | exact Or.inl (lt_al _ _) | (have := d12mo_12.lt; first | omega | (simp <;> omega)) | (have := d12mo_12mo.lt; first | omega | (simp <;> omega)) | (have := d12mo_12fr.lt; first | omega | (simp <;> omega)) | (have := d12mv_12.lt; first | omega | (simp <;> omega)) | (have := d12mv_12mo.lt; first | omega | (simp <;> omega)) | (have := d12mv_12fr.lt; first | omega | (simp <;> omega)) | (have := d12fr_12.lt; first | omega | (simp <;> omega)) | (have := d12fr_12mo.lt; first | omega | (simp <;> omega)) | (have := d12fr_12fr.lt; first | omega | (simp <;> omega)))) _ ?_))), (by first | omega | (simp <;> omega)), rq13.off (by first | omega | exact Or.inl (lt_al _ _) | (simp <;> omega) | (have := d12mo_12.lt; first | omega | (simp <;> omega)) | (have := d12mo_12mo.lt; first | omega | (simp <;> omega)) | (have := d12mo_12fr.lt; first | omega | (simp <;> omega)) | (have := d12mv_12.lt; first | omega | (simp <;> omega)) | (have := d12mv_12mo.lt; first | omega | (simp <;> omega)) | (have := d12mv_12fr.lt; first | omega | (simp <;> omega)) | (have := d12fr_12.lt; first | omega | (simp <;> omega)) | (have := d12fr_12mo.lt; first | omega | (simp <;> omega)) | (have := d12fr_12fr.lt; first | omega | (simp <;> omega))), (by repeat (first | with_reducible assumption | with_reducible exact Below.refl _ _ | with_reducible refine Below.drew ?_ | with_reducible refine Below.alloc ?_ (by first | omega | (simp <;> omega)) _ | with_reducible refine Below.setCell ?_ (by first | omega | (dsimp only; omega)) _ | with_reducible refine bstep ?_ (by with_reducible assumption)))⟩
          case rest =>
            obtain ⟨bx13, P13, Q13, m13, G13, c13, ao13, cap13, hr13, rfl, rfl, KD13, rq13, hl13, ho13, hb13⟩ := hcut
            obtain ⟨w13, hw13⟩ : ∃ z, z = wc := ⟨_, rfl⟩
            subst hw13
            obtain ⟨rfl, rfl, rfl, rfl, rfl⟩ : P2 = P13 ∧ Q2 = Q13 ∧ m2 = m13 ∧ G2 = G13 ∧ c2 = c13 := by have h9 := HP.out.symm.trans hr13; simpa using h9
            clear hr13
            have Kb13 : Kf (w.heap.size) a b (.slice ao n cap) w13 := Kf.call Kb12 hb13
            have Y13 : Kf (bx2) P2 Q2 (.slice ao2 m2 cap2) w13 := Kf.call Y12 hb13
            have G13 : Kf (bx5) P2 Q2 (.slice ao5 m2 cap5) w13 := Kf.call G12 hb13
            have M13 : K3 (w.heap.size + 1) (.bool tx) (.bool ty) (.int .i64 s) w13 := K3.call M12 hb13
            have B13 : Below w.heap.size w w13 := bstep B12 hb13
            have A13 := Lib.hid (HA.out.call B13)
            have z13 : w12.heap.size ≤ w13.heap.size := hb13.size
            have y13 := Lib.hid (SRow.call y12.out hb13)
            have g13 := Lib.hid (SRow.call g12.out hb13)
            clear Kb12 Y12 G12 M12 B12 A12 y12 g12 Kb12c0 Kb12c1 Kb12c2 Kb12l M12c0 M12c1 M12c2 M12l hb13
            have h13 := Lib.hid rq13
            clear rq13
            have H13 := KF.kf KD13
            have bl13 := KD13.lt
            clear KD13
            have HO13 := Lib.hid ho13
            clear ho13
            have H13c0 := H13.c0
            have H13c1 := H13.c1
            have H13c2 := H13.c2
            have H13l := H13.lt
            have Y13c0 := Y13.c0
            have Y13c1 := Y13.c1
            have Y13c2 := Y13.c2
            have Y13l := Y13.lt
            go_wp2_with fail
            with_reducible refine (eqFr_any P2 Q2 h13.out y13.out).mono ?_
            rintro e w14 ⟨rfl, hb14⟩
            have Kb14 : Kf (w.heap.size) a b (.slice ao n cap) w14 := Kf.call Kb13 hb14
            have Y14 : Kf (bx2) P2 Q2 (.slice ao2 m2 cap2) w14 := Kf.call Y13 hb14
            have G14 : Kf (bx5) P2 Q2 (.slice ao5 m2 cap5) w14 := Kf.call G13 hb14
            have H14 : Kf (bx13) P2 Q2 (.slice ao13 m2 cap13) w14 := Kf.call H13 hb14
            have M14 : K3 (w.heap.size + 1) (.bool tx) (.bool ty) (.int .i64 s) w14 := K3.call M13 hb14
            have B14 : Below w.heap.size w w14 := bstep B13 hb14
            have A14 := Lib.hid (HA.out.call B14)
            have z14 : w13.heap.size ≤ w14.heap.size := hb14.size
            have y14 := Lib.hid (SRow.call y13.out hb14)
            have g14 := Lib.hid (SRow.call g13.out hb14)
            have h14 := Lib.hid (SRow.call h13.out hb14)
            clear Kb13 Y13 G13 H13 M13 B13 A13 y13 g13 h13 H13c0 H13c1 H13c2 H13l Y13c0 Y13c1 Y13c2 Y13l hb14
            clear h14
            clear y14
            clear H14
            clear Y14
            have G14c0 := G14.c0
            have G14c1 := G14.c1
            have G14c2 := G14.c2
            have G14l := G14.lt
            go_wp2_with fail
            with_reducible refine (heldFr_any P2 Q2 g14.out).mono ?_
            rintro e w15 ⟨rfl, hb15⟩
            have Kb15 : Kf (w.heap.size) a b (.slice ao n cap) w15 := Kf.call Kb14 hb15
            have G15 : Kf (bx5) P2 Q2 (.slice ao5 m2 cap5) w15 := Kf.call G14 hb15
            have M15 : K3 (w.heap.size + 1) (.bool tx) (.bool ty) (.int .i64 s) w15 := K3.call M14 hb15
            have B15 : Below w.heap.size w w15 := bstep B14 hb15
            have A15 := Lib.hid (HA.out.call B15)
            have z15 : w14.heap.size ≤ w15.heap.size := hb15.size
            have g15 := Lib.hid (SRow.call g14.out hb15)
            clear Kb14 G14 M14 B14 A14 g14 G14c0 G14c1 G14c2 G14l hb15
            go_wp2
            go_ret
            exact ⟨rfl, B15⟩
  · have hz : (if (n : Int) ≤ 1048576 then 1048576 - (n : Int) else -1) = -1 := if_neg (by omega)
    go_enter Try.func9, Try.ntmps9
    go_wp2_with fail
    refine (szFr_any a b ao n cap 1048576 _ hm (by omega)).mono ?_
    rintro e w1 ⟨rfl, hb1⟩
    rw [hz]
    go_wp2
    go_ret
    exact ⟨rfl, bstep (by repeat (first | with_reducible assumption | with_reducible exact Below.refl _ _ | with_reducible refine Below.drew ?_ | with_reducible refine below_drewN ?_ _ | with_reducible refine Below.alloc ?_ (by first | omega | (simp <;> omega)) _ | with_reducible refine bstep ?_ (by with_reducible assumption))) hb1⟩
end Go.Proofs.Ythfgmadogknnaaa
