/-
  The walk of the law FnCentres: it returns true at every code and writes nothing that was there. Conditions: the code's bytes can be read; the listed variables are as the program's text lays them.
-/
import Derived.Test.YtpdekopmnchanabGreatDoorMo6z
import Derived.Test.YtpdekopmnchanabGreatDoorMoT
import Derived.Test.YtpdekopmnchanabGreatDoorRdMo
import Derived.Test.YtpdekopmnchanabGreatDoorDrawMoZ
import Derived.Test.YtpdekopmnchanabGreatDoorDamage
import Derived.Deep.RegionHeld3
import Derived.ProofKit
import Derived.OpenShut
namespace Go.Proofs.YtpdekopmnchanabGreatDoor
open Go.RowKit Go.ChangeShapes Go.WideShapes Go.ChangeAt
set_option linter.unusedSimpArgs false
set_option linter.unusedVariables false

theorem unitOK_of5 {W : World} (h : Kq (0) 1 0 0 1 W) : UnitOK W := h
theorem eqMoR (a b c d x y : Int) (w : World) : (Op.equalIn 10000 29 (.agg #[.int .i64 a, .int .i64 b, .int .i64 c, .int .i64 d, .int .i64 x, .int .i64 y]) (.agg #[.int .i64 a, .int .i64 b, .int .i64 c, .int .i64 d, .int .i64 x, .int .i64 y])).run Tryz.prog w = .ok true w := by
  have hu := Tryz.underlying29
  have hv := Tryz.underlying27
  have hm := Tryz.underlying25
  rw [show (10000 : Nat) = 9999 + 1 from rfl, run_equalIn_struct _ _ _ _ _ (by simp only [Program.fieldsOf, hu]) (by kernel_rfl)]
  simp only [Program.fieldsOf, hu]
  have u3 := Tryz.underlying2
  have a3 := Tryz.isAgg2
  have z3 := Tryz.sizeOf2
  go_simp
attribute [local go_sem ↓] eqMoR

def IsRow (k : IntKind) (w : World) (a : Option Addr) (len cap : Nat) (zs : List Int) : Prop :=
  (a = none ∧ len = 0 ∧ cap = 0 ∧ zs = []) ∨
  ∃ x, a = some x ∧ len ≤ cap ∧ cap ≤ maxLen ∧ zs.length = cap ∧ (∀ i, i < zs.length → w.cell? (x.add i) = some (.int k (zs.getD i 0))) ∧ ∀ n ∈ zs, (Lit.int k n).wf = true

theorem rowBts {w : World} {a0 : Option Addr} {len cap : Nat} {zs : List Int} (h : IsRow .u8 w a0 len cap zs) : Bts a0 len w.heap.size w := by
  rcases h with ⟨_, h, _, _⟩ | ⟨x, rfl, h1, h2, h3, h4, h5⟩
  · exact .inl h
  · by_cases h0 : len = 0
    · exact .inl h0
    · obtain ⟨b, off, rfl, hc⟩ := ints_at h4 (by omega)
      refine .inr ⟨b, off, rfl, World.block_lt_of_cell? _ _ (hc 0 (by omega)), fun i hi => ?_⟩
      have hb := bounds_u8 (h5 (zs.getD i 0) (by
        rw [List.getD_eq_getElem?_getD, List.getElem?_eq_getElem (by omega)]
        exact List.getElem_mem _))
      exact ⟨_, hb.1, hb.2, hc i (by omega)⟩

/- texts of motions read back -/
theorem matS_splitC (a b c d : Int) : SplitOf (matS a b c d).data.toList (four a b c d) := by
  constructor
  · show Lib.join _ [44] ++ [44] = joinC _
    simp [matL, four, numS, Lib.join, joinC]
  · intro x hx
    simp only [four, List.mem_cons, List.not_mem_nil, or_false] at hx
    rcases hx with rfl | rfl | rfl | rfl <;> exact itoa_comma _
theorem matS_ofC {l : List UInt8} {a b c d : Int} (h : SplitOf l (four a b c d)) : (matS a b c d).data.toList = l := by
  have h1 := (matS_splitC a b c d).1
  rw [← h.1] at h1
  exact List.append_cancel_right h1
theorem vecS_listC (x y : Int) : (vecS x y).data.toList = Lib.itoa x ++ 44 :: Lib.itoa y := by
  unfold vecS numS
  rw [show (⟨#[44]⟩ : ByteArray) = ⟨[44].toArray⟩ from rfl, ByteArray.mk_append_mk, ByteArray.mk_append_mk]
  simp
theorem motS_list (a b c d x y : Int) : (motS a b c d x y).data.toList = (matS a b c d).data.toList ++ 59 :: (vecS x y).data.toList := by
  unfold motS
  rw [ByteArray.data_append, ByteArray.data_append]
  simp
theorem mott_yes {a b c d x y : Int} (h : motB a b c d x y = true) : MoYes (mottS a b c d x y).data.toList a b c d x y := by
  have e : mottS a b c d x y = motS a b c d x y := by simp [mottS, h]
  rw [e]
  exact ⟨h, _, _, motS_list a b c d x y, matS_splitC a b c d, vecS_listC x y⟩
theorem mott_of {u : ByteArray} {a b c d x y : Int} (h : MoYes u.data.toList a b c d x y) : ((mottS a b c d x y).toList == u.toList) = true := by
  obtain ⟨hm, p, q, e, hs, hq⟩ := h
  have em : mottS a b c d x y = motS a b c d x y := by simp [mottS, hm]
  rw [ByteArray.toList_eq, ByteArray.toList_eq, em, motS_list, matS_ofC hs, vecS_listC, e, hq]
  simp
theorem mott_ne {a b c d x y : Int} (h : motB a b c d x y = true) : (mottS a b c d x y).toList ≠ [] := by
  have em : mottS a b c d x y = motS a b c d x y := by simp [mottS, h]
  rw [ByteArray.toList_eq, em, motS_list]
  simp
theorem mott_nil {a b c d x y : Int} (h : motB a b c d x y = false) : (mottS a b c d x y).toList = [] := by
  have em : mottS a b c d x y = ⟨#[]⟩ := by simp [mottS, h]
  rw [ByteArray.toList_eq, em]
theorem mott_size (a b c d x y : Int) : (mottS a b c d x y).size ≤ 140 := by
  unfold mottS
  rcases h : motB a b c d x y with _ | _
  · exact Nat.zero_le _
  · obtain ⟨h1, h2⟩ := mot_sizes (motB_lim h) (motB_vec h)
    show (matS a b c d ++ ⟨#[59]⟩ ++ vecS x y).size ≤ 140
    rw [ByteArray.size_append, ByteArray.size_append]
    show (matS a b c d).size + 1 + (vecS x y).size ≤ 140
    omega
theorem moread_yes {a b c d x y e1 e2 e3 e4 e5 e6 : Int} {o : Bool} (hm : motB a b c d x y = true) (h1 : o = true → MoYes (mottS a b c d x y).data.toList e1 e2 e3 e4 e5 e6) (h2 : o = false → MoNo (mottS a b c d x y).data.toList ∧ e1 = 0 ∧ e2 = 0 ∧ e3 = 0 ∧ e4 = 0 ∧ e5 = 0 ∧ e6 = 0) : o = true ∧ e1 = a ∧ e2 = b ∧ e3 = c ∧ e4 = d ∧ e5 = x ∧ e6 = y :=
  mo_same (o := true) (fun _ => mott_yes hm) (fun h => by cases h) h1 h2
theorem moread_no {a b c d x y e1 e2 e3 e4 e5 e6 : Int} {o : Bool} (hm : motB a b c d x y = false) (h1 : o = true → MoYes (mottS a b c d x y).data.toList e1 e2 e3 e4 e5 e6) : o = false := by
  cases o
  · rfl
  · obtain ⟨_, p, q, e, _⟩ := h1 rfl
    have em : mottS a b c d x y = ⟨#[]⟩ := by simp [mottS, hm]
    rw [em] at e
    simp at e
def CenOk (a b c d x y p q n e : Int) : Prop := (e = 0 ∧ motB a b c d x y = true ∧ 1 ≤ n ∧ n ≤ 4 ∧ vecB p q = true ∧ a * p + b * q + n * x = p ∧ c * p + d * q + n * y = q) ∨ e = 1 ∨ e = 3 ∨ e = 5
theorem cen_ex (a b c d x y : Int) : ∃ p q n e, cenR a b c d x y = (p, q, n, e) ∧ CenOk a b c d x y p q n e := by
  unfold cenR
  rcases hm : motB a b c d x y with _ | _
  · exact ⟨0, 0, 0, 1, rfl, .inr (.inl rfl)⟩
  rcases hk : knd a b c d x y == 2 with _ | _
  · exact ⟨0, 0, 0, 5, rfl, .inr (.inr (.inr rfl))⟩
  rcases hv : vecB ((ceX a b c d x y).tdiv (ceG a b c d x y)) ((ceY a b c d x y).tdiv (ceG a b c d x y)) with _ | _
  · exact ⟨0, 0, 0, 3, rfl, .inr (.inr (.inl rfl))⟩
  have hk2 := (beq_iff_eq).1 hk
  obtain ⟨s1, s2, s3⟩ := centre_still hm hk2
  obtain ⟨_, t1, t2⟩ := rot_of hm hk2
  have tD := tdiv_le (a := 2 - (a + d)) (ceG_pos hm hk2).1 4 (by omega) (by omega)
  exact ⟨_, _, _, _, rfl, .inl ⟨rfl, hm, s1, tD.2, hv, s2, s3⟩⟩
/- the draws -/
def OneMo (w : World) (e : Ending) (w' : World) : Prop := ∃ a b c d x y : Int, e = .returned (.agg #[.int .i64 a, .int .i64 b, .int .i64 c, .int .i64 d, .int .i64 x, .int .i64 y]) ∧ Below w.heap.size w w'
def MoText (w : World) (e : Ending) (w' : World) : Prop := ∃ u : ByteArray, e = .returned (.string u) ∧ u.size ≤ 1001 ∧ Below w.heap.size w w'
set_option maxRecDepth 100000 in
set_option maxHeartbeats 8000000 in
theorem drawCen_any (a0 : Option Addr) (len cap : Nat) (w : World) (hl : len ≤ 140737488355328) (hB : Bts a0 len w.heap.size w) :
    Calls Tryz.prog 5 #[.slice a0 len cap] w (OneMo w) := by
  go_enter Tryz.func5, Tryz.ntmps5
  go_wp2_with fail
  refine (from_at (w.heap.size + 1) a0 len cap _ (by simp) hl (hB.grow (Below.alloc (Below.refl _ _) (by first | omega | (simp <;> omega)) _) (by omega))).mono ?_
  rintro e w1 ⟨rfl, S1, H1⟩
  have R1 : KM (w.heap.size) 0 0 0 0 0 0 w1 := KM.call (KM.at (w.heap.size) (by simp)) H1
  have B1 : Below w.heap.size w w1 := bstep (Below.alloc (Below.refl _ _) (by first | omega | (simp <;> omega)) _) H1
  clear H1
  go_wp2_with fail
  refine (drawMo_any (w.heap.size + 1) a0 len cap _ S1).mono ?_
  rintro e w2 ⟨a, b, c, d, x, y, rfl, S2, O2⟩
  have R2 := KM.only R1 O2 (by have := B1.size; omega)
  have B2 := bonly B1 O2 (by omega)
  clear S1 O2 B1 R1
  obtain ⟨R2l, R2c0, R2c1, R2c2, R2c3, R2c4, R2c5, R2f0, R2f1, R2f2, R2f3, R2f4, R2f5⟩ := id R2
  go_wp2
  refine bodyPost_ret (v := .agg #[.int .i64 a, .int .i64 b, .int .i64 c, .int .i64 d, .int .i64 x, .int .i64 y]) (by simp [results, Tryz.results5, go_sem, *]) rfl ⟨a, b, c, d, x, y, rfl, ?_⟩
  repeat (first | with_reducible assumption | with_reducible exact Below.refl _ _ | with_reducible refine Below.setCell ?_ (by first | omega | (simp <;> omega)) _ | with_reducible refine Below.alloc ?_ (by first | omega | (simp <;> omega)) _ | with_reducible refine bstep ?_ (by with_reducible assumption) | with_reducible refine Below.drew ?_)
set_option maxRecDepth 100000 in
set_option maxHeartbeats 8000000 in
theorem drawRdm_any (a0 : Option Addr) (len cap : Nat) (w : World) (hl : len ≤ 140737488355328) (hB : Bts a0 len w.heap.size w) :
    Calls Tryz.prog 10 #[.slice a0 len cap] w (MoText w) := by
  go_enter Tryz.func10, Tryz.ntmps10
  go_wp2_with fail
  refine (from_at w.heap.size a0 len cap _ rfl hl hB).mono ?_
  rintro e w1 ⟨rfl, S1, H1⟩
  have B1 : Below w.heap.size w w1 := bstep (Below.refl _ _) H1
  clear H1
  go_wp2_with fail
  refine (drawMo_any (w.heap.size) a0 len cap _ S1).mono ?_
  rintro e w2 ⟨a, b, c, d, x, y, rfl, S2, O2⟩
  have B2 := bonly B1 O2 (by omega)
  clear S1 O2 B1
  go_wp2_with fail
  refine (specMoT_any _ _ _ _ _ _ _).mono ?_
  rintro e w3 ⟨rfl, hb3⟩
  have hz := mott_size a b c d x y
  have S3 := S2.call hb3
  have B3 := bstep B2 hb3
  clear S2 B2 hb3
  go_wp2_with fail
  refine (next_any _ (w.heap.size) a0 len cap _ S3).mono ?_
  rintro e w4 ⟨k, rfl, k0, k1, S4, O4⟩
  have B4 := bonly B3 O4 (by omega)
  clear S3 O4 B3
  clear k0 k1
  rcases hk : k == 0 with _ | _
  · go_wp2
    go_ret
    exact ⟨_, rfl, by omega, B4⟩
  · go_wp2_with fail
    refine (damage_any _ (by omega) (w.heap.size) a0 len cap _ S4).mono ?_
    rintro e w5 ⟨u, rfl, hu, S5, O5⟩
    have B5 := bonly B4 O5 (by omega)
    go_wp2
    go_ret
    exact ⟨_, rfl, by omega, B5⟩

set_option maxRecDepth 100000 in
set_option maxHeartbeats 8000000 in
theorem walkCentres (a0 : Option Addr) (len cap : Nat) (zs : List Int) (w : World) (w0 : IsRow .u8 w a0 len cap zs) (hT : TabOK w) (hE : ErrsOK w) (hM : MaxOK w) (hU : UnitOK w) :
    Calls Tryz.prog 3 #[.slice a0 len cap] w fun e w' => e = .returned (.bool true) ∧ Below w.heap.size w w' := by
  have U0 : Kq (0) 1 0 0 1 w := hU
  have B0 : Below w.heap.size w w := Below.refl _ _
  by_cases hbig : 4096 < len
  · have hb1 : (4096 : Int) < (len : Int) := by omega
    have hb2 : len ≤ 9223372036854775807 := by
      rcases w0 with ⟨_, h, _, _⟩ | ⟨x, rfl, h1, h2, h3, h4, h5⟩
      · omega
      · unfold maxLen at h2; omega
    go_enter Tryz.func3, Tryz.ntmps3
    go_wp2
    go_ret
    exact ⟨rfl, Below.refl _ _⟩
  have hB := rowBts w0
  have hl : len ≤ 4096 := by omega
  clear w0
  go_enter Tryz.func3, Tryz.ntmps3
  go_wp2_with (go_at_call 4; go_in)
  refine (drawCen_any a0 len cap _ (by omega) (hB.grow B0 (by have := B0.size; first | omega | (simp <;> omega)))).mono ?_
  rintro e w1 ⟨a, b, c, d, x, y, rfl, hb1⟩
  have U1 : Kq (0) 1 0 0 1 w1 := Kq.call U0 hb1
  have B1 : Below w.heap.size w w1 := bstep B0 hb1
  clear hb1 B0 U0
  obtain ⟨p, q, n, bad, hce, hok⟩ := cen_ex a b c d x y
  have HOK := Lib.hid hok
  clear hok
  go_wp2_with fail
  refine (implCen_any _ _ _ _ _ _ _ (U1.alloc _)).mono ?_
  rintro e w2 ⟨he, hb2⟩
  unfold cenT at he
  rw [hce] at he
  subst he
  have U2 : Kq (0) 1 0 0 1 w2 := Kq.call (U1.alloc _) hb2
  have M2 : Km (w1.heap.size) a b c d x y w2 := (Km.at (w1.heap.size) (by simp) : Km (w1.heap.size) a b c d x y _).call hb2
  have B2 : Below w.heap.size w w2 := bstep (Below.alloc B1 (by have := B1.size; first | omega | (simp <;> omega)) _) hb2
  clear hb2 B1 U1
  have U2c0 := U2.c0
  have U2c1 := U2.c1
  have U2c2 := U2.c2
  have U2c3 := U2.c3
  have U2l := U2.1
  have U2n : ¬ 0 = w2.heap.size := by omega
  have M2c0 := M2.c0
  have M2c1 := M2.c1
  have M2c2 := M2.c2
  have M2c3 := M2.c3
  have M2c4 := M2.c4
  have M2c5 := M2.c5
  have M2l := M2.1
  have M2n : ¬ w1.heap.size = w2.heap.size := by omega
  go_wp2_with fail
  refine (specCen_any _ _ _ _ _ _ _).mono ?_
  rintro e w3 ⟨he, hb3⟩
  unfold cenT at he
  rw [hce] at he
  subst he
  have U3 : Kq (0) 1 0 0 1 w3 := Kq.call (U2.alloc _) hb3
  have M3 : Km (w1.heap.size) a b c d x y w3 := Km.call (M2.alloc _) hb3
  have V3 : Kg (w2.heap.size) p q w3 := (Kg.at2 (w2.heap.size) (by simp) : Kg (w2.heap.size) p q _).call hb3
  have B3 : Below w.heap.size w w3 := bstep (Below.alloc B2 (by have := B2.size; first | omega | (simp <;> omega)) _) hb3
  clear hb3 B2 U2 M2
  clear U2c0 U2c1 U2c2 U2c3 U2l U2n M2c0 M2c1 M2c2 M2c3 M2c4 M2c5 M2l M2n
  have U3c0 := U3.c0
  have U3c1 := U3.c1
  have U3c2 := U3.c2
  have U3c3 := U3.c3
  have U3l := U3.1
  have U3n : ¬ 0 = w3.heap.size := by omega
  have M3c0 := M3.c0
  have M3c1 := M3.c1
  have M3c2 := M3.c2
  have M3c3 := M3.c3
  have M3c4 := M3.c4
  have M3c5 := M3.c5
  have M3l := M3.1
  have M3n : ¬ w1.heap.size = w3.heap.size := by omega
  have V3c0 := V3.c0
  have V3c1 := V3.c1
  have V3l := V3.1
  have V3n : ¬ w2.heap.size = w3.heap.size := by omega
  go_wp2_with fail
  refine (implMoT_any _ _ _ _ _ _ _ (hT.on (Below.alloc B3 (by have := B3.size; first | omega | (simp <;> omega)) _)) (U3.alloc _)).mono ?_
  rintro e w4 ⟨rfl, hb4⟩
  have hz := mott_size a b c d x y
  clear hce
  have U4 : Kq (0) 1 0 0 1 w4 := Kq.call (U3.alloc _) hb4
  have M4 : Km (w1.heap.size) a b c d x y w4 := Km.call (M3.alloc _) hb4
  have V4 : Kg (w2.heap.size) p q w4 := Kg.call (V3.alloc _) hb4
  have W4 : Kg (w3.heap.size) p q w4 := (Kg.at2 (w3.heap.size) (by simp) : Kg (w3.heap.size) p q _).call hb4
  have B4 : Below w.heap.size w w4 := bstep (Below.alloc B3 (by have := B3.size; first | omega | (simp <;> omega)) _) hb4
  clear hb4 B3 U3 M3 V3
  clear U3c0 U3c1 U3c2 U3c3 U3l U3n M3c0 M3c1 M3c2 M3c3 M3c4 M3c5 M3l M3n V3c0 V3c1 V3l V3n
  have U4c0 := U4.c0
  have U4c1 := U4.c1
  have U4c2 := U4.c2
  have U4c3 := U4.c3
  have U4l := U4.1
  have U4n : ¬ 0 = w4.heap.size := by omega
  have M4c0 := M4.c0
  have M4c1 := M4.c1
  have M4c2 := M4.c2
  have M4c3 := M4.c3
  have M4c4 := M4.c4
  have M4c5 := M4.c5
  have M4l := M4.1
  have M4n : ¬ w1.heap.size = w4.heap.size := by omega
  have V4c0 := V4.c0
  have V4c1 := V4.c1
  have V4l := V4.1
  have V4n : ¬ w2.heap.size = w4.heap.size := by omega
  have W4c0 := W4.c0
  have W4c1 := W4.c1
  have W4l := W4.1
  have W4n : ¬ w3.heap.size = w4.heap.size := by omega
  go_wp2_with fail
  refine (implRmo_any _ (by omega) _ (hT.on B4) (hE.on B4) (hM.on B4) U4).mono ?_
  rintro e w5 ⟨e1, e2, e3, e4, e5, e6, o, rfl, hy1, hn1, hb5⟩
  have HY1 := Lib.hid hy1
  have HN1 := Lib.hid hn1
  clear hy1 hn1 hz
  have U5 : Kq (0) 1 0 0 1 w5 := Kq.call U4 hb5
  have M5 : Km (w1.heap.size) a b c d x y w5 := Km.call M4 hb5
  have V5 : Kg (w2.heap.size) p q w5 := Kg.call V4 hb5
  have W5 : Kg (w3.heap.size) p q w5 := Kg.call W4 hb5
  have B5 : Below w.heap.size w w5 := bstep B4 hb5
  clear hb5 B4 U4 M4 V4 W4
  clear U4c0 U4c1 U4c2 U4c3 U4l U4n M4c0 M4c1 M4c2 M4c3 M4c4 M4c5 M4l M4n V4c0 V4c1 V4l V4n W4c0 W4c1 W4l W4n
  have U5c0 := U5.c0
  have U5c1 := U5.c1
  have U5c2 := U5.c2
  have U5c3 := U5.c3
  have U5l := U5.1
  have U5n : ¬ 0 = w5.heap.size := by omega
  have M5c0 := M5.c0
  have M5c1 := M5.c1
  have M5c2 := M5.c2
  have M5c3 := M5.c3
  have M5c4 := M5.c4
  have M5c5 := M5.c5
  have M5l := M5.1
  have M5n : ¬ w1.heap.size = w5.heap.size := by omega
  have V5c0 := V5.c0
  have V5c1 := V5.c1
  have V5l := V5.1
  have V5n : ¬ w2.heap.size = w5.heap.size := by omega
  have W5c0 := W5.c0
  have W5c1 := W5.c1
  have W5l := W5.1
  have W5n : ¬ w3.heap.size = w5.heap.size := by omega
  go_wp2_with fail
  refine (drawRdm_any a0 len cap _ (by omega) (hB.grow (Below.alloc B5 (by have := B5.size; first | omega | (simp <;> omega)) _) (by have := B5.size; first | omega | (simp <;> omega)))).mono ?_
  rintro e w6 ⟨u, rfl, hu, hb6⟩
  have U6 : Kq (0) 1 0 0 1 w6 := Kq.call (U5.alloc _) hb6
  have M6 : Km (w1.heap.size) a b c d x y w6 := Km.call (M5.alloc _) hb6
  have V6 : Kg (w2.heap.size) p q w6 := Kg.call (V5.alloc _) hb6
  have W6 : Kg (w3.heap.size) p q w6 := Kg.call (W5.alloc _) hb6
  have R6 : Km (w5.heap.size) e1 e2 e3 e4 e5 e6 w6 := (Km.at (w5.heap.size) (by simp) : Km (w5.heap.size) e1 e2 e3 e4 e5 e6 _).call hb6
  have B6 : Below w.heap.size w w6 := bstep (Below.alloc B5 (by have := B5.size; first | omega | (simp <;> omega)) _) hb6
  clear hb6 B5 U5 M5 V5 W5
  clear U5c0 U5c1 U5c2 U5c3 U5l U5n M5c0 M5c1 M5c2 M5c3 M5c4 M5c5 M5l M5n V5c0 V5c1 V5l V5n W5c0 W5c1 W5l W5n
  have U6c0 := U6.c0
  have U6c1 := U6.c1
  have U6c2 := U6.c2
  have U6c3 := U6.c3
  have U6l := U6.1
  have U6n : ¬ 0 = w6.heap.size := by omega
  have M6c0 := M6.c0
  have M6c1 := M6.c1
  have M6c2 := M6.c2
  have M6c3 := M6.c3
  have M6c4 := M6.c4
  have M6c5 := M6.c5
  have M6l := M6.1
  have M6n : ¬ w1.heap.size = w6.heap.size := by omega
  have V6c0 := V6.c0
  have V6c1 := V6.c1
  have V6l := V6.1
  have V6n : ¬ w2.heap.size = w6.heap.size := by omega
  have W6c0 := W6.c0
  have W6c1 := W6.c1
  have W6l := W6.1
  have W6n : ¬ w3.heap.size = w6.heap.size := by omega
  have R6c0 := R6.c0
  have R6c1 := R6.c1
  have R6c2 := R6.c2
  have R6c3 := R6.c3
  have R6c4 := R6.c4
  have R6c5 := R6.c5
  have R6l := R6.1
  have R6n : ¬ w5.heap.size = w6.heap.size := by omega
  go_wp2_with fail
  refine (implRmo_any _ (by omega) _ (hT.on B6) (hE.on B6) (hM.on B6) U6).mono ?_
  rintro e w7 ⟨f1, f2, f3, f4, f5, f6, o1, rfl, hy2, hn2, hb7⟩
  have HY2 := Lib.hid hy2
  have HN2 := Lib.hid hn2
  clear hy2 hn2
  have U7 : Kq (0) 1 0 0 1 w7 := Kq.call U6 hb7
  have M7 : Km (w1.heap.size) a b c d x y w7 := Km.call M6 hb7
  have V7 : Kg (w2.heap.size) p q w7 := Kg.call V6 hb7
  have W7 : Kg (w3.heap.size) p q w7 := Kg.call W6 hb7
  have R7 : Km (w5.heap.size) e1 e2 e3 e4 e5 e6 w7 := Km.call R6 hb7
  have B7 : Below w.heap.size w w7 := bstep B6 hb7
  clear hb7 B6 U6 M6 V6 W6 R6
  clear U6c0 U6c1 U6c2 U6c3 U6l U6n M6c0 M6c1 M6c2 M6c3 M6c4 M6c5 M6l M6n V6c0 V6c1 V6l V6n W6c0 W6c1 W6l W6n R6c0 R6c1 R6c2 R6c3 R6c4 R6c5 R6l R6n
  have U7c0 := U7.c0
  have U7c1 := U7.c1
  have U7c2 := U7.c2
  have U7c3 := U7.c3
  have U7l := U7.1
  have U7n : ¬ 0 = w7.heap.size := by omega
  have M7c0 := M7.c0
  have M7c1 := M7.c1
  have M7c2 := M7.c2
  have M7c3 := M7.c3
  have M7c4 := M7.c4
  have M7c5 := M7.c5
  have M7l := M7.1
  have M7n : ¬ w1.heap.size = w7.heap.size := by omega
  have V7c0 := V7.c0
  have V7c1 := V7.c1
  have V7l := V7.1
  have V7n : ¬ w2.heap.size = w7.heap.size := by omega
  have W7c0 := W7.c0
  have W7c1 := W7.c1
  have W7l := W7.1
  have W7n : ¬ w3.heap.size = w7.heap.size := by omega
  have R7c0 := R7.c0
  have R7c1 := R7.c1
  have R7c2 := R7.c2
  have R7c3 := R7.c3
  have R7c4 := R7.c4
  have R7c5 := R7.c5
  have R7l := R7.1
  have R7n : ¬ w5.heap.size = w7.heap.size := by omega
  go_wp2_with fail
  refine (specRmo_any _ (by omega) _).mono ?_
  rintro e w8 ⟨g1, g2, g3, g4, g5, g6, o2, rfl, hy3, hn3, hb8⟩
  have U8 : Kq (0) 1 0 0 1 w8 := Kq.call (U7.alloc _) hb8
  have M8 : Km (w1.heap.size) a b c d x y w8 := Km.call (M7.alloc _) hb8
  have V8 : Kg (w2.heap.size) p q w8 := Kg.call (V7.alloc _) hb8
  have W8 : Kg (w3.heap.size) p q w8 := Kg.call (W7.alloc _) hb8
  have R8 : Km (w5.heap.size) e1 e2 e3 e4 e5 e6 w8 := Km.call (R7.alloc _) hb8
  have Y8 : Km (w7.heap.size) f1 f2 f3 f4 f5 f6 w8 := (Km.at (w7.heap.size) (by simp) : Km (w7.heap.size) f1 f2 f3 f4 f5 f6 _).call hb8
  have B8 : Below w.heap.size w w8 := bstep (Below.alloc B7 (by have := B7.size; first | omega | (simp <;> omega)) _) hb8
  clear hb8 B7 U7 M7 V7 W7 R7
  clear U7c0 U7c1 U7c2 U7c3 U7l U7n M7c0 M7c1 M7c2 M7c3 M7c4 M7c5 M7l M7n V7c0 V7c1 V7l V7n W7c0 W7c1 W7l W7n R7c0 R7c1 R7c2 R7c3 R7c4 R7c5 R7l R7n
  have U8c0 := U8.c0
  have U8c1 := U8.c1
  have U8c2 := U8.c2
  have U8c3 := U8.c3
  have U8l := U8.1
  have U8n : ¬ 0 = w8.heap.size := by omega
  have M8c0 := M8.c0
  have M8c1 := M8.c1
  have M8c2 := M8.c2
  have M8c3 := M8.c3
  have M8c4 := M8.c4
  have M8c5 := M8.c5
  have M8l := M8.1
  have M8n : ¬ w1.heap.size = w8.heap.size := by omega
  have V8c0 := V8.c0
  have V8c1 := V8.c1
  have V8l := V8.1
  have V8n : ¬ w2.heap.size = w8.heap.size := by omega
  have W8c0 := W8.c0
  have W8c1 := W8.c1
  have W8l := W8.1
  have W8n : ¬ w3.heap.size = w8.heap.size := by omega
  have R8c0 := R8.c0
  have R8c1 := R8.c1
  have R8c2 := R8.c2
  have R8c3 := R8.c3
  have R8c4 := R8.c4
  have R8c5 := R8.c5
  have R8l := R8.1
  have R8n : ¬ w5.heap.size = w8.heap.size := by omega
  have Y8c0 := Y8.c0
  have Y8c1 := Y8.c1
  have Y8c2 := Y8.c2
  have Y8c3 := Y8.c3
  have Y8c4 := Y8.c4
  have Y8c5 := Y8.c5
  have Y8l := Y8.1
  have Y8n : ¬ w7.heap.size = w8.heap.size := by omega
  obtain ⟨rfl, rfl, rfl, rfl, rfl, rfl, rfl⟩ := mo_same HY2.out HN2.out hy3 hn3
  have HY3 := Lib.hid hy3
  clear HY2 HN2 hy3 hn3 hu
  rcases hm : motB a b c d x y with _ | _
  · obtain rfl := moread_no hm HY1.out
    clear HY1 HN1
    have hs1 := mott_nil hm
    have hs2 : (mottS a b c d x y).toList.isEmpty = true := by rw [hs1]; rfl
    clear hm
    cases o2
    · clear HY3
      go_wp2_with fail
      refine (specMoT_any _ _ _ _ _ _ _).mono ?_
      rintro e w9 ⟨rfl, hb9⟩
      have U9 : Kq (0) 1 0 0 1 w9 := Kq.call (U8.alloc _) hb9
      have M9 : Km (w1.heap.size) a b c d x y w9 := Km.call (M8.alloc _) hb9
      have V9 : Kg (w2.heap.size) p q w9 := Kg.call (V8.alloc _) hb9
      have W9 : Kg (w3.heap.size) p q w9 := Kg.call (W8.alloc _) hb9
      have R9 : Km (w5.heap.size) e1 e2 e3 e4 e5 e6 w9 := Km.call (R8.alloc _) hb9
      have Y9 : Km (w7.heap.size) g1 g2 g3 g4 g5 g6 w9 := Km.call (Y8.alloc _) hb9
      have Z9 : Km (w8.heap.size) g1 g2 g3 g4 g5 g6 w9 := (Km.at (w8.heap.size) (by simp) : Km (w8.heap.size) g1 g2 g3 g4 g5 g6 _).call hb9
      have B9 : Below w.heap.size w w9 := bstep (Below.alloc B8 (by have := B8.size; first | omega | (simp <;> omega)) _) hb9
      clear hb9 B8 U8 M8 V8 W8 R8 Y8
      clear U8c0 U8c1 U8c2 U8c3 U8l U8n M8c0 M8c1 M8c2 M8c3 M8c4 M8c5 M8l M8n V8c0 V8c1 V8l V8n W8c0 W8c1 W8l W8n R8c0 R8c1 R8c2 R8c3 R8c4 R8c5 R8l R8n Y8c0 Y8c1 Y8c2 Y8c3 Y8c4 Y8c5 Y8l Y8n
      have U9c0 := U9.c0
      have U9c1 := U9.c1
      have U9c2 := U9.c2
      have U9c3 := U9.c3
      have U9l := U9.1
      have U9n : ¬ 0 = w9.heap.size := by omega
      have M9c0 := M9.c0
      have M9c1 := M9.c1
      have M9c2 := M9.c2
      have M9c3 := M9.c3
      have M9c4 := M9.c4
      have M9c5 := M9.c5
      have M9l := M9.1
      have M9n : ¬ w1.heap.size = w9.heap.size := by omega
      have V9c0 := V9.c0
      have V9c1 := V9.c1
      have V9l := V9.1
      have V9n : ¬ w2.heap.size = w9.heap.size := by omega
      have W9c0 := W9.c0
      have W9c1 := W9.c1
      have W9l := W9.1
      have W9n : ¬ w3.heap.size = w9.heap.size := by omega
      have R9c0 := R9.c0
      have R9c1 := R9.c1
      have R9c2 := R9.c2
      have R9c3 := R9.c3
      have R9c4 := R9.c4
      have R9c5 := R9.c5
      have R9l := R9.1
      have R9n : ¬ w5.heap.size = w9.heap.size := by omega
      have Y9c0 := Y9.c0
      have Y9c1 := Y9.c1
      have Y9c2 := Y9.c2
      have Y9c3 := Y9.c3
      have Y9c4 := Y9.c4
      have Y9c5 := Y9.c5
      have Y9l := Y9.1
      have Y9n : ¬ w7.heap.size = w9.heap.size := by omega
      have Z9c0 := Z9.c0
      have Z9c1 := Z9.c1
      have Z9c2 := Z9.c2
      have Z9c3 := Z9.c3
      have Z9c4 := Z9.c4
      have Z9c5 := Z9.c5
      have Z9l := Z9.1
      have Z9n : ¬ w8.heap.size = w9.heap.size := by omega
      rcases HOK.out with ⟨rfl, hmt, hn1, hn4, hv, q1, q2⟩ | rfl | rfl | rfl
      · clear HOK
        obtain ⟨⟨ha, hb⟩, hc, hd⟩ := limB_bd (motB_lim hmt)
        obtain ⟨hx, hy⟩ := vecB_bd (motB_vec hmt)
        obtain ⟨hp, hq⟩ := vecB_bd hv
        have m0 := mulBd (a := a) (b := p) (A := 1000) (B := 1000) (by omega) (by omega) (by omega) (by omega)
        have m1 := mulBd (a := b) (b := q) (A := 1000) (B := 1000) (by omega) (by omega) (by omega) (by omega)
        have m2 := mulBd (a := c) (b := p) (A := 1000) (B := 1000) (by omega) (by omega) (by omega) (by omega)
        have m3 := mulBd (a := d) (b := q) (A := 1000) (B := 1000) (by omega) (by omega) (by omega) (by omega)
        have m4 := mulBd (a := n) (b := x) (A := 4) (B := 1000) (by omega) (by omega) (by omega) (by omega)
        have m5 := mulBd (a := n) (b := y) (A := 4) (B := 1000) (by omega) (by omega) (by omega) (by omega)
        clear hmt hv
        go_wp2
        go_ret
        exact ⟨rfl, B9⟩
      all_goals
        clear HOK
        go_wp2
        go_ret
        exact ⟨rfl, B9⟩
    · have hq0 := mott_of (HY3.out rfl)
      clear HY3
      go_wp2_with fail
      refine (specMoT_any _ _ _ _ _ _ _).mono ?_
      rintro e w9 ⟨rfl, hb9⟩
      have U9 : Kq (0) 1 0 0 1 w9 := Kq.call (U8.alloc _) hb9
      have M9 : Km (w1.heap.size) a b c d x y w9 := Km.call (M8.alloc _) hb9
      have V9 : Kg (w2.heap.size) p q w9 := Kg.call (V8.alloc _) hb9
      have W9 : Kg (w3.heap.size) p q w9 := Kg.call (W8.alloc _) hb9
      have R9 : Km (w5.heap.size) e1 e2 e3 e4 e5 e6 w9 := Km.call (R8.alloc _) hb9
      have Y9 : Km (w7.heap.size) g1 g2 g3 g4 g5 g6 w9 := Km.call (Y8.alloc _) hb9
      have Z9 : Km (w8.heap.size) g1 g2 g3 g4 g5 g6 w9 := (Km.at (w8.heap.size) (by simp) : Km (w8.heap.size) g1 g2 g3 g4 g5 g6 _).call hb9
      have B9 : Below w.heap.size w w9 := bstep (Below.alloc B8 (by have := B8.size; first | omega | (simp <;> omega)) _) hb9
      clear hb9 B8 U8 M8 V8 W8 R8 Y8
      clear U8c0 U8c1 U8c2 U8c3 U8l U8n M8c0 M8c1 M8c2 M8c3 M8c4 M8c5 M8l M8n V8c0 V8c1 V8l V8n W8c0 W8c1 W8l W8n R8c0 R8c1 R8c2 R8c3 R8c4 R8c5 R8l R8n Y8c0 Y8c1 Y8c2 Y8c3 Y8c4 Y8c5 Y8l Y8n
      have U9c0 := U9.c0
      have U9c1 := U9.c1
      have U9c2 := U9.c2
      have U9c3 := U9.c3
      have U9l := U9.1
      have U9n : ¬ 0 = w9.heap.size := by omega
      have M9c0 := M9.c0
      have M9c1 := M9.c1
      have M9c2 := M9.c2
      have M9c3 := M9.c3
      have M9c4 := M9.c4
      have M9c5 := M9.c5
      have M9l := M9.1
      have M9n : ¬ w1.heap.size = w9.heap.size := by omega
      have V9c0 := V9.c0
      have V9c1 := V9.c1
      have V9l := V9.1
      have V9n : ¬ w2.heap.size = w9.heap.size := by omega
      have W9c0 := W9.c0
      have W9c1 := W9.c1
      have W9l := W9.1
      have W9n : ¬ w3.heap.size = w9.heap.size := by omega
      have R9c0 := R9.c0
      have R9c1 := R9.c1
      have R9c2 := R9.c2
      have R9c3 := R9.c3
      have R9c4 := R9.c4
      have R9c5 := R9.c5
      have R9l := R9.1
      have R9n : ¬ w5.heap.size = w9.heap.size := by omega
      have Y9c0 := Y9.c0
      have Y9c1 := Y9.c1
      have Y9c2 := Y9.c2
      have Y9c3 := Y9.c3
      have Y9c4 := Y9.c4
      have Y9c5 := Y9.c5
      have Y9l := Y9.1
      have Y9n : ¬ w7.heap.size = w9.heap.size := by omega
      have Z9c0 := Z9.c0
      have Z9c1 := Z9.c1
      have Z9c2 := Z9.c2
      have Z9c3 := Z9.c3
      have Z9c4 := Z9.c4
      have Z9c5 := Z9.c5
      have Z9l := Z9.1
      have Z9n : ¬ w8.heap.size = w9.heap.size := by omega
      go_wp2_with fail
      refine (implMoT_any _ _ _ _ _ _ _ (hT.on B9) U9).mono ?_
      rintro e w10 ⟨rfl, hb10⟩
      have U10 : Kq (0) 1 0 0 1 w10 := Kq.call U9 hb10
      have M10 : Km (w1.heap.size) a b c d x y w10 := Km.call M9 hb10
      have V10 : Kg (w2.heap.size) p q w10 := Kg.call V9 hb10
      have W10 : Kg (w3.heap.size) p q w10 := Kg.call W9 hb10
      have R10 : Km (w5.heap.size) e1 e2 e3 e4 e5 e6 w10 := Km.call R9 hb10
      have Y10 : Km (w7.heap.size) g1 g2 g3 g4 g5 g6 w10 := Km.call Y9 hb10
      have Z10 : Km (w8.heap.size) g1 g2 g3 g4 g5 g6 w10 := Km.call Z9 hb10
      have B10 : Below w.heap.size w w10 := bstep B9 hb10
      clear hb10 B9 U9 M9 V9 W9 R9 Y9 Z9
      clear U9c0 U9c1 U9c2 U9c3 U9l U9n M9c0 M9c1 M9c2 M9c3 M9c4 M9c5 M9l M9n V9c0 V9c1 V9l V9n W9c0 W9c1 W9l W9n R9c0 R9c1 R9c2 R9c3 R9c4 R9c5 R9l R9n Y9c0 Y9c1 Y9c2 Y9c3 Y9c4 Y9c5 Y9l Y9n Z9c0 Z9c1 Z9c2 Z9c3 Z9c4 Z9c5 Z9l Z9n
      have U10c0 := U10.c0
      have U10c1 := U10.c1
      have U10c2 := U10.c2
      have U10c3 := U10.c3
      have U10l := U10.1
      have U10n : ¬ 0 = w10.heap.size := by omega
      have M10c0 := M10.c0
      have M10c1 := M10.c1
      have M10c2 := M10.c2
      have M10c3 := M10.c3
      have M10c4 := M10.c4
      have M10c5 := M10.c5
      have M10l := M10.1
      have M10n : ¬ w1.heap.size = w10.heap.size := by omega
      have V10c0 := V10.c0
      have V10c1 := V10.c1
      have V10l := V10.1
      have V10n : ¬ w2.heap.size = w10.heap.size := by omega
      have W10c0 := W10.c0
      have W10c1 := W10.c1
      have W10l := W10.1
      have W10n : ¬ w3.heap.size = w10.heap.size := by omega
      have R10c0 := R10.c0
      have R10c1 := R10.c1
      have R10c2 := R10.c2
      have R10c3 := R10.c3
      have R10c4 := R10.c4
      have R10c5 := R10.c5
      have R10l := R10.1
      have R10n : ¬ w5.heap.size = w10.heap.size := by omega
      have Y10c0 := Y10.c0
      have Y10c1 := Y10.c1
      have Y10c2 := Y10.c2
      have Y10c3 := Y10.c3
      have Y10c4 := Y10.c4
      have Y10c5 := Y10.c5
      have Y10l := Y10.1
      have Y10n : ¬ w7.heap.size = w10.heap.size := by omega
      have Z10c0 := Z10.c0
      have Z10c1 := Z10.c1
      have Z10c2 := Z10.c2
      have Z10c3 := Z10.c3
      have Z10c4 := Z10.c4
      have Z10c5 := Z10.c5
      have Z10l := Z10.1
      have Z10n : ¬ w8.heap.size = w10.heap.size := by omega
      rcases HOK.out with ⟨rfl, hmt, hn1, hn4, hv, q1, q2⟩ | rfl | rfl | rfl
      · clear HOK
        obtain ⟨⟨ha, hb⟩, hc, hd⟩ := limB_bd (motB_lim hmt)
        obtain ⟨hx, hy⟩ := vecB_bd (motB_vec hmt)
        obtain ⟨hp, hq⟩ := vecB_bd hv
        have m0 := mulBd (a := a) (b := p) (A := 1000) (B := 1000) (by omega) (by omega) (by omega) (by omega)
        have m1 := mulBd (a := b) (b := q) (A := 1000) (B := 1000) (by omega) (by omega) (by omega) (by omega)
        have m2 := mulBd (a := c) (b := p) (A := 1000) (B := 1000) (by omega) (by omega) (by omega) (by omega)
        have m3 := mulBd (a := d) (b := q) (A := 1000) (B := 1000) (by omega) (by omega) (by omega) (by omega)
        have m4 := mulBd (a := n) (b := x) (A := 4) (B := 1000) (by omega) (by omega) (by omega) (by omega)
        have m5 := mulBd (a := n) (b := y) (A := 4) (B := 1000) (by omega) (by omega) (by omega) (by omega)
        clear hmt hv
        go_wp2
        go_ret
        exact ⟨rfl, B10⟩
      all_goals
        clear HOK
        go_wp2
        go_ret
        exact ⟨rfl, B10⟩
  · obtain ⟨rfl, rfl, rfl, rfl, rfl, rfl, rfl⟩ := moread_yes hm HY1.out HN1.out
    clear HY1 HN1
    have hs0 := mott_ne hm
    have hs1 : ((mottS e1 e2 e3 e4 e5 e6).toList == []) = false := by simpa using hs0
    have hs2 : (mottS e1 e2 e3 e4 e5 e6).toList.isEmpty = false := by simpa using hs0
    clear hs0 hm
    cases o2
    · clear HY3
      go_wp2_with fail
      refine (specMoT_any _ _ _ _ _ _ _).mono ?_
      rintro e w9 ⟨rfl, hb9⟩
      have U9 : Kq (0) 1 0 0 1 w9 := Kq.call (U8.alloc _) hb9
      have M9 : Km (w1.heap.size) e1 e2 e3 e4 e5 e6 w9 := Km.call (M8.alloc _) hb9
      have V9 : Kg (w2.heap.size) p q w9 := Kg.call (V8.alloc _) hb9
      have W9 : Kg (w3.heap.size) p q w9 := Kg.call (W8.alloc _) hb9
      have R9 : Km (w5.heap.size) e1 e2 e3 e4 e5 e6 w9 := Km.call (R8.alloc _) hb9
      have Y9 : Km (w7.heap.size) g1 g2 g3 g4 g5 g6 w9 := Km.call (Y8.alloc _) hb9
      have Z9 : Km (w8.heap.size) g1 g2 g3 g4 g5 g6 w9 := (Km.at (w8.heap.size) (by simp) : Km (w8.heap.size) g1 g2 g3 g4 g5 g6 _).call hb9
      have B9 : Below w.heap.size w w9 := bstep (Below.alloc B8 (by have := B8.size; first | omega | (simp <;> omega)) _) hb9
      clear hb9 B8 U8 M8 V8 W8 R8 Y8
      clear U8c0 U8c1 U8c2 U8c3 U8l U8n M8c0 M8c1 M8c2 M8c3 M8c4 M8c5 M8l M8n V8c0 V8c1 V8l V8n W8c0 W8c1 W8l W8n R8c0 R8c1 R8c2 R8c3 R8c4 R8c5 R8l R8n Y8c0 Y8c1 Y8c2 Y8c3 Y8c4 Y8c5 Y8l Y8n
      have U9c0 := U9.c0
      have U9c1 := U9.c1
      have U9c2 := U9.c2
      have U9c3 := U9.c3
      have U9l := U9.1
      have U9n : ¬ 0 = w9.heap.size := by omega
      have M9c0 := M9.c0
      have M9c1 := M9.c1
      have M9c2 := M9.c2
      have M9c3 := M9.c3
      have M9c4 := M9.c4
      have M9c5 := M9.c5
      have M9l := M9.1
      have M9n : ¬ w1.heap.size = w9.heap.size := by omega
      have V9c0 := V9.c0
      have V9c1 := V9.c1
      have V9l := V9.1
      have V9n : ¬ w2.heap.size = w9.heap.size := by omega
      have W9c0 := W9.c0
      have W9c1 := W9.c1
      have W9l := W9.1
      have W9n : ¬ w3.heap.size = w9.heap.size := by omega
      have R9c0 := R9.c0
      have R9c1 := R9.c1
      have R9c2 := R9.c2
      have R9c3 := R9.c3
      have R9c4 := R9.c4
      have R9c5 := R9.c5
      have R9l := R9.1
      have R9n : ¬ w5.heap.size = w9.heap.size := by omega
      have Y9c0 := Y9.c0
      have Y9c1 := Y9.c1
      have Y9c2 := Y9.c2
      have Y9c3 := Y9.c3
      have Y9c4 := Y9.c4
      have Y9c5 := Y9.c5
      have Y9l := Y9.1
      have Y9n : ¬ w7.heap.size = w9.heap.size := by omega
      have Z9c0 := Z9.c0
      have Z9c1 := Z9.c1
      have Z9c2 := Z9.c2
      have Z9c3 := Z9.c3
      have Z9c4 := Z9.c4
      have Z9c5 := Z9.c5
      have Z9l := Z9.1
      have Z9n : ¬ w8.heap.size = w9.heap.size := by omega
      rcases HOK.out with ⟨rfl, hmt, hn1, hn4, hv, q1, q2⟩ | rfl | rfl | rfl
      · clear HOK
        obtain ⟨⟨ha, hb⟩, hc, hd⟩ := limB_bd (motB_lim hmt)
        obtain ⟨hx, hy⟩ := vecB_bd (motB_vec hmt)
        obtain ⟨hp, hq⟩ := vecB_bd hv
        have m0 := mulBd (a := e1) (b := p) (A := 1000) (B := 1000) (by omega) (by omega) (by omega) (by omega)
        have m1 := mulBd (a := e2) (b := q) (A := 1000) (B := 1000) (by omega) (by omega) (by omega) (by omega)
        have m2 := mulBd (a := e3) (b := p) (A := 1000) (B := 1000) (by omega) (by omega) (by omega) (by omega)
        have m3 := mulBd (a := e4) (b := q) (A := 1000) (B := 1000) (by omega) (by omega) (by omega) (by omega)
        have m4 := mulBd (a := n) (b := e5) (A := 4) (B := 1000) (by omega) (by omega) (by omega) (by omega)
        have m5 := mulBd (a := n) (b := e6) (A := 4) (B := 1000) (by omega) (by omega) (by omega) (by omega)
        clear hmt hv
        go_wp2
        go_ret
        exact ⟨rfl, B9⟩
      all_goals
        clear HOK
        go_wp2
        go_ret
        exact ⟨rfl, B9⟩
    · have hq0 := mott_of (HY3.out rfl)
      clear HY3
      go_wp2_with fail
      refine (specMoT_any _ _ _ _ _ _ _).mono ?_
      rintro e w9 ⟨rfl, hb9⟩
      have U9 : Kq (0) 1 0 0 1 w9 := Kq.call (U8.alloc _) hb9
      have M9 : Km (w1.heap.size) e1 e2 e3 e4 e5 e6 w9 := Km.call (M8.alloc _) hb9
      have V9 : Kg (w2.heap.size) p q w9 := Kg.call (V8.alloc _) hb9
      have W9 : Kg (w3.heap.size) p q w9 := Kg.call (W8.alloc _) hb9
      have R9 : Km (w5.heap.size) e1 e2 e3 e4 e5 e6 w9 := Km.call (R8.alloc _) hb9
      have Y9 : Km (w7.heap.size) g1 g2 g3 g4 g5 g6 w9 := Km.call (Y8.alloc _) hb9
      have Z9 : Km (w8.heap.size) g1 g2 g3 g4 g5 g6 w9 := (Km.at (w8.heap.size) (by simp) : Km (w8.heap.size) g1 g2 g3 g4 g5 g6 _).call hb9
      have B9 : Below w.heap.size w w9 := bstep (Below.alloc B8 (by have := B8.size; first | omega | (simp <;> omega)) _) hb9
      clear hb9 B8 U8 M8 V8 W8 R8 Y8
      clear U8c0 U8c1 U8c2 U8c3 U8l U8n M8c0 M8c1 M8c2 M8c3 M8c4 M8c5 M8l M8n V8c0 V8c1 V8l V8n W8c0 W8c1 W8l W8n R8c0 R8c1 R8c2 R8c3 R8c4 R8c5 R8l R8n Y8c0 Y8c1 Y8c2 Y8c3 Y8c4 Y8c5 Y8l Y8n
      have U9c0 := U9.c0
      have U9c1 := U9.c1
      have U9c2 := U9.c2
      have U9c3 := U9.c3
      have U9l := U9.1
      have U9n : ¬ 0 = w9.heap.size := by omega
      have M9c0 := M9.c0
      have M9c1 := M9.c1
      have M9c2 := M9.c2
      have M9c3 := M9.c3
      have M9c4 := M9.c4
      have M9c5 := M9.c5
      have M9l := M9.1
      have M9n : ¬ w1.heap.size = w9.heap.size := by omega
      have V9c0 := V9.c0
      have V9c1 := V9.c1
      have V9l := V9.1
      have V9n : ¬ w2.heap.size = w9.heap.size := by omega
      have W9c0 := W9.c0
      have W9c1 := W9.c1
      have W9l := W9.1
      have W9n : ¬ w3.heap.size = w9.heap.size := by omega
      have R9c0 := R9.c0
      have R9c1 := R9.c1
      have R9c2 := R9.c2
      have R9c3 := R9.c3
      have R9c4 := R9.c4
      have R9c5 := R9.c5
      have R9l := R9.1
      have R9n : ¬ w5.heap.size = w9.heap.size := by omega
      have Y9c0 := Y9.c0
      have Y9c1 := Y9.c1
      have Y9c2 := Y9.c2
      have Y9c3 := Y9.c3
      have Y9c4 := Y9.c4
      have Y9c5 := Y9.c5
      have Y9l := Y9.1
      have Y9n : ¬ w7.heap.size = w9.heap.size := by omega
      have Z9c0 := Z9.c0
      have Z9c1 := Z9.c1
      have Z9c2 := Z9.c2
      have Z9c3 := Z9.c3
      have Z9c4 := Z9.c4
      have Z9c5 := Z9.c5
      have Z9l := Z9.1
      have Z9n : ¬ w8.heap.size = w9.heap.size := by omega
      go_wp2_with fail
      refine (implMoT_any _ _ _ _ _ _ _ (hT.on B9) U9).mono ?_
      rintro e w10 ⟨rfl, hb10⟩
      have U10 : Kq (0) 1 0 0 1 w10 := Kq.call U9 hb10
      have M10 : Km (w1.heap.size) e1 e2 e3 e4 e5 e6 w10 := Km.call M9 hb10
      have V10 : Kg (w2.heap.size) p q w10 := Kg.call V9 hb10
      have W10 : Kg (w3.heap.size) p q w10 := Kg.call W9 hb10
      have R10 : Km (w5.heap.size) e1 e2 e3 e4 e5 e6 w10 := Km.call R9 hb10
      have Y10 : Km (w7.heap.size) g1 g2 g3 g4 g5 g6 w10 := Km.call Y9 hb10
      have Z10 : Km (w8.heap.size) g1 g2 g3 g4 g5 g6 w10 := Km.call Z9 hb10
      have B10 : Below w.heap.size w w10 := bstep B9 hb10
      clear hb10 B9 U9 M9 V9 W9 R9 Y9 Z9
      clear U9c0 U9c1 U9c2 U9c3 U9l U9n M9c0 M9c1 M9c2 M9c3 M9c4 M9c5 M9l M9n V9c0 V9c1 V9l V9n W9c0 W9c1 W9l W9n R9c0 R9c1 R9c2 R9c3 R9c4 R9c5 R9l R9n Y9c0 Y9c1 Y9c2 Y9c3 Y9c4 Y9c5 Y9l Y9n Z9c0 Z9c1 Z9c2 Z9c3 Z9c4 Z9c5 Z9l Z9n
      have U10c0 := U10.c0
      have U10c1 := U10.c1
      have U10c2 := U10.c2
      have U10c3 := U10.c3
      have U10l := U10.1
      have U10n : ¬ 0 = w10.heap.size := by omega
      have M10c0 := M10.c0
      have M10c1 := M10.c1
      have M10c2 := M10.c2
      have M10c3 := M10.c3
      have M10c4 := M10.c4
      have M10c5 := M10.c5
      have M10l := M10.1
      have M10n : ¬ w1.heap.size = w10.heap.size := by omega
      have V10c0 := V10.c0
      have V10c1 := V10.c1
      have V10l := V10.1
      have V10n : ¬ w2.heap.size = w10.heap.size := by omega
      have W10c0 := W10.c0
      have W10c1 := W10.c1
      have W10l := W10.1
      have W10n : ¬ w3.heap.size = w10.heap.size := by omega
      have R10c0 := R10.c0
      have R10c1 := R10.c1
      have R10c2 := R10.c2
      have R10c3 := R10.c3
      have R10c4 := R10.c4
      have R10c5 := R10.c5
      have R10l := R10.1
      have R10n : ¬ w5.heap.size = w10.heap.size := by omega
      have Y10c0 := Y10.c0
      have Y10c1 := Y10.c1
      have Y10c2 := Y10.c2
      have Y10c3 := Y10.c3
      have Y10c4 := Y10.c4
      have Y10c5 := Y10.c5
      have Y10l := Y10.1
      have Y10n : ¬ w7.heap.size = w10.heap.size := by omega
      have Z10c0 := Z10.c0
      have Z10c1 := Z10.c1
      have Z10c2 := Z10.c2
      have Z10c3 := Z10.c3
      have Z10c4 := Z10.c4
      have Z10c5 := Z10.c5
      have Z10l := Z10.1
      have Z10n : ¬ w8.heap.size = w10.heap.size := by omega
      rcases HOK.out with ⟨rfl, hmt, hn1, hn4, hv, q1, q2⟩ | rfl | rfl | rfl
      · clear HOK
        obtain ⟨⟨ha, hb⟩, hc, hd⟩ := limB_bd (motB_lim hmt)
        obtain ⟨hx, hy⟩ := vecB_bd (motB_vec hmt)
        obtain ⟨hp, hq⟩ := vecB_bd hv
        have m0 := mulBd (a := e1) (b := p) (A := 1000) (B := 1000) (by omega) (by omega) (by omega) (by omega)
        have m1 := mulBd (a := e2) (b := q) (A := 1000) (B := 1000) (by omega) (by omega) (by omega) (by omega)
        have m2 := mulBd (a := e3) (b := p) (A := 1000) (B := 1000) (by omega) (by omega) (by omega) (by omega)
        have m3 := mulBd (a := e4) (b := q) (A := 1000) (B := 1000) (by omega) (by omega) (by omega) (by omega)
        have m4 := mulBd (a := n) (b := e5) (A := 4) (B := 1000) (by omega) (by omega) (by omega) (by omega)
        have m5 := mulBd (a := n) (b := e6) (A := 4) (B := 1000) (by omega) (by omega) (by omega) (by omega)
        clear hmt hv
        go_wp2
        go_ret
        exact ⟨rfl, B10⟩
      all_goals
        clear HOK
        go_wp2
        go_ret
        exact ⟨rfl, B10⟩
end Go.Proofs.YtpdekopmnchanabGreatDoor
