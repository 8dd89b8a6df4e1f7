/-
  The contract of the program's ReadVec: it answers the vector whose text is given, and that there is none otherwise. Conditions: the text has at most 2^20 bytes; the library's table, its two errors and its constant read as they are laid.
-/
import Derived.Test.YtlimlmlndleinaaDoorRead1
import Derived.Test.YtlimlmlndleinaaDoorDraw
namespace Go.Proofs.YtlimlmlndleinaaDoor
open Go.RowKit
set_option linter.unusedSimpArgs false
set_option linter.unusedVariables false

theorem KF0 (w : World) {w1 : World} {T : TypeId} (hb : Below (w.alloc (.cells #[.int .i64 0, .int .i64 0] T)).heap.size (w.alloc (.cells #[.int .i64 0, .int .i64 0] T)) w1) : KF w.heap.size 0 0 w1 := (KF.made w 0 0 T).call hb
theorem Kg0 (w : World) (a b : Int) {T : TypeId} : Kg w.heap.size a b (w.alloc (.cells #[.int .i64 a, .int .i64 b] T)) := by
  refine ⟨by simp, ?_, ?_⟩ <;> simp [go_sem]
theorem size_list (s : ByteArray) : s.data.toList.length = s.size := Array.length_toList
theorem size_arr (l : List UInt8) : (⟨l.toArray⟩ : ByteArray).size = l.length := by show l.toArray.size = _; simp

set_option maxHeartbeats 1000000 in
theorem implRead_any (s : ByteArray) (hs : s.size ≤ 1048576) (w : World) (hT : TabOK w) (hE : ErrsOK w) (hM : MaxOK w) :
    Calls Tryd.prog 9 #[.string s] w (RdPost s.data.toList w) := by
  have hA : Below w.heap.size w (w.alloc (.cells #[.int .i64 0, .int .i64 0] 25)) := (Below.refl _ _).alloc (Nat.le_refl _) _
  have CU := Lib.hid (cut_any s hs _ (hM.on hA))
  go_enter Tryd.func9, Tryd.ntmps9
  go_wp2_with fail
  refine (CU.out).mono ?_
  rintro e w1 ⟨left, right, bc, rfl, hcut, hl1, hl2, hb1⟩
  have hsl : s.data.toList.length ≤ 1048576 := by rw [size_list]; exact hs
  have B1 : Below w.heap.size w w1 := bstep hA hb1
  have HC := Lib.hid hcut
  have F0 := KF0 w hb1
  clear hcut CU
  go_wp2_with fail
  refine (readNumber_any ⟨left.toArray⟩ (by rw [size_arr]; omega) _ (hT.on B1) (hE.on B1)).mono ?_
  rintro e w2 ⟨n1, b1, rfl, y1, z1, hb2⟩
  have B2 : Below w.heap.size w w2 := bstep B1 hb2
  have F1 := F0.call hb2
  clear F0 hb1
  go_wp2_with fail
  refine (readNumber_any ⟨right.toArray⟩ (by rw [size_arr]; omega) _ (hT.on B2) (hE.on B2)).mono ?_
  rintro e w3 ⟨n2, b2, rfl, y2, z2, hb3⟩
  have B3 : Below w.heap.size w w3 := bstep B2 hb3
  have F2 := F1.call hb3
  clear F1 hb2 B1 B2
  have y1' : b1 = true → NumYes left n1 := y1
  have z1' : b1 = false → NumNo left := z1
  have y2' : b2 = true → NumYes right n2 := y2
  have z2' : b2 = false → NumNo right := z2
  clear y1 z1 y2 z2
  cases b1
  · have N := Lib.hid (rd_no1 HC.out (z1' rfl))
    clear y1' z1' y2' z2' HC
    have e1 := F2.c0
    have e2 := F2.c1
    have e3 := F2.f0
    have e4 := F2.f1
    have e5 : w.heap.size < w3.heap.size := F2.lt
    have e6 : ¬ w.heap.size = w3.heap.size := by omega
    go_wp2
    refine bodyPost_ret (v := .tuple #[.agg #[.int .i64 0, .int .i64 0], .bool false]) (by simp [results, Tryd.results9, go_sem, e1, e2, e5, e6]) rfl ⟨0, 0, false, rfl, (fun h => by cases h), (fun _ => ⟨N.out, rfl, rfl⟩), ?_⟩
    repeat (first | assumption | refine Below.setCell ?_ (by first | omega | (simp <;> omega)) _ | refine Below.alloc ?_ (by first | omega | (simp <;> omega)) _ | refine bstep ?_ (by assumption))
  cases b2
  · have N := Lib.hid (rd_no2 HC.out (z2' rfl))
    clear y1' z1' y2' z2' HC
    have e1 := F2.c0
    have e2 := F2.c1
    have e3 := F2.f0
    have e4 := F2.f1
    have e5 : w.heap.size < w3.heap.size := F2.lt
    have e6 : ¬ w.heap.size = w3.heap.size := by omega
    go_wp2
    refine bodyPost_ret (v := .tuple #[.agg #[.int .i64 0, .int .i64 0], .bool false]) (by simp [results, Tryd.results9, go_sem, e1, e2, e5, e6]) rfl ⟨0, 0, false, rfl, (fun h => by cases h), (fun _ => ⟨N.out, rfl, rfl⟩), ?_⟩
    repeat (first | assumption | refine Below.setCell ?_ (by first | omega | (simp <;> omega)) _ | refine Below.alloc ?_ (by first | omega | (simp <;> omega)) _ | refine bstep ?_ (by assumption))
  rcases hv : vecB n1 n2 with _ | _
  · have N := Lib.hid (rd_no3 HC.out (y1' rfl) (y2' rfl) hv)
    clear y1' z1' y2' z2' HC
    have e1 := F2.c0
    have e2 := F2.c1
    have e3 := F2.f0
    have e4 := F2.f1
    have e5 : w.heap.size < w3.heap.size := F2.lt
    have e6 : ¬ w.heap.size = w3.heap.size := by omega
    go_wp2_with fail
    refine (isValid_any _ _ _).mono ?_
    rintro e w4 ⟨rfl, hb4⟩
    have F3 := (F2.alloc _).call hb4
    have G3 : Kg w3.heap.size n1 n2 w4 := Kg.call (Kg0 w3 n1 n2) hb4
    clear e1 e2 e3 e4 e5 e6
    have e1 := F3.c0
    have e2 := F3.c1
    have e3 := F3.f0
    have e4 := F3.f1
    have e7 := G3.c0
    have e8 := G3.c1
    have e9 : w3.heap.size < w4.heap.size := G3.1
    have e5 : w.heap.size < w4.heap.size := F3.lt
    have e6 : ¬ w.heap.size = w3.heap.size := by have := F2.lt; omega
    have e10 : ¬ w3.heap.size = w.heap.size := by omega
    have e11 := B3.size
    go_wp2
    refine bodyPost_ret (v := .tuple #[.agg #[.int .i64 0, .int .i64 0], .bool false]) (by simp [results, Tryd.results9, go_sem, e1, e2, e5, e6, e10]) rfl ⟨0, 0, false, rfl, (fun h => by cases h), (fun _ => ⟨N.out, rfl, rfl⟩), ?_⟩
    repeat (first | assumption | refine Below.setCell ?_ (by first | omega | (simp <;> omega)) _ | refine Below.alloc ?_ (by first | omega | (simp <;> omega)) _ | refine bstep ?_ (by assumption))
  · have N := Lib.hid (rd_yes HC.out (y1' rfl) (y2' rfl) hv)
    clear y1' z1' y2' z2' HC
    have e1 := F2.c0
    have e2 := F2.c1
    have e3 := F2.f0
    have e4 := F2.f1
    have e5 : w.heap.size < w3.heap.size := F2.lt
    have e6 : ¬ w.heap.size = w3.heap.size := by omega
    go_wp2_with fail
    refine (isValid_any _ _ _).mono ?_
    rintro e w4 ⟨rfl, hb4⟩
    have F3 := (F2.alloc _).call hb4
    have G3 : Kg w3.heap.size n1 n2 w4 := Kg.call (Kg0 w3 n1 n2) hb4
    clear e1 e2 e3 e4 e5 e6
    have e1 := F3.c0
    have e2 := F3.c1
    have e3 := F3.f0
    have e4 := F3.f1
    have e7 := G3.c0
    have e8 := G3.c1
    have e9 : w3.heap.size < w4.heap.size := G3.1
    have e5 : w.heap.size < w4.heap.size := F3.lt
    have e6 : ¬ w.heap.size = w3.heap.size := by have := F2.lt; omega
    have e10 : ¬ w3.heap.size = w.heap.size := by omega
    have e11 := B3.size
    go_wp2
    refine bodyPost_ret (v := .tuple #[.agg #[.int .i64 n1, .int .i64 n2], .bool true]) (by simp [results, Tryd.results9, go_sem, e1, e2, e5, e6, e7, e8, e10]) rfl ⟨n1, n2, true, rfl, (fun _ => N.out), (fun h => by cases h), ?_⟩
    repeat (first | assumption | refine Below.setCell ?_ (by first | omega | (simp <;> omega)) _ | refine Below.alloc ?_ (by first | omega | (simp <;> omega)) _ | refine bstep ?_ (by assumption))

end Go.Proofs.YtlimlmlndleinaaDoor
