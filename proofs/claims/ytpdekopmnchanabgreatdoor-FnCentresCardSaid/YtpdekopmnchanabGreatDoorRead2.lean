/-
  The contract of the program's ReadVec: it answers the vector whose text is given, and that there is none otherwise. Conditions: the text has at most 2^20 bytes; the library's table, its two errors and its constant read as they are laid.
-/
import Derived.Test.YtpdekopmnchanabGreatDoorRdN
import Derived.Deep.RegionHeld3
import Derived.Test.YtpdekopmnchanabGreatDoorDraw
namespace Go.Proofs.YtpdekopmnchanabGreatDoor
open Go.RowKit
set_option linter.unusedSimpArgs false
set_option linter.unusedVariables false

theorem KF0 (w : World) {w1 : World} {T : TypeId} (hb : Below (w.alloc (.cells #[.int .i64 0, .int .i64 0] T)).heap.size (w.alloc (.cells #[.int .i64 0, .int .i64 0] T)) w1) : KF w.heap.size 0 0 w1 := (KF.made w 0 0 T).call hb
theorem Kg0 (w : World) (a b : Int) {T : TypeId} : Kg w.heap.size a b (w.alloc (.cells #[.int .i64 a, .int .i64 b] T)) := by
  refine ⟨by simp, ?_, ?_⟩ <;> simp [go_sem]
theorem size_list (s : ByteArray) : s.data.toList.length = s.size := Array.length_toList
theorem size_arr (l : List UInt8) : (⟨l.toArray⟩ : ByteArray).size = l.length := by show l.toArray.size = _; simp

theorem ints_pair {ns : List Int} (h : ns.length = 2) : ∃ a b, ns = [a, b] := by
  match ns, h with
  | [a, b], _ => exact ⟨a, b, rfl⟩
theorem split_mk2 {l : List UInt8} {x y : Int} (e : l = Lib.itoa x ++ 44 :: Lib.itoa y) : SplitOf l [Lib.itoa x, Lib.itoa y] := by
  refine ⟨by rw [e]; simp [joinC], fun z hz => ?_⟩
  rcases List.mem_cons.1 hz with rfl | hz
  · exact itoa_comma x
  · rw [List.mem_singleton.1 hz]; exact itoa_comma y
theorem split_un2 {l a b : List UInt8} (h : SplitOf l [a, b]) : l = a ++ 44 :: b := by
  have e2 : l ++ [44] = (a ++ 44 :: b) ++ [44] := by rw [h.1]; simp [joinC]
  exact List.append_cancel_right e2
theorem rd_of_rnoN {l : List UInt8} (h : RNoN l 2) : RdNo l := by
  intro x y hv e
  obtain ⟨⟨a1, a2⟩, a3, a4⟩ := vecB_bd hv
  exact h [x, y] rfl (by intro z hz; simp at hz; omega) (split_mk2 e)
theorem rd_bad2 {l : List UInt8} {a b : Int} (h : SplitOf l [Lib.itoa a, Lib.itoa b]) (hv : vecB a b = false) : RdNo l := by
  intro x y hxy e
  have := split_one h (split_mk2 e)
  simp only [List.cons.injEq, and_true] at this
  rw [← itoa_injg this.1, ← itoa_injg this.2, hv] at hxy
  cases hxy

set_option maxHeartbeats 4000000 in
theorem implRead_any (s : ByteArray) (hs : s.size ≤ 1048576) (w : World) (hT : TabOK w) (hE : ErrsOK w) (hM : MaxOK w) :
    Calls Tryz.prog 27 #[.string s] w (RdPost s.data.toList w) := by
  have hA : Below w.heap.size w (w.alloc (.cells #[.int .i64 0, .int .i64 0] 27)) := (Below.refl _ _).alloc (Nat.le_refl _) _
  have CU := Lib.hid (readN_any s 2 2 rfl hs (by omega) (by omega) _ (hT.on hA) (hE.on hA) (hM.on hA))
  have F0' : KF w.heap.size 0 0 (w.alloc (.cells #[.int .i64 0, .int .i64 0] 27)) := KF.made w 0 0 _
  have hW1 : (w.alloc (.cells #[.int .i64 0, .int .i64 0] 27)).heap.size = w.heap.size + 1 := by simp
  have HW1 := Lib.hid hW1
  clear hW1 hs
  go_enter Tryz.func27, Tryz.ntmps27
  go_wp2_with fail
  refine (CU.out).mono ?_
  rintro e w1 ⟨v, b, ns, rfl, hy, hn, hb1⟩
  have B1 : Below w.heap.size w w1 := bstep hA hb1
  have F0 := F0'.call hb1
  clear F0' CU hb1
  cases b
  · obtain ⟨rfl, hno⟩ := hn rfl
    have N := Lib.hid (rd_of_rnoN hno)
    clear hy hn hno
    have e1 := F0.c0
    have e2 := F0.c1
    have e3 := F0.f0
    have e4 := F0.f1
    have e5 : w.heap.size < w1.heap.size := F0.lt
    go_wp2
    refine bodyPost_ret (v := .tuple #[.agg #[.int .i64 0, .int .i64 0], .bool false]) (by simp [results, Tryz.results27, go_sem, e1, e2, e5]) rfl ⟨0, 0, false, rfl, (fun h => by cases h), (fun _ => ⟨N.out, rfl, rfl⟩), ?_⟩
    repeat (first | assumption | refine Below.setCell ?_ (by first | omega | (simp <;> omega)) _)
  · obtain ⟨hlen, hsp, hown⟩ := hy rfl
    clear hy hn
    obtain ⟨x, y, rfl⟩ := ints_pair hlen
    obtain ⟨g, cap, rfl⟩ := own_form hown (by omega)
    obtain ⟨hg0, hg1, hgc⟩ := own_cell hown
    have q0 := hgc 0 (by simp)
    have q1 := hgc 1 (by simp)
    have hg2 : w.heap.size < g := by rw [HW1.out] at hg0; omega
    have q0' : w1.cell? ⟨g, 0, none⟩ = some (.int .i64 x) := q0
    have q1' : w1.cell? ⟨g, 1, none⟩ = some (.int .i64 y) := q1
    have KG : Kg g x y w1 := ⟨hg1, q0', q1'⟩
    have HSP := Lib.hid hsp
    clear hlen hsp hown hg0 hgc q0 q1
    have e5 : w.heap.size < w1.heap.size := F0.lt
    have BV : Below w.heap.size w (w1.alloc (.cells #[.int .i64 x, .int .i64 y] 27)).drew := Below.drew (B1.alloc B1.size _)
    have FV : KF w.heap.size 0 0 (w1.alloc (.cells #[.int .i64 x, .int .i64 y] 27)).drew := (F0.alloc _).drew
    have KV : Kg w1.heap.size x y (w1.alloc (.cells #[.int .i64 x, .int .i64 y] 27)).drew := (Kg0 w1 x y).drew
    go_wp2_with fail
    go_region_held3 (fun W => W.cell? ⟨g, 0, none⟩ = some (.int .i64 x) ∧ W.cell? ⟨g, 1, none⟩ = some (.int .i64 y)) ((refine Kg.cells ?_; repeat (first | assumption | with_reducible refine Kg.alloc ?_ _ | with_reducible refine Kg.drew ?_ | ((with_reducible refine Kg.put ?_ ?_); (first | exact Nat.lt_succ_self _ | omega | (dsimp only; omega)))))) (fail)
    rcases hv : vecB x y with _ | _
    · have N := Lib.hid (rd_bad2 HSP.out hv)
      clear HSP
      go_wp2_with fail
      refine (isValid_any x y _).mono ?_
      rintro e w2 ⟨rfl, hb2⟩
      rw [hv]
      have F2 := FV.call hb2
      have B2 := bstep BV hb2
      have e1 := F2.c0
      have e2 := F2.c1
      have e3 := F2.f0
      have e4 := F2.f1
      clear hb2 FV BV KV
      go_wp2
      refine bodyPost_ret (v := .tuple #[.agg #[.int .i64 0, .int .i64 0], .bool false]) (by simp [results, Tryz.results27, go_sem, e1, e2]) rfl ⟨0, 0, false, rfl, (fun h => by cases h), (fun _ => ⟨N.out, rfl, rfl⟩), ?_⟩
      repeat (first | assumption | refine Below.setCell ?_ (by first | omega | (simp <;> omega)) _)
    · have Y := Lib.hid (show RdYes s.data.toList x y from ⟨hv, split_un2 HSP.out⟩)
      clear HSP
      go_wp2_with fail
      refine (isValid_any x y _).mono ?_
      rintro e w2 ⟨rfl, hb2⟩
      rw [hv]
      have F2 := FV.call hb2
      have B2 := bstep BV hb2
      have K2 := KV.call hb2
      have e1 := F2.c0
      have e2 := F2.c1
      have e3 := F2.f0
      have e4 := F2.f1
      obtain ⟨k0, k1, k2⟩ := id K2
      clear hb2 FV BV KV
      go_wp2
      refine bodyPost_ret (v := .tuple #[.agg #[.int .i64 x, .int .i64 y], .bool true]) (by simp [results, Tryz.results27, go_sem, e1, e2]) rfl ⟨x, y, true, rfl, (fun _ => Y.out), (fun h => by cases h), ?_⟩
      repeat (first | assumption | refine Below.setCell ?_ (by first | omega | (simp <;> omega)) _)

end Go.Proofs.YtpdekopmnchanabGreatDoor
