/-
  Contracts of chapter 2's texts: the program's text of a matrix (strconv.FormatInt, append, strings.Join). Conditions: the numbers lie from -1000 to 1000; the library's table of powers of ten reads as its initialiser lays it.
-/
import Derived.Test.YtcphadkgmchnfaaGreatDoorText
import Derived.Test.YtcphadkgmchnfaaGreatDoorKeep2
import Derived.OwnWalk
import Derived.Laws.OwnMore
namespace Go.Proofs.YtcphadkgmchnfaaGreatDoor
open Go.RowKit
set_option linter.unusedSimpArgs false
set_option linter.unusedVariables false

def matL (a b c d : Int) : List ByteArray := [numS a, numS b, numS c, numS d]
def matS (a b c d : Int) : ByteArray := ⟨(Lib.join ((matL a b c d).map (·.data.toList)) [44]).toArray⟩
theorem own_callM {W w1 : World} {base size n : Nat} {e : TypeId} {v : Value} {xs : List Value} (h : W.ownsRow base e size v n xs) (hb : Below W.heap.size W w1) : w1.ownsRow base e size v n xs :=
  h.kept (row := none) ⟨hb.os, hb.tape, hb.output, hb.size, fun k hk _ => hb.block k hk⟩ (by cases v.ownBlock <;> simp)
def TxtRel (w : World) (a b c d : Int) (v i : Value) (W : World) : Prop :=
  ∃ (k : Nat) (j : Int), i = .int .i64 j ∧ j = k ∧ k ≤ 4 ∧ W.ownsRow (w.heap.size + 1) 9 1 v k (((matL a b c d).take k).map Value.string) ∧ Below w.heap.size w W ∧ w.heap.size + 1 ≤ W.heap.size
theorem join_small (a b c d : Int) (h : limB a b c d = true) : (Lib.join ((matL a b c d).map (·.data.toList)) [44]).length ≤ 140737488355328 := by
  obtain ⟨⟨ha, hb⟩, hc, hd⟩ := limB_bd h
  have e : ∀ x : Int, -1000 ≤ x ∧ x ≤ 1000 → (Lib.itoa x).length ≤ 21 := fun x hx => Lib.itoa_length_le x (by omega) (by omega)
  have h1 := e a ha
  have h2 := e b hb
  have h3 := e c hc
  have h4 := e d hd
  simp [Lib.join, matL, numS, List.intercalate]
  omega

set_option maxHeartbeats 4000000 in
theorem mtext_any (a b c d : Int) (w : World) (hT : TabOK w) (h : limB a b c d = true) :
    Calls Tryz.prog 28 #[.agg #[.int .i64 a, .int .i64 b, .int .i64 c, .int .i64 d]] w fun e w' => e = .returned (.string (matS a b c d)) ∧ Below w.heap.size w w' := by
  have hJ := join_small a b c d h
  have HJ := Lib.hid hJ
  clear hJ
  obtain ⟨⟨⟨ha, ha'⟩, hb, hb'⟩, ⟨hc, hc'⟩, hd, hd'⟩ := limB_bd h
  obtain ⟨i0, hi, hz0, hz1, hz2⟩ := info_parts (P := Tryz.prog) (e := 9) (z := .string ⟨#[]⟩) (size := 1) (bytes := 16) (by kernel_rfl)
  go_enter Tryz.func28, Tryz.ntmps28
  go_wp2_with fail
  go_loopw [3, 7] (fun v i W => TxtRel w a b c d v i W) (fun _ i _ => (4 - intOf i).toNat)
  case atStart => exact ⟨0, 0, rfl, rfl, by omega, World.ownsRow_nil _ _ _ _, Below.alloc (Below.refl _ _) (Nat.le_refl _) _, by simp⟩
  case round =>
    obtain ⟨k, j, rfl, hj, hk, hown, hB, hbs⟩ := hrel
    obtain rfl | rfl | rfl | rfl | rfl : k = 0 ∨ k = 1 ∨ k = 2 ∨ k = 3 ∨ k = 4 := by omega
    · obtain rfl : j = 0 := by omega
      clear hj hk
      have ix : ∀ w : World, (Instr.index 45 (.agg #[.int .i64 a, .int .i64 b, .int .i64 c, .int .i64 d]) (.int .i64 0)).run Tryz.prog w = .ok (.int .i64 a) w := fun _ => by kernel_rfl
      go_wp2_with fail
      refine (fmt_any a w _ hT (by omega) (by omega) hB).mono ?_
      rintro e w1 ⟨rfl, hb1⟩
      have hown1 := own_callM hown hb1
      have B1 := bstep hB hb1
      have hs1 : w.heap.size + 1 ≤ w1.heap.size := Nat.le_trans hbs hb1.size
      clear hown hB hbs hb1
      go_wp2_with (at_builtin; refine wpList_append_own _ rfl _ _ 60 rfl (w.heap.size + 1) 9 i0 (.string ⟨#[]⟩) 1 16 Tryz.underlying60 hi hz0 hz1 hz2 rfl (by decide) _ _ _ rfl (hown1.alloc _) ⟨w1.heap.size, 0, none⟩ 1 1 [.string (numS a)] rfl rfl ?c1 ?c2 ?c3 ?c4 ?c5 ?_)
      case c1 =>
        intro j u hj
        match j, hj with
        | 0, hj => simp at hj; subst hj; simp [Addr.add]
      case c2 => intro u hu; simp at hu; subst hu; rfl
      case c3 => unfold maxLen; omega
      case c4 => omega
      case c5 => simp; omega
      intro v' w2 hown' hgrow _
      have B2 : Below w.heap.size w w2 := Below.grown (Below.alloc B1 B1.size _) hgrow (by simp; omega) (fun k hk => by have := (hown1.lt k hk).1; omega)
      have hs2 : w.heap.size + 1 ≤ w2.heap.size := by have := hgrow.size; simp at this; omega
      clear hown1 B1 hgrow
      go_wp2
      go_roundw
      case rel => exact ⟨1, 1, rfl, rfl, by omega, hown', B2, hs2⟩
      case measure => simp [intOf]
    · obtain rfl : j = 1 := by omega
      clear hj hk
      have ix : ∀ w : World, (Instr.index 45 (.agg #[.int .i64 a, .int .i64 b, .int .i64 c, .int .i64 d]) (.int .i64 1)).run Tryz.prog w = .ok (.int .i64 b) w := fun _ => by kernel_rfl
      go_wp2_with fail
      refine (fmt_any b w _ hT (by omega) (by omega) hB).mono ?_
      rintro e w1 ⟨rfl, hb1⟩
      have hown1 := own_callM hown hb1
      have B1 := bstep hB hb1
      have hs1 : w.heap.size + 1 ≤ w1.heap.size := Nat.le_trans hbs hb1.size
      clear hown hB hbs hb1
      go_wp2_with (at_builtin; refine wpList_append_own _ rfl _ _ 60 rfl (w.heap.size + 1) 9 i0 (.string ⟨#[]⟩) 1 16 Tryz.underlying60 hi hz0 hz1 hz2 rfl (by decide) _ _ _ rfl (hown1.alloc _) ⟨w1.heap.size, 0, none⟩ 1 1 [.string (numS b)] rfl rfl ?c1 ?c2 ?c3 ?c4 ?c5 ?_)
      case c1 =>
        intro j u hj
        match j, hj with
        | 0, hj => simp at hj; subst hj; simp [Addr.add]
      case c2 => intro u hu; simp at hu; subst hu; rfl
      case c3 => unfold maxLen; omega
      case c4 => omega
      case c5 => simp; omega
      intro v' w2 hown' hgrow _
      have B2 : Below w.heap.size w w2 := Below.grown (Below.alloc B1 B1.size _) hgrow (by simp; omega) (fun k hk => by have := (hown1.lt k hk).1; omega)
      have hs2 : w.heap.size + 1 ≤ w2.heap.size := by have := hgrow.size; simp at this; omega
      clear hown1 B1 hgrow
      go_wp2
      go_roundw
      case rel => exact ⟨2, 2, rfl, rfl, by omega, hown', B2, hs2⟩
      case measure => simp [intOf]
    · obtain rfl : j = 2 := by omega
      clear hj hk
      have ix : ∀ w : World, (Instr.index 45 (.agg #[.int .i64 a, .int .i64 b, .int .i64 c, .int .i64 d]) (.int .i64 2)).run Tryz.prog w = .ok (.int .i64 c) w := fun _ => by kernel_rfl
      go_wp2_with fail
      refine (fmt_any c w _ hT (by omega) (by omega) hB).mono ?_
      rintro e w1 ⟨rfl, hb1⟩
      have hown1 := own_callM hown hb1
      have B1 := bstep hB hb1
      have hs1 : w.heap.size + 1 ≤ w1.heap.size := Nat.le_trans hbs hb1.size
      clear hown hB hbs hb1
      go_wp2_with (at_builtin; refine wpList_append_own _ rfl _ _ 60 rfl (w.heap.size + 1) 9 i0 (.string ⟨#[]⟩) 1 16 Tryz.underlying60 hi hz0 hz1 hz2 rfl (by decide) _ _ _ rfl (hown1.alloc _) ⟨w1.heap.size, 0, none⟩ 1 1 [.string (numS c)] rfl rfl ?c1 ?c2 ?c3 ?c4 ?c5 ?_)
      case c1 =>
        intro j u hj
        match j, hj with
        | 0, hj => simp at hj; subst hj; simp [Addr.add]
      case c2 => intro u hu; simp at hu; subst hu; rfl
      case c3 => unfold maxLen; omega
      case c4 => omega
      case c5 => simp; omega
      intro v' w2 hown' hgrow _
      have B2 : Below w.heap.size w w2 := Below.grown (Below.alloc B1 B1.size _) hgrow (by simp; omega) (fun k hk => by have := (hown1.lt k hk).1; omega)
      have hs2 : w.heap.size + 1 ≤ w2.heap.size := by have := hgrow.size; simp at this; omega
      clear hown1 B1 hgrow
      go_wp2
      go_roundw
      case rel => exact ⟨3, 3, rfl, rfl, by omega, hown', B2, hs2⟩
      case measure => simp [intOf]
    · obtain rfl : j = 3 := by omega
      clear hj hk
      have ix : ∀ w : World, (Instr.index 45 (.agg #[.int .i64 a, .int .i64 b, .int .i64 c, .int .i64 d]) (.int .i64 3)).run Tryz.prog w = .ok (.int .i64 d) w := fun _ => by kernel_rfl
      go_wp2_with fail
      refine (fmt_any d w _ hT (by omega) (by omega) hB).mono ?_
      rintro e w1 ⟨rfl, hb1⟩
      have hown1 := own_callM hown hb1
      have B1 := bstep hB hb1
      have hs1 : w.heap.size + 1 ≤ w1.heap.size := Nat.le_trans hbs hb1.size
      clear hown hB hbs hb1
      go_wp2_with (at_builtin; refine wpList_append_own _ rfl _ _ 60 rfl (w.heap.size + 1) 9 i0 (.string ⟨#[]⟩) 1 16 Tryz.underlying60 hi hz0 hz1 hz2 rfl (by decide) _ _ _ rfl (hown1.alloc _) ⟨w1.heap.size, 0, none⟩ 1 1 [.string (numS d)] rfl rfl ?c1 ?c2 ?c3 ?c4 ?c5 ?_)
      case c1 =>
        intro j u hj
        match j, hj with
        | 0, hj => simp at hj; subst hj; simp [Addr.add]
      case c2 => intro u hu; simp at hu; subst hu; rfl
      case c3 => unfold maxLen; omega
      case c4 => omega
      case c5 => simp; omega
      intro v' w2 hown' hgrow _
      have B2 : Below w.heap.size w w2 := Below.grown (Below.alloc B1 B1.size _) hgrow (by simp; omega) (fun k hk => by have := (hown1.lt k hk).1; omega)
      have hs2 : w.heap.size + 1 ≤ w2.heap.size := by have := hgrow.size; simp at this; omega
      clear hown1 B1 hgrow
      go_wp2
      go_roundw
      case rel => exact ⟨4, 4, rfl, rfl, by omega, hown', B2, hs2⟩
      case measure => simp [intOf]
    · obtain rfl : j = 4 := by omega
      clear hj hk
      obtain ⟨hx, ⟨_, h0⟩ | ⟨g, cap, cur, rfl, hg, hcell, hn, hm, hcs, htk⟩⟩ := id hown
      · omega
      have hlt : g < wr.heap.size := (Array.getElem?_eq_some_iff.1 hcell).1
      have hcells : ∀ (j : Nat) x, (matL a b c d)[j]? = some x → wr.cell? ⟨g, 0 + j, none⟩ = some (.string x) := by
        intro j x hx'
        have hj4 : j < 4 := by
          have := (List.getElem?_eq_some_iff.1 hx').1
          simpa [matL] using this
        rw [Nat.zero_add, hown.cellAt j (by omega), List.getElem?_map, List.take_of_length_le (by simp [matL]), hx']
        rfl
      have HC := Lib.hid hcells
      clear hcells hcell hown htk hcs hx
      go_wp2_with fail
      refine (Any.strings_Join Tryz.lays156 Tryz.Builder_Extra_156 g 0 cap (matL a b c d) ⟨#[44]⟩ wr HC.out hlt (by simp [matL]) (by simpa [matL] using hn) HJ.out).mono ?_
      rintro e w1 ⟨rfl, hb1⟩
      go_wp2
      go_ret
      exact ⟨rfl, bstep hB hb1⟩

/- the model's side: the numbers one behind the other, a comma between -/
def preS (a b c d : Int) : Nat → ByteArray
  | 0 => ⟨#[]⟩
  | 1 => numS a
  | 2 => numS a ++ ⟨#[44]⟩ ++ numS b
  | 3 => numS a ++ ⟨#[44]⟩ ++ numS b ++ ⟨#[44]⟩ ++ numS c
  | _ => numS a ++ ⟨#[44]⟩ ++ numS b ++ ⟨#[44]⟩ ++ numS c ++ ⟨#[44]⟩ ++ numS d
theorem preS_four (a b c d : Int) : preS a b c d 4 = matS a b c d := by
  show numS a ++ ⟨#[44]⟩ ++ numS b ++ ⟨#[44]⟩ ++ numS c ++ ⟨#[44]⟩ ++ numS d = _
  unfold matS matL numS
  rw [show (⟨#[44]⟩ : ByteArray) = ⟨[44].toArray⟩ from rfl]
  simp only [ByteArray.mk_append_mk]
  simp [Lib.join, List.intercalate]
theorem addS (x y : ByteArray) (h : x.size + y.size ≤ 1000) (W : World) : (Op.stringOp .add x y).run Tryz.prog W = .ok (.string (x ++ y)) W :=
  run_string_add_sum W _ _ (by omega)
theorem emptyS (x : ByteArray) : (⟨#[]⟩ : ByteArray) ++ x = x := by
  obtain ⟨⟨l⟩⟩ := x
  rw [show (⟨#[]⟩ : ByteArray) = ⟨[].toArray⟩ from rfl, show (⟨⟨l⟩⟩ : ByteArray) = ⟨l.toArray⟩ from rfl, ByteArray.mk_append_mk]
  rfl

def JoinRel (w : World) (g : Nat) (a b c d : Int) (s i : Value) (W : World) : Prop :=
  ∃ (k : Nat) (j : Int), i = .int .i64 j ∧ j = k ∧ k ≤ 4 ∧ s = .string (preS a b c d k) ∧ Kq g a b c d W ∧ Below w.heap.size w W
set_option maxHeartbeats 4000000 in
theorem join_any (a b c d : Int) (g : Nat) (w : World) (h : limB a b c d = true) (hg : Kq g a b c d w) :
    Calls Tryz.prog 35 #[.slice (some ⟨g, 0, none⟩) 4 4, .string ⟨#[44]⟩] w fun e w' => e = .returned (.string (matS a b c d)) ∧ Below w.heap.size w w' := by
  obtain ⟨⟨⟨ha, ha'⟩, hb, hb'⟩, ⟨hc, hc'⟩, hd, hd'⟩ := limB_bd h
  have za := numS_size a (by omega) (by omega)
  have zb := numS_size b (by omega) (by omega)
  have zc := numS_size c (by omega) (by omega)
  have zd := numS_size d (by omega) (by omega)
  go_enter Tryz.func35, Tryz.ntmps35
  go_wp2_with fail
  go_loopw [5, 6] (fun s i W => JoinRel w g a b c d s i W) (fun _ i _ => (4 - intOf i).toNat)
  case atStart => exact ⟨0, 0, rfl, rfl, by omega, rfl, hg, Below.refl _ _⟩
  case round =>
    clear hg
    obtain ⟨k, j, rfl, hj, hk, rfl, hK, hB⟩ := hrel
    obtain rfl | rfl | rfl | rfl | rfl : k = 0 ∨ k = 1 ∨ k = 2 ∨ k = 3 ∨ k = 4 := by omega
    · obtain rfl : j = 0 := by omega
      clear hj hk
      obtain ⟨k0, k1, k2, k3, k4⟩ := id hK
      rw [show preS a b c d 0 = ⟨#[]⟩ from rfl]
      have s2 := addS ⟨#[]⟩ (numS a) (by (try simp only [ByteArray.size_append]); simp only [show (⟨#[44]⟩ : ByteArray).size = 1 from rfl, show (⟨#[]⟩ : ByteArray).size = 0 from rfl]; omega)
      go_wp2_with fail
      refine (number_any a _ (by omega) (by omega)).mono ?_
      rintro e w1 ⟨rfl, hb1⟩
      go_wp2
      go_roundw
      case rel => exact ⟨1, 1, rfl, rfl, by omega, by rw [emptyS]; rfl, hK.call hb1, bstep hB hb1⟩
      case measure => simp [intOf]
    · obtain rfl : j = 1 := by omega
      clear hj hk
      obtain ⟨k0, k1, k2, k3, k4⟩ := id hK
      rw [show preS a b c d 1 = numS a from rfl]
      have s1 := addS (numS a) ⟨#[44]⟩ (by (try simp only [ByteArray.size_append]); simp only [show (⟨#[44]⟩ : ByteArray).size = 1 from rfl]; omega)
      have s2 := addS ((numS a : ByteArray) ++ ⟨#[44]⟩) (numS b) (by (try simp only [ByteArray.size_append]); simp only [show (⟨#[44]⟩ : ByteArray).size = 1 from rfl, show (⟨#[]⟩ : ByteArray).size = 0 from rfl]; omega)
      go_wp2_with fail
      refine (number_any b _ (by omega) (by omega)).mono ?_
      rintro e w1 ⟨rfl, hb1⟩
      go_wp2
      go_roundw
      case rel => exact ⟨2, 2, rfl, rfl, by omega, rfl, hK.call hb1, bstep hB hb1⟩
      case measure => simp [intOf]
    · obtain rfl : j = 2 := by omega
      clear hj hk
      obtain ⟨k0, k1, k2, k3, k4⟩ := id hK
      rw [show preS a b c d 2 = numS a ++ ⟨#[44]⟩ ++ numS b from rfl]
      have s1 := addS (numS a ++ ⟨#[44]⟩ ++ numS b) ⟨#[44]⟩ (by (try simp only [ByteArray.size_append]); simp only [show (⟨#[44]⟩ : ByteArray).size = 1 from rfl]; omega)
      have s2 := addS ((numS a ++ ⟨#[44]⟩ ++ numS b : ByteArray) ++ ⟨#[44]⟩) (numS c) (by (try simp only [ByteArray.size_append]); simp only [show (⟨#[44]⟩ : ByteArray).size = 1 from rfl, show (⟨#[]⟩ : ByteArray).size = 0 from rfl]; omega)
      go_wp2_with fail
      refine (number_any c _ (by omega) (by omega)).mono ?_
      rintro e w1 ⟨rfl, hb1⟩
      go_wp2
      go_roundw
      case rel => exact ⟨3, 3, rfl, rfl, by omega, rfl, hK.call hb1, bstep hB hb1⟩
      case measure => simp [intOf]
    · obtain rfl : j = 3 := by omega
      clear hj hk
      obtain ⟨k0, k1, k2, k3, k4⟩ := id hK
      rw [show preS a b c d 3 = numS a ++ ⟨#[44]⟩ ++ numS b ++ ⟨#[44]⟩ ++ numS c from rfl]
      have s1 := addS (numS a ++ ⟨#[44]⟩ ++ numS b ++ ⟨#[44]⟩ ++ numS c) ⟨#[44]⟩ (by (try simp only [ByteArray.size_append]); simp only [show (⟨#[44]⟩ : ByteArray).size = 1 from rfl]; omega)
      have s2 := addS ((numS a ++ ⟨#[44]⟩ ++ numS b ++ ⟨#[44]⟩ ++ numS c : ByteArray) ++ ⟨#[44]⟩) (numS d) (by (try simp only [ByteArray.size_append]); simp only [show (⟨#[44]⟩ : ByteArray).size = 1 from rfl, show (⟨#[]⟩ : ByteArray).size = 0 from rfl]; omega)
      go_wp2_with fail
      refine (number_any d _ (by omega) (by omega)).mono ?_
      rintro e w1 ⟨rfl, hb1⟩
      go_wp2
      go_roundw
      case rel => exact ⟨4, 4, rfl, rfl, by omega, rfl, hK.call hb1, bstep hB hb1⟩
      case measure => simp [intOf]
    · obtain rfl : j = 4 := by omega
      clear hj hk
      rw [preS_four]
      go_wp2
      go_ret
      exact ⟨rfl, hB⟩

end Go.Proofs.YtcphadkgmchnfaaGreatDoor
