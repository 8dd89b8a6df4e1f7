/-
  Contracts of texts of numbers: the program's (strconv.FormatInt, append, strings.Join) and the model's join are one and the same. Conditions: at most four numbers from -10^12 to 10^12; the library's table of powers of ten reads as its initialiser lays it.
-/
import Derived.Test.YtpejihckepaojaaDoorText
import Derived.Test.YtpejihckepaojaaDoorKeep2
import Derived.OwnWalk
import Derived.Laws.OwnMore
namespace Go.Proofs.YtpejihckepaojaaDoor
open Go.RowKit
set_option linter.unusedSimpArgs false
set_option linter.unusedVariables false

def numsS (ns : List Int) : ByteArray := ⟨(Lib.join (ns.map Lib.itoa) [44]).toArray⟩
def bigN (ns : List Int) : Prop := ∀ n ∈ ns, -1000000000000 ≤ n ∧ n ≤ 1000000000000
def Ints (g : Nat) (ns : List Int) (W : World) : Prop := g < W.heap.size ∧ ∀ (i : Nat) (h : i < ns.length), W.cell? ⟨g, i, none⟩ = some (.int .i64 ns[i])
theorem Ints.grow {g B : Nat} {ns : List Int} {W w1 : World} (h : Ints g ns W) (hb : Below B W w1) (hg : g < B) : Ints g ns w1 :=
  ⟨Nat.lt_of_lt_of_le h.1 hb.size, fun i hi => by rw [hb.cell hg]; exact h.2 i hi⟩
theorem own_callM {W w1 : World} {base size n : Nat} {e : TypeId} {v : Value} {xs : List Value} (h : W.ownsRow base e size v n xs) (hb : Below W.heap.size W w1) : w1.ownsRow base e size v n xs :=
  h.kept (row := none) ⟨hb.os, hb.tape, hb.output, hb.size, fun k hk _ => hb.block k hk⟩ (by cases v.ownBlock <;> simp)
theorem join_cons2 (x y : List UInt8) (L : List (List UInt8)) (s : List UInt8) : Lib.join (x :: y :: L) s = x ++ s ++ Lib.join (y :: L) s := by
  simp [Lib.join, List.intercalate]
theorem join_one (x s : List UInt8) : Lib.join [x] s = x := by simp [Lib.join, List.intercalate]
theorem join_snoc (s x : List UInt8) : ∀ L : List (List UInt8), L ≠ [] → Lib.join (L ++ [x]) s = Lib.join L s ++ s ++ x
  | [], h => absurd rfl h
  | [a], _ => by rw [List.singleton_append, join_cons2, join_one, join_one]
  | a :: b :: L, _ => by
    rw [List.cons_append, List.cons_append, join_cons2, join_cons2, ← List.cons_append, join_snoc s x (b :: L) (by simp)]
    simp
theorem numsS_nil : numsS [] = ⟨#[]⟩ := by simp [numsS, Lib.join, List.intercalate]
theorem numsS_one (n : Int) : numsS [n] = numS n := by simp [numsS, join_one, numS]
theorem numsS_snoc (ns : List Int) (n : Int) (h : ns ≠ []) : numsS (ns ++ [n]) = numsS ns ++ ⟨#[44]⟩ ++ numS n := by
  unfold numsS numS
  rw [show (⟨#[44]⟩ : ByteArray) = ⟨[44].toArray⟩ from rfl]
  simp only [ByteArray.mk_append_mk]
  rw [List.map_append, List.map_cons, List.map_nil, join_snoc _ _ _ (by simpa using h)]
theorem join_len : ∀ ns : List Int, bigN ns → (Lib.join (ns.map Lib.itoa) [44]).length ≤ 22 * ns.length
  | [], _ => by simp [Lib.join, List.intercalate]
  | [a], h => by
    rw [List.map_cons, List.map_nil, join_one]
    have := h a (by simp)
    have := Lib.itoa_length_le a (by omega) (by omega)
    simp; omega
  | a :: b :: ns, h => by
    rw [List.map_cons, List.map_cons, join_cons2, ← List.map_cons]
    have h1 := join_len (b :: ns) (fun n hn => h n (List.mem_cons_of_mem _ hn))
    have := h a (by simp)
    have := Lib.itoa_length_le a (by omega) (by omega)
    simp at h1 ⊢; omega
theorem numsS_size (ns : List Int) (h : bigN ns) : (numsS ns).size ≤ 22 * ns.length := by
  show (Lib.join (ns.map Lib.itoa) [44]).toArray.size ≤ _
  rw [List.size_toArray]; exact join_len ns h
theorem take_snoc {α : Type} (l : List α) (k : Nat) (h : k < l.length) : l.take (k + 1) = l.take k ++ [l[k]] := List.take_succ_eq_append_getElem h
theorem bigN_take {ns : List Int} (h : bigN ns) (k : Nat) : bigN (ns.take k) := fun n hn => h n (List.mem_of_mem_take hn)

def TxtRel (w : World) (ns : List Int) (v i : Value) (W : World) : Prop :=
  ∃ k : Nat, i = .int .i64 k ∧ k ≤ ns.length ∧ W.ownsRow w.heap.size 9 1 v k (((ns.take k).map numS).map Value.string) ∧ Below w.heap.size w W
set_option maxHeartbeats 4000000 in
theorem numbersText_any (ns : List Int) (g cap : Nat) (w : World) (hT : TabOK w) (hI : Ints g ns w) (hN : bigN ns) (h4 : ns.length ≤ 4) (h1 : 0 < ns.length) :
    Calls Tryd.prog 100 #[.slice (some ⟨g, 0, none⟩) ns.length cap] w fun e w' => e = .returned (.string (numsS ns)) ∧ Below w.heap.size w w' := by
  have hJ := join_len ns hN
  have HJ := Lib.hid hJ
  have HI := Lib.hid hI
  have HN := Lib.hid hN
  clear hJ hI hN
  obtain ⟨i0, hi, hz0, hz1, hz2⟩ := info_parts (P := Tryd.prog) (e := 9) (z := .string ⟨#[]⟩) (size := 1) (bytes := 16) (by kernel_rfl)
  go_enter Tryd.func100, Tryd.ntmps100
  go_wp2_with fail
  go_loopw [3, 8] (fun v i W => TxtRel w ns v i W) (fun _ i _ => ns.length - (intOf i).toNat)
  case atStart => exact ⟨0, rfl, by omega, World.ownsRow_nil _ _ _ _, Below.refl _ _⟩
  case round =>
    obtain ⟨k, rfl, hk, hown, hB⟩ := hrel
    by_cases hk1 : k < ns.length
    · have hk0 : (0 : Int) ≤ (k : Int) := by omega
      have hk2 : (k : Int) < (ns.length : Int) := by omega
      have hc := (HI.out.grow hB HI.out.1).2 k hk1
      have hb := HN.out ns[k] (List.getElem_mem hk1)
      have HTk := Lib.hid (take_snoc ns k hk1)
      generalize ns[k] = n at *
      go_wp2_with fail
      refine (fmt_any n w _ hT hb.1 hb.2 hB).mono ?_
      rintro e w1 ⟨rfl, hb1⟩
      have hown1 := own_callM hown hb1
      have B1 := bstep hB hb1
      clear hown hB hb1 hc
      go_wp2_with (at_builtin; refine wpList_append_own _ rfl _ _ 68 rfl w.heap.size 9 i0 (.string ⟨#[]⟩) 1 16 Tryd.underlying68 hi hz0 hz1 hz2 rfl (by decide) _ _ _ rfl (hown1.alloc _) ⟨w1.heap.size, 0, none⟩ 1 1 [.string (numS n)] rfl rfl ?c1 ?c2 ?c3 ?c4 ?c5 ?_)
      case c1 =>
        intro j u hj
        match j, hj with
        | 0, hj => simp at hj; subst hj; simp [Addr.add]
      case c2 => intro u hu; simp at hu; subst hu; rfl
      case c3 => unfold maxLen; omega
      case c4 => omega
      case c5 => have := B1.size; simp; omega
      intro v' w2 hown' hgrow _
      have B2 : Below w.heap.size w w2 := Below.grown (Below.alloc B1 B1.size _) hgrow (by have := B1.size; simp; omega) (fun k hk => by have := (hown1.lt k hk).1; omega)
      have hown2 : w2.ownsRow w.heap.size 9 1 v' (k + 1) (((ns.take (k + 1)).map numS).map Value.string) := by rw [HTk.out]; simpa using hown'
      clear hown1 B1 hgrow hown'
      go_wp2
      go_roundw
      case rel => exact ⟨k + 1, by go_num, by omega, hown2, B2⟩
      case measure => first | (simp [intOf]; done) | (simp [intOf]; omega)
    · obtain rfl : k = ns.length := by omega
      obtain ⟨hx, ⟨_, h0⟩ | ⟨g', cap', cur, rfl, hg, hcell, hn, hm, hcs, htk⟩⟩ := id hown
      · omega
      have hlt : g' < wr.heap.size := (Array.getElem?_eq_some_iff.1 hcell).1
      have hcells : ∀ (j : Nat) x, (ns.map numS)[j]? = some x → wr.cell? ⟨g', 0 + j, none⟩ = some (.string x) := by
        intro j x hx'
        have hj4 : j < ns.length := by
          have := (List.getElem?_eq_some_iff.1 hx').1
          simpa using this
        rw [Nat.zero_add, hown.cellAt j (by omega), List.getElem?_map, List.take_of_length_le (Nat.le_refl _), hx']
        rfl
      have HC := Lib.hid hcells
      have HL := Lib.hid (show ns.length = (ns.map numS).length by simp)
      have hJ : (Lib.join ((ns.map numS).map (·.data.toList)) [44]).length ≤ 140737488355328 := by
        have e1 : (ns.map numS).map (·.data.toList) = ns.map Lib.itoa := by simp [numS]
        rw [e1]
        have := HJ.out
        omega
      have HJ2 := Lib.hid hJ
      have HE := Lib.hid (show (⟨(Lib.join ((ns.map numS).map (·.data.toList)) [44]).toArray⟩ : ByteArray) = numsS ns by unfold numsS; rw [show (ns.map numS).map (fun x : ByteArray => x.data.toList) = ns.map Lib.itoa from by simp [numS]])
      clear hcells hcell hown htk hcs hx hJ
      have JC := Lib.hid (Any.strings_Join Tryd.lays156 Tryd.Builder_Extra_156 g' 0 cap' (ns.map numS) ⟨#[44]⟩ wr HC.out hlt (by rw [← HL.out]; omega) (by rw [← HL.out]; exact hn) HJ2.out)
      go_wp2_with fail
      refine (show Calls _ _ #[.slice (some ⟨g', 0, none⟩) ns.length cap', .string ⟨#[44]⟩] _ _ from by rw [HL.out]; exact JC.out).mono ?_
      rintro e w1 ⟨rfl, hb1⟩
      go_wp2
      go_ret
      exact ⟨ret_str (by simpa using HE.out), bstep hB hb1⟩

theorem emptyS2 (x : ByteArray) : (⟨#[]⟩ : ByteArray) ++ x = x := by
  obtain ⟨⟨l⟩⟩ := x
  rw [show (⟨#[]⟩ : ByteArray) = ⟨[].toArray⟩ from rfl, show (⟨⟨l⟩⟩ : ByteArray) = ⟨l.toArray⟩ from rfl, ByteArray.mk_append_mk]
  rfl
theorem addS2 (x y : ByteArray) (h : x.size + y.size ≤ 1000) (W : World) : (Op.stringOp .add x y).run Tryd.prog W = .ok (.string (x ++ y)) W :=
  run_string_add_sum W _ _ (by omega)
def JnRel (w : World) (ns : List Int) (s i : Value) (W : World) : Prop :=
  ∃ k : Nat, i = .int .i64 k ∧ k ≤ ns.length ∧ s = .string (numsS (ns.take k)) ∧ Below w.heap.size w W
set_option maxHeartbeats 4000000 in
theorem joinN_any (ns : List Int) (g cap : Nat) (w : World) (hI : Ints g ns w) (hN : bigN ns) (h4 : ns.length ≤ 4) :
    Calls Tryd.prog 75 #[.slice (some ⟨g, 0, none⟩) ns.length cap, .string ⟨#[44]⟩] w fun e w' => e = .returned (.string (numsS ns)) ∧ Below w.heap.size w w' := by
  have HI := Lib.hid hI
  have HN := Lib.hid hN
  clear hI hN
  go_enter Tryd.func75, Tryd.ntmps75
  go_wp2_with fail
  go_loopw [5, 6] (fun s i W => JnRel w ns s i W) (fun _ i _ => ns.length - (intOf i).toNat)
  case atStart => exact ⟨0, rfl, by omega, by rw [List.take_zero, numsS_nil], Below.refl _ _⟩
  case round =>
    obtain ⟨k, rfl, hk, rfl, hB⟩ := hrel
    by_cases hk1 : k < ns.length
    · have hk0 : (0 : Int) ≤ (k : Int) := by omega
      have hk2 : (k : Int) < (ns.length : Int) := by omega
      have hc := (HI.out.grow hB HI.out.1).2 k hk1
      have hb := HN.out ns[k] (List.getElem_mem hk1)
      have HTk := Lib.hid (take_snoc ns k hk1)
      have hz := numsS_size (ns.take k) (bigN_take HN.out k)
      have hzl : (ns.take k).length ≤ 4 := by simp; omega
      have hzn := numS_size ns[k] hb.1 hb.2
      generalize ns[k] = n at *
      by_cases h0 : k = 0
      · subst h0
        have HE := Lib.hid (show numsS (ns.take (0 + 1)) = numS n by rw [HTk.out, List.take_zero, List.nil_append, numsS_one])
        have s2 := addS2 ⟨#[]⟩ (numS n) (by simp only [show (⟨#[]⟩ : ByteArray).size = 0 from rfl]; omega)
        have e0 : numsS (ns.take 0) = ⟨#[]⟩ := by rw [List.take_zero, numsS_nil]
        rw [e0]
        clear e0 hz
        go_wp2_with fail
        refine (number_any n _ hb.1 hb.2).mono ?_
        rintro e w1 ⟨rfl, hb1⟩
        go_wp2
        go_roundw
        case rel => exact ⟨1, by go_num, by omega, by rw [emptyS2, ← HE.out], bstep hB hb1⟩
        case measure => first | (simp [intOf]; done) | (simp [intOf]; omega)
      · have hne : ns.take k ≠ [] := by
          intro hh
          have := congrArg List.length hh
          rw [List.length_take, List.length_nil] at this
          omega
        have HE := Lib.hid (show numsS (ns.take (k + 1)) = numsS (ns.take k) ++ ⟨#[44]⟩ ++ numS n by rw [HTk.out, numsS_snoc _ _ hne])
        have hkp : (0 : Int) < (k : Int) := by omega
        generalize numsS (ns.take k) = P at *
        have s1 := addS2 P ⟨#[44]⟩ (by simp only [show (⟨#[44]⟩ : ByteArray).size = 1 from rfl]; omega)
        have s2 := addS2 (P ++ ⟨#[44]⟩) (numS n) (by rw [ByteArray.size_append]; simp only [show (⟨#[44]⟩ : ByteArray).size = 1 from rfl]; omega)
        clear hne hz
        go_wp2_with fail
        refine (number_any n _ hb.1 hb.2).mono ?_
        rintro e w1 ⟨rfl, hb1⟩
        go_wp2
        go_roundw
        case rel => exact ⟨k + 1, by go_num, by omega, by rw [HE.out], bstep hB hb1⟩
        case measure => first | (simp [intOf]; done) | (simp [intOf]; omega)
    · obtain rfl : k = ns.length := by omega
      have HE := Lib.hid (show numsS (ns.take ns.length) = numsS ns by rw [List.take_length])
      go_wp2
      go_ret
      exact ⟨ret_str (by simp), hB⟩

end Go.Proofs.YtpejihckepaojaaDoor
