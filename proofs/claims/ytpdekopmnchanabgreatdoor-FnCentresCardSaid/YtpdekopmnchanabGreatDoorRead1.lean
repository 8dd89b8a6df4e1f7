/-
  Contracts of the program's reading of numbers and vectors: readNumber answers a number exactly if it has that numeral. Conditions: the text has at most 2^20 bytes; the library's table and its two errors read as their initialisers lay them.
-/
import Derived.Test.YtpdekopmnchanabGreatDoorText
import Derived.Test.YtpdekopmnchanabGreatDoorNum
import Derived.Lib.ParseIntBTie
import Derived.WalkSmall
namespace Go.Proofs.YtpdekopmnchanabGreatDoor
open Go.RowKit
set_option linter.unusedSimpArgs false
set_option linter.unusedVariables false

theorem var_on {n : String} {cs : Array Value} {w W : World} (h : w.var? Tryz.prog n = some cs) (hb : Below w.heap.size w W) : W.var? Tryz.prog n = some cs := by
  unfold World.var? at *
  cases hg : Tryz.prog.globalNamed n with
  | none => simp [hg] at h
  | some g =>
    simp only [hg, Option.bind_some] at h ⊢
    have hlt : g < w.heap.size := by
      rcases Nat.lt_or_ge g w.heap.size with h1 | h1
      · exact h1
      · rw [Array.getElem?_eq_none h1] at h
        cases h
    rw [hb.block g hlt]
    exact h

def ErrsOK (w : World) : Prop := (∃ tp p, w.var? Tryz.prog "strconv.ErrSyntax" = some #[.iface tp p]) ∧ (∃ tp p, w.var? Tryz.prog "strconv.ErrRange" = some #[.iface tp p])
theorem ErrsOK.on {w W : World} (h : ErrsOK w) (hb : Below w.heap.size w W) : ErrsOK W := by
  obtain ⟨⟨t, p, h1⟩, u, q, h2⟩ := h
  exact ⟨⟨t, p, var_on h1 hb⟩, u, q, var_on h2 hb⟩

def i64B (n : Int) : Prop := -9223372036854775808 ≤ n ∧ n ≤ 9223372036854775807
theorem fmt64_any (n : Int) (W : World) (hT : TabOK W) (h : i64B n) :
    Calls Tryz.prog 90 #[.int .i64 n, .int .i64 10] W fun e w' => e = .returned (.string (numS n)) ∧ Below W.heap.size W w' :=
  (Any.strconv_FormatInt_10 Tryz.laysM173 n h.1 h.2 W hT).mono fun _ _ ⟨he, k, os, hw⟩ => ⟨he, hw ▸ Lib.below_grow _ W (Nat.le_refl _) k os⟩

theorem below_bytes (w : World) (e : TypeId) (t : ByteArray) : Below w.heap.size w (Lib.bytesWorld w e t) := by
  exact Lib.bytesWorld_below _ _ _

theorem parse_ok (s : ByteArray) (hs : s.size ≤ 1048576) (v : Int) (h : Lib.parseIntB 64 s.data.toList = .ok v) (w : World) :
    Calls Tryz.prog 97 #[.string s, .int .i64 10, .int .i64 64] w fun e w' => e = .returned (.tuple #[.int .i64 v, .nilIface]) ∧ Below w.heap.size w w' :=
  (Any.strconv_ParseInt_10_at64_ok Tryz.laysC174 s (by omega) v h w).mono fun _ _ ⟨he, hw⟩ => ⟨he, by
    rcases hw with rfl | ⟨t, rfl⟩
    · exact Below.refl _ _
    · exact below_bytes _ _ _⟩

def BadPost (w : World) (e : Ending) (w' : World) : Prop := ∃ (n : Int) (N : Nat), e = .returned (.tuple #[.int .i64 n, .iface 144 (.pointer (some ⟨N, 0, none⟩))]) ∧ Below w.heap.size w w'
theorem parse_bad (s : ByteArray) (hs : s.size ≤ 1048576) (h : ∀ v, Lib.parseIntB 64 s.data.toList ≠ .ok v) (w : World) (hE : ErrsOK w) :
    Calls Tryz.prog 97 #[.string s, .int .i64 10, .int .i64 64] w (BadPost w) := by
  obtain ⟨⟨t1, p1, e1⟩, t2, p2, e2⟩ := hE
  rcases hp : Lib.parseIntB 64 s.data.toList with v | _ | _
  all_goals first
    | exact absurd hp (h v)
    | exact (Any.strconv_ParseInt_10_at64_syntax_var Tryz.laysC174 s (by omega) hp t1 p1 w e1).mono fun _ _ ⟨N, he, _, _, hb⟩ => ⟨_, N, he, hb⟩
    | exact (Any.strconv_ParseInt_10_at64_range_var Tryz.laysC174 s (by omega) hp t2 p2 w e2).mono fun _ _ ⟨N, he, _, _, hb⟩ => ⟨_, N, he, hb⟩

def NumYes (l : List UInt8) (n : Int) : Prop := Lib.itoa n = l
def NumNo (l : List UInt8) : Prop := ∀ m, -1000 ≤ m → m ≤ 1000 → Lib.itoa m ≠ l
def NumPost (l : List UInt8) (w : World) (e : Ending) (w' : World) : Prop :=
  ∃ (n : Int) (b : Bool), e = .returned (.tuple #[.int .i64 n, .bool b]) ∧ (b = true → NumYes l n) ∧ (b = false → NumNo l) ∧ Below w.heap.size w w'

set_option maxHeartbeats 1000000 in
theorem readNumber_any (s : ByteArray) (hs : s.size ≤ 1048576) (w : World) (hT : TabOK w) (hE : ErrsOK w) :
    Calls Tryz.prog 85 #[.string s] w (NumPost s.data.toList w) := by
  by_cases hp : ∃ v, Lib.parseIntB 64 s.data.toList = .ok v
  · obtain ⟨v, hv⟩ := hp
    have PO := Lib.hid (parse_ok s hs v hv)
    have hb : Hid (i64B v) := by
      have := Lib.parseIntB_bounds hv
      exact ⟨by omega, by omega⟩
    clear hs
    go_enter Tryz.func85, Tryz.ntmps85
    go_wp2_with fail
    refine (PO.out _).mono ?_
    rintro e w1 ⟨rfl, hb1⟩
    go_wp2_with fail
    refine (fmt64_any v _ (hT.on hb1) hb.out).mono ?_
    rintro e w2 ⟨rfl, hb2⟩
    by_cases hq : Lib.itoa v = s.data.toList
    · have hqb : (!(numS v).toList == s.toList) = false := by
        rw [ByteArray.toList_eq, ByteArray.toList_eq]; simp [numS, hq]
      have HQ := Lib.hid hq
      clear hq
      go_wp2
      go_ret2
      exact ⟨v, true, rfl, fun _ => HQ.out, (fun h => by cases h), bstep hb1 hb2⟩
    · have hqb : (!(numS v).toList == s.toList) = true := by
        rw [ByteArray.toList_eq, ByteArray.toList_eq]; simp [numS, hq]
      have HN : Hid (NumNo s.data.toList) := by
        intro m m0 m1 hm
        have := parse_itoa m (by omega) (by omega)
        rw [hm, hv] at this
        cases this
        exact hq hm
      clear hq
      go_wp2
      go_ret2
      exact ⟨0, false, rfl, (fun h => by cases h), fun _ => HN.out, bstep hb1 hb2⟩
  · have hp' : ∀ v, Lib.parseIntB 64 s.data.toList ≠ .ok v := fun v h => hp ⟨v, h⟩
    have PB := Lib.hid (parse_bad s hs hp')
    go_enter Tryz.func85, Tryz.ntmps85
    go_wp2_with fail
    refine (PB.out _ hE).mono ?_
    rintro e w1 ⟨n, N, rfl, hb1⟩
    have HN : Hid (NumNo s.data.toList) := by
      intro m m0 m1 hm
      have := parse_itoa m (by omega) (by omega)
      rw [hm] at this
      exact hp' m this
    clear hp hp'
    go_wp2
    go_ret2
    exact ⟨0, false, rfl, (fun h => by cases h), fun _ => HN.out, hb1⟩

def MaxOK (w : World) : Prop := ∃ m, w.cell? ⟨1, 0, none⟩ = some (.int .i64 m)
theorem MaxOK.on {w W : World} (h : MaxOK w) (hb : Below w.heap.size w W) : MaxOK W := by
  obtain ⟨m, hm⟩ := h
  exact ⟨m, (hb.cell (World.block_lt_of_cell? _ _ hm)).trans hm⟩

def cutF (l left right : List UInt8) (b : Bool) : Prop :=
  (b = true ∧ l = left ++ 44 :: right ∧ (44 : UInt8) ∉ left) ∨ (b = false ∧ left = l ∧ right = [] ∧ (44 : UInt8) ∉ l)
def CutPost (l : List UInt8) (w : World) (e : Ending) (w' : World) : Prop :=
  ∃ (left right : List UInt8) (b : Bool), e = .returned (.tuple #[.string ⟨left.toArray⟩, .string ⟨right.toArray⟩, .bool b]) ∧ cutF l left right b ∧ left.length ≤ l.length ∧ right.length ≤ l.length ∧ Below w.heap.size w w'

theorem cut_any (s : ByteArray) (hs : s.size ≤ 1048576) (w : World) (hM : MaxOK w) :
    Calls Tryz.prog 25 #[.string s, .string ⟨#[44]⟩] w (CutPost s.data.toList w) := by
  obtain ⟨m, hm⟩ := hM
  refine (Any.strings_Cut { Tryz.laysM145 with } s ⟨#[44]⟩ m w (by omega) hm).mono fun e w' ⟨he, n, hw⟩ => ?_
  have hb : Below w.heap.size w w' := hw ▸ below_drewN (Below.refl _ _) n
  rcases cut_comma s.data.toList with ⟨h1, h2⟩ | ⟨l, r, h1, h2, h3⟩
  · exact ⟨s.data.toList, [], false, by rw [he]; show Ending.returned (.tuple #[.string ⟨(Lib.cut s.data.toList [44]).1.toArray⟩, .string ⟨(Lib.cut s.data.toList [44]).2.1.toArray⟩, .bool (Lib.cut s.data.toList [44]).2.2]) = _; rw [h1], .inr ⟨rfl, rfl, rfl, h2⟩, Nat.le_refl _, by simp, hb⟩
  · exact ⟨l, r, true, by rw [he]; show Ending.returned (.tuple #[.string ⟨(Lib.cut s.data.toList [44]).1.toArray⟩, .string ⟨(Lib.cut s.data.toList [44]).2.1.toArray⟩, .bool (Lib.cut s.data.toList [44]).2.2]) = _; rw [h3], .inl ⟨rfl, h1, h2⟩, by rw [h1]; simp, by rw [h1]; simp; omega, hb⟩

def RdYes (l : List UInt8) (x y : Int) : Prop := vecB x y = true ∧ l = Lib.itoa x ++ 44 :: Lib.itoa y
def RdNo (l : List UInt8) : Prop := ∀ x y, vecB x y = true → l ≠ Lib.itoa x ++ 44 :: Lib.itoa y
def RdPost (l : List UInt8) (w : World) (e : Ending) (w' : World) : Prop :=
  ∃ (x y : Int) (b : Bool), e = .returned (.tuple #[.agg #[.int .i64 x, .int .i64 y], .bool b]) ∧ (b = true → RdYes l x y) ∧ (b = false → RdNo l ∧ x = 0 ∧ y = 0) ∧ Below w.heap.size w w'

theorem rd_yes {l left right : List UInt8} {b : Bool} {x y : Int} (h : cutF l left right b) (h1 : NumYes left x) (h2 : NumYes right y) (hv : vecB x y = true) : RdYes l x y := by
  rcases h with ⟨_, e, _⟩ | ⟨_, _, e, _⟩
  · exact ⟨hv, by rw [e, h1, h2]⟩
  · rw [e] at h2; exact absurd h2 (itoa_ne y)
theorem rd_no1 {l left right : List UInt8} {b : Bool} (h : cutF l left right b) (h1 : NumNo left) : RdNo l := by
  intro x y hv e
  obtain ⟨⟨a1, a2⟩, a3, a4⟩ := vecB_bd hv
  rcases h with ⟨_, e', hn⟩ | ⟨_, _, _, hn⟩
  · rw [e] at e'
    exact h1 x a1 a2 (comma_inj (itoa_comma x) hn e').1
  · rw [e] at hn; exact hn (by simp)
theorem rd_no2 {l left right : List UInt8} {b : Bool} (h : cutF l left right b) (h1 : NumNo right) : RdNo l := by
  intro x y hv e
  obtain ⟨⟨a1, a2⟩, a3, a4⟩ := vecB_bd hv
  rcases h with ⟨_, e', hn⟩ | ⟨_, _, _, hn⟩
  · rw [e] at e'
    exact h1 y a3 a4 (comma_inj (itoa_comma x) hn e').2
  · rw [e] at hn; exact hn (by simp)
theorem rd_no3 {l left right : List UInt8} {b : Bool} {n m : Int} (h : cutF l left right b) (h1 : NumYes left n) (h2 : NumYes right m) (hv : vecB n m = false) : RdNo l := by
  intro x y hxy e
  rcases h with ⟨_, e', hn⟩ | ⟨_, _, _, hn⟩
  · rw [e] at e'
    obtain ⟨e1, e2⟩ := comma_inj (itoa_comma x) hn e'
    rw [← h1] at e1
    rw [← h2] at e2
    rw [itoa_injg e1, itoa_injg e2, hv] at hxy
    cases hxy
  · rw [e] at hn; exact hn (by simp)
theorem rd_one {l : List UInt8} {x y x' y' : Int} (h : RdYes l x y) (h' : RdYes l x' y') : x = x' ∧ y = y' := by
  have e := h.2.symm.trans h'.2
  obtain ⟨e1, e2⟩ := comma_inj (itoa_comma x) (itoa_comma x') e
  exact ⟨itoa_injg e1, itoa_injg e2⟩
theorem rd_not {l : List UInt8} {x y : Int} (h : RdYes l x y) (h' : RdNo l) : False := h' x y h.1 h.2

end Go.Proofs.YtpdekopmnchanabGreatDoor
