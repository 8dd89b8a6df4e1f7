/-
  Contracts of the program's reading of numbers and vectors: readNumber answers a number exactly if it has that numeral. Conditions: the text has at most 2^20 bytes; the library's table and its two errors read as their initialisers lay them.
-/
import Derived.Test.YtcjefepjnomfaaaGreatDoorText
import Derived.Test.YtcjefepjnomfaaaGreatDoorNum
import Derived.Lib.ParseIntBTie
import Derived.WalkSmall
namespace Go.Proofs.YtcjefepjnomfaaaGreatDoor
open Go.RowKit
set_option linter.unusedSimpArgs false
set_option linter.unusedVariables false

theorem var_on {n : String} {cs : Array Value} {w W : World} (h : w.var? Tryz.prog n = some cs) (hb : Below w.heap.size w W) : W.var? Tryz.prog n = some cs := by
  unfold World.var? at *
  cases hg : Tryz.prog.globalNamed n with
  | none => simp [hg] at h
  | some g =>
    simp only [hg, Option.bind_some] at h ⊢
    have hlt : g < w.heap.size := by
      rcases Nat.lt_or_ge g w.heap.size with h1 | h1
      · exact h1
      · rw [Array.getElem?_eq_none h1] at h
        cases h
    rw [hb.block g hlt]
    exact h

def ErrsOK (w : World) : Prop := (∃ tp p, w.var? Tryz.prog "strconv.ErrSyntax" = some #[.iface tp p]) ∧ (∃ tp p, w.var? Tryz.prog "strconv.ErrRange" = some #[.iface tp p])
theorem ErrsOK.on {w W : World} (h : ErrsOK w) (hb : Below w.heap.size w W) : ErrsOK W := by
  obtain ⟨⟨t, p, h1⟩, u, q, h2⟩ := h
  exact ⟨⟨t, p, var_on h1 hb⟩, u, q, var_on h2 hb⟩

def i64B (n : Int) : Prop := -9223372036854775808 ≤ n ∧ n ≤ 9223372036854775807
theorem fmt64_any (n : Int) (W : World) (hT : TabOK W) (h : i64B n) :
    Calls Tryz.prog 63 #[.int .i64 n, .int .i64 10] W fun e w' => e = .returned (.string (numS n)) ∧ Below W.heap.size W w' :=
  (Any.strconv_FormatInt_10 Tryz.laysM173 n h.1 h.2 W hT).mono fun _ _ ⟨he, k, os, hw⟩ => ⟨he, hw ▸ Lib.below_grow _ W (Nat.le_refl _) k os⟩

theorem below_bytes (w : World) (e : TypeId) (t : ByteArray) : Below w.heap.size w (Lib.bytesWorld w e t) := by
  exact Lib.bytesWorld_below _ _ _

theorem parse_ok (s : ByteArray) (hs : s.size ≤ 1048576) (v : Int) (h : Lib.parseIntB 64 s.data.toList = .ok v) (w : World) :
    Calls Tryz.prog 75 #[.string s, .int .i64 10, .int .i64 64] w fun e w' => e = .returned (.tuple #[.int .i64 v, .nilIface]) ∧ Below w.heap.size w w' :=
  (Any.strconv_ParseInt_10_at64_ok Tryz.laysC174 s (by omega) v h w).mono fun _ _ ⟨he, hw⟩ => ⟨he, by
    rcases hw with rfl | ⟨t, rfl⟩
    · exact Below.refl _ _
    · exact below_bytes _ _ _⟩

def BadPost (w : World) (e : Ending) (w' : World) : Prop := ∃ (n : Int) (N : Nat), e = .returned (.tuple #[.int .i64 n, .iface 130 (.pointer (some ⟨N, 0, none⟩))]) ∧ Below w.heap.size w w'
theorem parse_bad (s : ByteArray) (hs : s.size ≤ 1048576) (h : ∀ v, Lib.parseIntB 64 s.data.toList ≠ .ok v) (w : World) (hE : ErrsOK w) :
    Calls Tryz.prog 75 #[.string s, .int .i64 10, .int .i64 64] w (BadPost w) := by
  obtain ⟨⟨t1, p1, e1⟩, t2, p2, e2⟩ := hE
  rcases hp : Lib.parseIntB 64 s.data.toList with v | _ | _
  all_goals first
    | exact absurd hp (h v)
    | exact (Any.strconv_ParseInt_10_at64_syntax_var Tryz.laysC174 s (by omega) hp t1 p1 w e1).mono fun _ _ ⟨N, he, _, _, hb⟩ => ⟨_, N, he, hb⟩
    | exact (Any.strconv_ParseInt_10_at64_range_var Tryz.laysC174 s (by omega) hp t2 p2 w e2).mono fun _ _ ⟨N, he, _, _, hb⟩ => ⟨_, N, he, hb⟩

def NumYes (l : List UInt8) (n : Int) : Prop := Lib.itoa n = l
def NumNo (l : List UInt8) : Prop := ∀ m, -1000 ≤ m → m ≤ 1000 → Lib.itoa m ≠ l
def NumPost (l : List UInt8) (w : World) (e : Ending) (w' : World) : Prop :=
  ∃ (n : Int) (b : Bool), e = .returned (.tuple #[.int .i64 n, .bool b]) ∧ (b = true → NumYes l n) ∧ (b = false → NumNo l) ∧ Below w.heap.size w w'

set_option maxHeartbeats 1000000 in
theorem readNumber_any (s : ByteArray) (hs : s.size ≤ 1048576) (w : World) (hT : TabOK w) (hE : ErrsOK w) :
    Calls Tryz.prog 66 #[.string s] w (NumPost s.data.toList w) := by
  by_cases hp : ∃ v, Lib.parseIntB 64 s.data.toList = .ok v
  · obtain ⟨v, hv⟩ := hp
    have PO := Lib.hid (parse_ok s hs v hv)
    have hb : Hid (i64B v) := by
      have := Lib.parseIntB_bounds hv
      exact ⟨by omega, by omega⟩
    clear hs
    go_enter Tryz.func66, Tryz.ntmps66
    go_wp2_with fail
    refine (PO.out _).mono ?_
    rintro e w1 ⟨rfl, hb1⟩
    go_wp2_with fail
    refine (fmt64_any v _ (hT.on hb1) hb.out).mono ?_
    rintro e w2 ⟨rfl, hb2⟩
    by_cases hq : Lib.itoa v = s.data.toList
    · have hqb : (!(numS v).toList == s.toList) = false := by
        rw [ByteArray.toList_eq, ByteArray.toList_eq]; simp [numS, hq]
      have HQ := Lib.hid hq
      clear hq
      go_wp2
      go_ret2
      exact ⟨v, true, rfl, fun _ => HQ.out, (fun h => by cases h), bstep hb1 hb2⟩
    · have hqb : (!(numS v).toList == s.toList) = true := by
        rw [ByteArray.toList_eq, ByteArray.toList_eq]; simp [numS, hq]
      have HN : Hid (NumNo s.data.toList) := by
        intro m m0 m1 hm
        have := parse_itoa m (by omega) (by omega)
        rw [hm, hv] at this
        cases this
        exact hq hm
      clear hq
      go_wp2
      go_ret2
      exact ⟨0, false, rfl, (fun h => by cases h), fun _ => HN.out, bstep hb1 hb2⟩
  · have hp' : ∀ v, Lib.parseIntB 64 s.data.toList ≠ .ok v := fun v h => hp ⟨v, h⟩
    have PB := Lib.hid (parse_bad s hs hp')
    go_enter Tryz.func66, Tryz.ntmps66
    go_wp2_with fail
    refine (PB.out _ hE).mono ?_
    rintro e w1 ⟨n, N, rfl, hb1⟩
    have HN : Hid (NumNo s.data.toList) := by
      intro m m0 m1 hm
      have := parse_itoa m (by omega) (by omega)
      rw [hm] at this
      exact hp' m this
    clear hp hp'
    go_wp2
    go_ret2
    exact ⟨0, false, rfl, (fun h => by cases h), fun _ => HN.out, hb1⟩

def MaxOK (w : World) : Prop := ∃ m, w.cell? ⟨1, 0, none⟩ = some (.int .i64 m)
theorem MaxOK.on {w W : World} (h : MaxOK w) (hb : Below w.heap.size w W) : MaxOK W := by
  obtain ⟨m, hm⟩ := h
  exact ⟨m, (hb.cell (World.block_lt_of_cell? _ _ hm)).trans hm⟩

end Go.Proofs.YtcjefepjnomfaaaGreatDoor
