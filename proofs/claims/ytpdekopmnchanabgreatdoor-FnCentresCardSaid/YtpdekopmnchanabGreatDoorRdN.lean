/-
  The contract of the program's readNumbers: it answers just so many numbers exactly if the text has their numerals, joined by commas. Conditions: the text has at most 2^20 bytes, one to four numbers; the library's variables read as their initialisers lay them.
-/
import Derived.Test.YtpdekopmnchanabGreatDoorMatR1
import Derived.LoopTactic
import Derived.OwnWalk
namespace Go.Proofs.YtpdekopmnchanabGreatDoor
open Go.RowKit
set_option linter.unusedSimpArgs false
set_option linter.unusedVariables false

def RNoN (l : List UInt8) (n : Nat) : Prop := ∀ ns : List Int, ns.length = n → (∀ x ∈ ns, -1000 ≤ x ∧ x ≤ 1000) → ¬ SplitOf l (ns.map Lib.itoa)
def RnPost (l : List UInt8) (n : Nat) (w : World) (e : Ending) (w' : World) : Prop :=
  ∃ (v : Value) (b : Bool) (ns : List Int), e = .returned (.tuple #[v, .bool b]) ∧
    (b = true → ns.length = n ∧ SplitOf l (ns.map Lib.itoa) ∧ w'.ownsRow w.heap.size 2 1 v n (ns.map (Value.int .i64))) ∧ (b = false → v = .slice none 0 0 ∧ RNoN l n) ∧ Below w.heap.size w w'
theorem rnoN_len {l : List UInt8} {ws : List (List UInt8)} {n : Nat} (h : SplitOf l ws) (hn : ws.length ≠ n) : RNoN l n := by
  intro ns hns _ h'
  exact hn (by rw [split_one h h', List.length_map, hns])
theorem rnoN_word {l : List UInt8} {ws : List (List UInt8)} {n : Nat} (h : SplitOf l ws) {x : List UInt8} (hx : x ∈ ws) (hn : NumNo x) : RNoN l n := by
  intro ns _ hb h'
  rw [split_one h h'] at hx
  obtain ⟨m, hm, rfl⟩ := List.mem_map.1 hx
  exact hn m (hb m hm).1 (hb m hm).2 rfl
theorem nums_split {ws : List (List UInt8)} {ns : List Int} (h : NumsK ws ns ws.length) : ns.map Lib.itoa = ws := by
  obtain ⟨h1, h2⟩ := h
  refine List.ext_getElem (by simpa using h1) (fun i hi hi' => ?_)
  rw [List.getElem_map]
  have := h2 i hi' hi'
  have e : ns.getD i 0 = ns[i]'(by simpa using hi) := by simp [List.getD, List.getElem?_eq_getElem (show i < ns.length by simpa using hi)]
  rw [e] at this
  exact this
theorem cells_new (W : World) (cs : Array Value) (T : TypeId) (i : Nat) (hi : i < cs.size) : (W.alloc (.cells cs T)).cell? ⟨W.heap.size, i, none⟩ = some cs[i] := by
  rw [cell_of_row _ _ i cs T (0, 0) (heap_alloc_new W _)]
  exact Array.getElem?_eq_getElem hi
theorem word_leN {l : List UInt8} {ws : List (List UInt8)} (h : SplitOf l ws) : ∀ x ∈ ws, x.length ≤ l.length := by
  intro x hx
  have h1 : (joinC ws).length = l.length + 1 := by rw [← h.1]; simp
  have h2 : ∀ (ws : List (List UInt8)), x ∈ ws → x.length + 1 ≤ (joinC ws).length := by
    intro ws
    induction ws with
    | nil => intro h; cases h
    | cons y ws ih =>
      intro h
      rw [joinC_cons]
      rcases List.mem_cons.1 h with rfl | h
      · simp
      · have := ih h
        simp
        omega
  have := h2 ws hx
  omega
theorem own_mono {w : World} {base base' size n : Nat} {e : TypeId} {v : Value} {xs : List Value} (h : w.ownsRow base e size v n xs) (hb : base' ≤ base) : w.ownsRow base' e size v n xs :=
  ⟨h.1, h.2.imp id (fun ⟨g, cap, cur, a, b, c⟩ => ⟨g, cap, cur, a, Nat.le_trans hb b, c⟩)⟩
set_option maxHeartbeats 4000000 in
theorem readN_any (s : ByteArray) (n : Nat) (nn : Int) (hnn : nn = n) (hs : s.size ≤ 1048576) (hn1 : 1 ≤ n) (hn4 : n ≤ 4) (w : World) (hT : TabOK w) (hE : ErrsOK w) (hM : MaxOK w) :
    Calls Tryz.prog 61 #[.string s, .int .i64 nn] w (RnPost s.data.toList n w) := by
  subst hnn
  have hW := split_words _ s rfl
  have hlen := Lib.splitB_all ⟨#[44]⟩ (by decide) 0 _ s rfl
  have hle := word_leN hW
  have hls : s.data.toList.length = s.size := Array.length_toList
  have hcl : Lib.countB s ⟨#[44]⟩ ≤ s.size := Lib.countB_le ⟨#[44]⟩ (by decide) s.size s (Nat.le_refl _)
  obtain ⟨m, hm⟩ := hM
  obtain ⟨i0, hi, hz0, hz1, hz2⟩ := info_parts info2
  have HW := Lib.hid hW
  have HLE := Lib.hid hle
  have HLS := Lib.hid hls
  have HLEN := Lib.hid hlen
  clear hW hle hls hlen
  go_enter Tryz.func61, Tryz.ntmps61
  go_wp2_with fail
  refine (Any.strings_Split { Tryz.laysM146 with } Tryz.laysM146.i9 s ⟨#[44]⟩ m _ (by omega) hm (by decide)).mono ?_
  rintro e w1 ⟨rfl, rfl⟩
  clear hm
  generalize Lib.countB s ⟨#[44]⟩ = c at HW HLE HLEN hcl ⊢
  generalize Lib.splitB ⟨#[44]⟩ 0 c s = xs at HW HLE HLEN ⊢
  have hxl : xs.length = c + 1 := HLEN.out
  have hws : (xs.map (·.data.toList)).length = c + 1 := by simpa using hxl
  have hcs : xs.map Value.string = (xs.map (·.data.toList)).map strV := by simp [strV]
  rw [hcs]
  have HCS := Lib.hid hcs
  generalize hgw : xs.map (·.data.toList) = ws at HW HLE hws ⊢
  clear hcs HCS HLEN hxl hgw xs
  by_cases h4 : c + 1 = n
  · subst h4
    have h5 : ((c : Int) + 1 != ((c + 1 : Nat) : Int)) = false := by simp
    have hg1 : w.heap.size < (w.alloc (.cells (ws.map strV).toArray (Tryz.laysM146_ren.t 9))).heap.size := by simp
    have HC := Lib.hid (show ∀ (i : Nat) (hi : i < ws.length), (w.alloc (.cells (ws.map strV).toArray (Tryz.laysM146_ren.t 9))).cell? ⟨w.heap.size, i, none⟩ = some (strV ws[i]) from fun i hi => by rw [cells_new _ _ _ i (by simpa using hi)]; simp)
    have BW : Below w.heap.size w (w.alloc (.cells (ws.map strV).toArray (Tryz.laysM146_ren.t 9))) := (Below.refl _ _).alloc (Nat.le_refl _) _
    have HB0 : w.heap.size + 1 = (w.alloc (.cells (ws.map strV).toArray (Tryz.laysM146_ren.t 9))).heap.size := by simp
    have hws' := Lib.hid hws
    have HB0' := Lib.hid HB0
    clear HB0
    generalize (w.alloc (.cells (ws.map strV).toArray (Tryz.laysM146_ren.t 9))) = w2 at HC BW hg1 HB0' ⊢
    have HWS := hws'
    clear hws' hws
    go_wp2_with fail
    go_loopw [7, 20] (fun v i W => ∃ (k : Nat) (ns : List Int), i = .int .i64 k ∧ k ≤ c + 1 ∧ Hid (NumsK ws ns k) ∧ ns.length ≤ 4 ∧ W.ownsRow (w.heap.size + 1) 2 1 v ns.length (ns.map (Value.int .i64)) ∧ Below (w.heap.size + 1) w2 W) (fun _ i _ => c + 1 - (intOf i).toNat)
    case atStart => exact ⟨0, [], rfl, by omega, ⟨rfl, fun i h h2 => by omega⟩, by simp, World.ownsRow_nil _ _ _ _, Below.refl _ _⟩
    case round =>
      obtain ⟨k, ns, rfl, hk, hN, hn4', hown, hB⟩ := hrel
      have hBw : Below w.heap.size w wr := BW.trans (hB.mono (by omega))
      have hsz : w.heap.size + 1 ≤ wr.heap.size := by have := hB.size; have := HB0'.out; omega
      by_cases h1 : k < c + 1
      · have h1' : k < ws.length := by rw [HWS.out]; exact h1
        have hcell : wr.cell? ⟨w.heap.size, k, none⟩ = some (.string ⟨ws[k].toArray⟩) := (hB.cell (by show w.heap.size < _; omega)).trans (HC.out k h1')
        have hxs : ws[k].length ≤ 1048576 := by have := HLE.out ws[k] (List.getElem_mem h1'); have := HLS.out; omega
        have S := Lib.hid (fun W => readNumber_any ⟨ws[k].toArray⟩ (by show ws[k].toArray.size ≤ _; simpa using hxs) W)
        have hk0 : (0 : Int) ≤ (k : Int) := by omega
        have hk1 : (k : Int) < (c : Int) + 1 := by omega
        have HLk := Lib.hid hN.out.1
        go_wp2_with fail
        refine (S.out _ (hT.on hBw) (hE.on hBw)).mono ?_
        rintro e w3 ⟨n, b, rfl, y, z, hb1⟩
        have y' : b = true → NumYes ws[k] n := y
        have z' : b = false → NumNo ws[k] := z
        have B1 : Below (w.heap.size + 1) w2 w3 := hB.trans (hb1.mono hsz)
        have B1w : Below w.heap.size w w3 := bstep hBw hb1
        have hs3 : w.heap.size + 1 ≤ w3.heap.size := Nat.le_trans hsz hb1.size
        have hown1 := own_call hown hb1
        clear y z hcell hown hB hb1 hsz hBw
        cases b
        · have N := Lib.hid (rnoN_word (n := c + 1) HW.out (List.getElem_mem h1') (z' rfl))
          clear y' z'
          go_wp2
          go_ret2
          exact ⟨.slice none 0 0, false, [], rfl, (fun h => by cases h), fun _ => ⟨rfl, N.out⟩, B1w⟩
        · have N := Lib.hid (numsK_next hN.out h1' (y' rfl))
          clear y' z' hN
          go_wp2_with (first | (at_builtin; refine wpList_append_own _ rfl _ _ 84 rfl (w.heap.size + 1) 2 i0 (.int .i64 0) 1 8 Tryz.underlying84 hi hz0 hz1 hz2 rfl (by decide) _ _ _ rfl (hown1.alloc _) ⟨w3.heap.size, 0, none⟩ 1 1 [.int .i64 n] rfl rfl ?c1 ?c2 ?c3 ?c4 ?c5 ?_))
          case c1 =>
            intro j u hj
            match j, hj with
            | 0, hj => simp at hj; subst hj; simp [Addr.add]
          case c2 => intro u hu; simp at hu; subst hu; rfl
          case c3 => unfold maxLen; omega
          case c4 => omega
          case c5 => simp; omega
          intro v' w4 hown' hgrow _
          have O := Lib.hid (ints_next hown')
          have B2 : Below (w.heap.size + 1) w2 w4 := (B1.alloc hs3 _).grown hgrow (by simp; omega) (own_base hown1)
          clear hown' hgrow hown1
          go_wp2
          go_roundw
          case rel => exact ⟨k + 1, ns ++ [n], by go_num, by omega, N.out, by have := HLk.out; simp; omega, O.out, B2⟩
          case measure => first | (simp [intOf]; done) | (simp [intOf]; omega)
      · obtain rfl : k = c + 1 := by omega
        have hlen : ns.length = c + 1 := hN.out.1
        have HS := Lib.hid (show SplitOf s.data.toList (ns.map Lib.itoa) by rw [nums_split (by rw [HWS.out]; exact hN.out)]; exact HW.out)
        have HO := Lib.hid (show wr.ownsRow w.heap.size 2 1 _ (c + 1) (ns.map (Value.int .i64)) from by rw [hlen] at hown; exact own_mono hown (by omega))
        clear hown hB
        go_wp2
        go_ret2
        exact ⟨_, true, ns, rfl, (fun _ => ⟨hlen, HS.out, HO.out⟩), (fun h => by cases h), hBw⟩
  · have HN := Lib.hid (rnoN_len (n := n) HW.out (by omega))
    have h5 : ((c : Int) + 1 != (n : Int)) = true := by simp; omega
    have h6 : ¬ (c : Int) + 1 = (n : Int) := by omega
    have hn63 : c + 1 ≤ 9223372036854775807 := by omega
    have B1 : Below w.heap.size w (w.alloc (.cells (ws.map strV).toArray (Tryz.laysM146_ren.t 9))) := (Below.refl _ _).alloc (Nat.le_refl _) _
    clear hcl h4 hws HW HLE HLS hn1 hn4
    generalize (w.alloc (.cells (ws.map strV).toArray (Tryz.laysM146_ren.t 9))) = w2 at B1 ⊢
    go_wp2
    go_ret2
    exact ⟨.slice none 0 0, false, [], rfl, (fun h => by cases h), fun _ => ⟨rfl, HN.out⟩, B1⟩

end Go.Proofs.YtpdekopmnchanabGreatDoor
