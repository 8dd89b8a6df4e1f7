/-
  The first cell of a cell's orbit, and FillFrieze in the program. Condition: the slice lies in a block of its own.
-/
import Derived.Test.YtajmfeppnhkcdaaFzB
import Derived.Maps.AppendAt
import Derived.Tactics
namespace Go.Proofs.Ytajmfeppnhkcdaa
open Go.RowKit
set_option linter.unusedSimpArgs false
set_option linter.unusedVariables false

def natF (l : List Nat) (t : Nat) : Int := ((l.getD t 0 : Nat) : Int)
theorem natF_at {l : List Nat} {t : Nat} (ht : t < l.length) : natF l t = ((l[t] : Nat) : Int) := by
  unfold natF; rw [List.getD_eq_getElem?_getD, List.getElem?_eq_getElem ht]; rfl
theorem natF_snoc {l : List Nat} {x t : Nat} (ht : t < l.length) : natF (l ++ [x]) t = natF l t := by
  unfold natF; rw [List.getD_eq_getElem?_getD, List.getD_eq_getElem?_getD, List.getElem?_append_left ht]
theorem cells_snoc (l : List Nat) (x : Nat) : cellsI (natF (l ++ [x])) (l ++ [x]).length = cellsI (natF l) l.length ++ [.int .i64 ((x : Nat) : Int)] := by
  rw [List.length_append, List.length_singleton, cellsI_succ, cellsI_ext (fun t ht => natF_snoc ht)]
  congr 2
  unfold natF
  rw [List.getD_eq_getElem?_getD, List.getElem?_append_right (Nat.le_refl _)]
  simp
/- the least of the first k numbers -/
theorem minL_take {l : List Nat} {k : Nat} (hk : k < l.length) (h0 : 0 < k) : minL (l.take (k + 1)) = min (minL (l.take k)) l[k] := by
  cases l with
  | nil => simp at hk
  | cons a l =>
    obtain ⟨j, rfl⟩ : ∃ j, k = j + 1 := ⟨k - 1, by omega⟩
    have hj : j < l.length := by simpa using hk
    rw [List.take_succ_cons, List.take_succ_cons]
    simp only [minL, List.getElem_cons_succ]
    rw [List.take_add_one, List.getElem?_eq_getElem hj, List.foldl_append]
    rfl
/- append onto a slice of the call's own, told more: the new slice lies in the old block, or in a new one, and then every old block is as it was -/
theorem wpList_append8 {P : Program} {w : World} {ops : Array Oper} {rest : List Oper} {o : Oper} {a : Act} {Q : Exit → Act → World → Prop} (hgd : o.guard = none) (s x : Operand) (t : TypeId)
    (ho : o.op = .call { callee := .builtin .append, args := #[s, x], argTypes := #[t, t] })
    (base : Nat) (e : TypeId) (i : TypeInfo) (z : Value) (size bytes : Nat) (ht : P.underlying t = some (.slice e)) (hi : P.info? e = some i) (hz : i.zero = some z)
    (hsize : i.size = size) (hby : i.bytes = bytes) (hzs : z.cells.size = size) (hsz : 0 < size)
    (g n cap : Nat) (xs : List Value) (hs : a.eval s = .slice (some ⟨g, 0, none⟩) n cap) (hown : w.ownsRow base e size (.slice (some ⟨g, 0, none⟩) n cap) n xs)
    (ad : Addr) (m c : Nat) (news : List Value) (hx : a.eval x = .slice (some ad) m c) (hl : news.length = m * size) (hnews : ∀ j u, news[j]? = some u → w.cell? (ad.add j) = some u) (h1 : ∀ u ∈ news, u.oneCell' = true)
    (h63 : n + m ≤ 1000000) (hbytes : (n + m) * bytes ≤ 140737488355328) (hbase : base ≤ w.heap.size)
    (h : ∀ v' w', w'.ownsRow base e size v' (n + m) (xs ++ news) → w.grownBy w' (some g) → (v'.ownBlock = some g ∨ (v'.ownBlock = some w.heap.size ∧ ∀ k, k < w.heap.size → w'.heap[k]? = w.heap[k]?)) → wpList P ops Q rest (a.put o.dst v') w') :
    wpList P ops Q (o :: rest) a w := by
  have hmax : n + m ≤ maxLen := by unfold maxLen; omega
  refine wpList_plain hgd fun K hK => ?_
  obtain ⟨v', w', hr, h2, h3, _, _⟩ := run_append_own_at (P := P) w base t o.type e i z size bytes ht hi hz hsize hby hzs hsz _ n xs hown ad m c news hl hnews h1 hmax hbytes hbase
  have h9 : v'.ownBlock = some g ∨ (v'.ownBlock = some w.heap.size ∧ ∀ k, k < w.heap.size → w'.heap[k]? = w.heap[k]?) := by
    subst hsize
    subst hby
    by_cases hroom : n + m ≤ cap
    · rcases hown.2 with ⟨h0, _⟩ | ⟨g', cap', cur, hv, hbg, hg, hnc, hcm, hcs, htake⟩
      · cases h0
      · cases hv
        have hfit : n * i.size + news.length ≤ cur.size := by rw [hl, hcs, ← Nat.add_mul]; exact Nat.mul_le_mul_right _ hroom
        have hr2 := run_append_room (P := P) w t o.type e i ht hi g n cap cur hg ad m c news hl hnews h1 hroom hfit
        rw [hr] at hr2
        simp only [Result.ok.injEq] at hr2
        exact .inl (by rw [hr2.1]; rfl)
    · have holds : ∀ j u, xs[j]? = some u → w.cell? ((⟨g, 0, none⟩ : Addr).add j) = some u := hown.cells (g := g) rfl
      have hr2 := run_append_grow (P := P) w t o.type e i z ht hi hz ⟨g, 0, none⟩ n cap xs hown.1 holds ad m c news hl hnews (by omega) (by omega) (growslice_fits (by omega) hbytes)
      rw [hr] at hr2
      simp only [Result.ok.injEq] at hr2
      refine .inr ⟨by rw [hr2.1]; rfl, fun k hk => ?_⟩
      rw [hr2.2]
      exact heap_alloc_old w.drew _ (by simpa using hk)
  unfold Oper.wp execOp
  simp only [ho, resolve, invoke, builtin, Sem.run_bind, Sem.run_pure, Result.andThen_ok, List.map_toArray, List.map_cons, List.map_nil, hs, hx, hr]
  exact hK _ _ (h v' w' h2 h3 h9)
set_option maxRecDepth 100000 in
set_option maxHeartbeats 4000000 in
theorem min_any {lo hi : Nat} {l : List Nat} {v : Value} {w : World} (h : SRow lo hi 1 v l.length (natF l) w) (h0 : 0 < l.length) (hl : l.length ≤ 100) :
    Calls Try.prog 72 #[v] w fun e w' => e = .returned (.int .i64 ((minL l : Nat) : Int)) ∧ Below w.heap.size w w' := by
  obtain ⟨g, cap, rfl, hg, _, r⟩ := h.irow h0
  have hgs := h.1
  have hl1 : (1 : Int) ≤ (l.length : Int) ∧ (l.length : Int) ≤ 100 := by omega
  have c0 := r.at 0 (by omega)
  have R := Lib.hid r
  have H0 := Lib.hid (show natF l 0 = ((minL (l.take 1) : Nat) : Int) by
    rw [natF_at h0]
    cases l with
    | nil => simp at h0
    | cons a l => rfl)
  have hgl : g < w.heap.size := by omega
  have hn1 : ¬ ((l.length : Int) < 1) := by omega
  have hl0 : (0 : Int) < (l.length : Int) := by omega
  rw [H0.out] at c0
  clear h r
  go_enter Try.func72, Try.ntmps72
  go_wp2_with fail
  go_loopw [3, 4] (fun s3 s4 W => ∃ k : Nat, s4 = .int .i64 (k : Int) ∧ 1 ≤ k ∧ k ≤ l.length ∧ s3 = .int .i64 ((minL (l.take k) : Nat) : Int) ∧ Below w.heap.size w W) (fun _ s4 _ => l.length - (intOf s4).toNat)
  case atStart => exact ⟨1, rfl, by omega, by omega, rfl, Below.refl _ _⟩
  case round =>
    obtain ⟨k, rfl, hk1, hk, rfl, hB⟩ := hrel
    by_cases hk2 : k < l.length
    · have hk3 : (k : Int) < (l.length : Int) := by omega
      have r := R.out.call hB
      have ck := r.at k (by omega)
      rw [natF_at hk2] at ck
      have hm := minL_take hk2 (by omega)
      have hgl2 := r.1
      obtain ⟨x, hx⟩ : ∃ x, x = l[k] := ⟨_, rfl⟩
      rw [← hx] at ck hm
      obtain ⟨m, hmm⟩ : ∃ m, m = minL (l.take k) := ⟨_, rfl⟩
      rw [← hmm] at hm ⊢
      have HM := Lib.hid hm
      clear r hm hx hmm
      rcases Nat.lt_or_ge x m with hxm | hxm
      · have hxi : (x : Int) < (m : Int) := by omega
        have hmin : min (m : Int) (x : Int) = (x : Int) := by omega
        go_wp2
        go_roundw
        case rel => exact ⟨k + 1, by go_num, by omega, by omega, by rw [HM.out]; simp only [Value.int.injEq, true_and]; omega, hB⟩
        case measure => first | (simp [intOf]; done) | (simp [intOf]; omega)
      · have hxi : ¬ (x : Int) < (m : Int) := by omega
        have hmin : min (m : Int) (x : Int) = (m : Int) := by omega
        go_wp2
        go_roundw
        case rel => exact ⟨k + 1, by go_num, by omega, by omega, by rw [HM.out]; simp only [Value.int.injEq, true_and]; omega, hB⟩
        case measure => first | (simp [intOf]; done) | (simp [intOf]; omega)
    · obtain rfl : k = l.length := by omega
      go_wp2
      go_ret
      exact ⟨ret_int (by rw [List.take_length]), hB⟩
theorem orbN_snoc (h w : Nat) {ms : List FMo} {i : Nat} (hi : i < ms.length) (c : Nat) : orbN h w (ms.take (i + 1)) c = orbN h w (ms.take i) c ++ (orbN h w (ms.take i) c).map (imM h w ms[i]) := by
  unfold orbN
  rw [List.take_add_one, List.getElem?_eq_getElem hi, List.foldl_append]
  rfl
theorem orbN_len4 (h w : Nat) {ms : List FMo} (hm : ms.length ≤ 2) (c : Nat) : (orbN h w ms c).length ≤ 4 ∧ 1 ≤ (orbN h w ms c).length := by
  match ms, hm with
  | [], _ => simp [orbN]
  | [a], _ => simp [orbN]
  | [a, b], _ => simp [orbN]
theorem take_map_snoc {L : List Nat} {f : Nat → Nat} {j : Nat} (hj : j < L.length) : L ++ (L.map f).take (j + 1) = (L ++ (L.map f).take j) ++ [f L[j]] := by
  rw [List.take_add_one, List.getElem?_map, List.getElem?_eq_getElem hj, List.append_assoc]; rfl
/- a list of cells that a loop goes through, while another one grows -/
def Old (g : Nat) (L : List Nat) (X : World) : Prop := g < X.heap.size ∧ ∀ t (ht : t < L.length), X.cell? ⟨g, t, none⟩ = some (.int .i64 ((L[t] : Nat) : Int))
theorem Old.call {g : Nat} {L : List Nat} {X w1 : World} (h : Old g L X) (hb : Below X.heap.size X w1) : Old g L w1 :=
  ⟨Nat.lt_of_lt_of_le h.1 hb.size, fun t ht => by rw [hb.cell (p := ⟨g, t, none⟩) h.1]; exact h.2 t ht⟩
theorem Old.same {g : Nat} {L : List Nat} {X w1 : World} (h : Old g L X) (hh : w1.heap[g]? = X.heap[g]?) (hs : X.heap.size ≤ w1.heap.size) : Old g L w1 :=
  ⟨Nat.lt_of_lt_of_le h.1 hs, fun t ht => (World.cell?_of_block (w := X) hh).trans (h.2 t ht)⟩
theorem own_some {W : World} {base n : Nat} {e : TypeId} {size : Nat} {v : Value} {xs : List Value} (h : W.ownsRow base e size v n xs) (h0 : 0 < n) : ∃ g cap, v = .slice (some ⟨g, 0, none⟩) n cap ∧ base ≤ g ∧ g < W.heap.size := by
  rcases h.2 with ⟨_, h2⟩ | ⟨g, cap, cur, rfl, hb, _⟩
  · omega
  · exact ⟨g, cap, rfl, hb, (h.lt g rfl).2⟩
theorem nbk {v' : Value} {g7 B s : Nat} {Q : Prop} (hat : v'.ownBlock = some g7 ∨ (v'.ownBlock = some s ∧ Q)) (h1 : (some g7 : Option Nat) ≠ some B) (h2 : B < s) : v'.ownBlock ≠ some B := by
  rcases hat with e | ⟨e, _⟩ <;> rw [e]
  · exact h1
  · intro e2; simp only [Option.some.injEq] at e2; omega
set_option maxRecDepth 100000 in
set_option maxHeartbeats 16000000 in
theorem firstCell_any {lo hi h w n c : Nat} {v u : Value} {F : Nat → Int} {ms : List FMo} {W : World} (p : FriI h w n F) (hv : SRow lo hi 1 v n F W) (hu : MRo u ms W) (hm2 : ms.length ≤ 2) (hsh : ∀ m ∈ ms, m.2.2 ≤ 1000) (hc : c < n) :
    Calls Try.prog 47 #[.agg #[.int .i64 (h : Int), .int .i64 (w : Int), v], u, .int .i64 (c : Int)] W fun e w' => e = .returned (.int .i64 ((firN h w ms c : Nat) : Int)) ∧ Below W.heap.size W w' := by
  obtain ⟨i0, hinf, hz0, hz1, hz2⟩ := info_parts infoI64
  have R := Lib.hid hv
  have P := Lib.hid p
  have h6 := p.h6
  have w24 := p.w24
  have n144 := p.n144
  have HNN := Lib.hid p.nn
  obtain ⟨g0, cap0, rfl, hg0, _, r⟩ := hv.irow p.n1
  have HU := Lib.hid hu
  obtain ⟨aou, capu, rfl⟩ : ∃ ao cap, u = .slice ao ms.length cap := by
    rcases hu with ⟨h1, ao, cap, rfl⟩ | ⟨g, cap, rfl, _⟩
    · exact ⟨ao, cap, by rw [h1]⟩
    · exact ⟨_, cap, rfl⟩
  have hci : (c : Int) ≤ 144 := by omega
  have hm2i : (ms.length : Int) ≤ 2 := by omega
  have HLT := Lib.hid (fun i => orbN_lt (h := h) (w := w) (ms := ms.take i) (c := c) (by have := HNN.out; omega))
  have HL4 := Lib.hid (fun i => orbN_len4 h w (ms := ms.take i) (by rw [List.length_take]; omega) c)
  have KA0 : K3 W.heap.size (.int .i64 (h : Int)) (.int .i64 (w : Int)) (.slice (some ⟨g0, 0, none⟩) n cap0) (W.alloc (.cells #[.int .i64 (h : Int), .int .i64 (w : Int), .slice (some ⟨g0, 0, none⟩) n cap0] 26)) := K3.at _ rfl
  have B0 : Below W.heap.size W (W.alloc (.cells #[.int .i64 (h : Int), .int .i64 (w : Int), .slice (some ⟨g0, 0, none⟩) n cap0] 26)) := (Below.refl _ _).alloc (Nat.le_refl _) _
  have O0 := World.ownsRow_lit (base := W.heap.size + 1) (e := 2) (size := 1) (W.alloc (.cells #[.int .i64 (h : Int), .int .i64 (w : Int), .slice (some ⟨g0, 0, none⟩) n cap0] 26)) #[.int .i64 (c : Int)] 1 (by simp) (by unfold maxLen; omega) rfl
  have HM := Lib.hid hu
  clear hv r hu p
  go_enter Try.func47, Try.ntmps47
  go_wp2_with fail
  go_loopw [7, 16] (fun v7 s16 X => ∃ i : Nat, s16 = .int .i64 (i : Int) ∧ i ≤ ms.length ∧ X.ownsRow (W.heap.size + 1) 2 1 v7 (orbN h w (ms.take i) c).length (cellsI (natF (orbN h w (ms.take i) c)) (orbN h w (ms.take i) c).length) ∧ K3 W.heap.size (.int .i64 (h : Int)) (.int .i64 (w : Int)) (.slice (some ⟨g0, 0, none⟩) n cap0) X ∧ Below W.heap.size W X) (fun _ s16 _ => ms.length - (intOf s16).toNat)
  case atStart => exact ⟨0, rfl, by omega, by simpa [orbN, cellsI, natF] using O0, KA0.alloc _, B0.alloc (by simp <;> omega) _⟩
  case round =>
    clear KA0 B0 O0
    obtain ⟨i, rfl, hi, O1, KA, hB⟩ := hrel
    have hl4 := HL4.out i
    by_cases hi1 : i < ms.length
    · have hi2 : (i : Int) < (ms.length : Int) := by omega
      have HSN := Lib.hid (orbN_snoc h w hi1 c)
      have hmm := hsh ms[i] (List.getElem_mem hi1)
      obtain ⟨gm, cm, em, hgm, hcm⟩ := (HM.out.call hB).resolve_left (fun h9 => by omega)
      simp only [Value.slice.injEq] at em
      obtain ⟨rfl, _, rfl⟩ := em
      obtain ⟨m0, m1, m2⟩ := hcm i hi1
      clear hcm
      obtain ⟨⟨tx, ty, s⟩, hmi⟩ : ∃ m, m = ms[i] := ⟨_, rfl⟩
      rw [← hmi] at m0 m1 m2 hmm HSN
      dsimp only at m0 m1 m2 hmm
      clear hmi
      have HLi := Lib.hid (HLT.out i)
      obtain ⟨L, hL⟩ : ∃ L, L = orbN h w (ms.take i) c := ⟨_, rfl⟩
      have HLE := Lib.hid hL
      rw [← hL] at O1 hl4 HSN HLi
      clear hL
      obtain ⟨g, cap, rfl, hgb, hgl⟩ := own_some O1 (by omega)
      have OL : Old g L wr := ⟨hgl, fun t ht => by
        have h8 := O1.cellAt t (by omega)
        rw [cellsI_at ht, natF_at ht] at h8
        exact h8⟩
      have hL4i : (L.length : Int) ≤ 4 := by omega
      have KM1 : K3 wr.heap.size (.bool tx) (.bool ty) (.int .i64 (s : Int)) (wr.alloc (.cells #[.bool tx, .bool ty, .int .i64 (s : Int)] 53)) := K3.at _ rfl
      have KA1 := KA.alloc (.cells #[.bool tx, .bool ty, .int .i64 (s : Int)] 53)
      have B1 := hB.alloc hB.size (.cells #[.bool tx, .bool ty, .int .i64 (s : Int)] 53)
      have O2 := ownsRow_alloc O1 (.cells #[.bool tx, .bool ty, .int .i64 (s : Int)] 53)
      have OL1 := OL.call (show Below wr.heap.size wr (wr.alloc (.cells #[.bool tx, .bool ty, .int .i64 (s : Int)] 53)) from (Below.refl _ _).alloc (Nat.le_refl _) _)
      clear KA hB O1 OL
      go_wp2_with fail
      go_loopw [7, 22] (fun v7 s22 X => ∃ j : Nat, s22 = .int .i64 (j : Int) ∧ j ≤ L.length ∧ X.ownsRow (W.heap.size + 1) 2 1 v7 (L ++ (L.map (imM h w (tx, ty, s))).take j).length (cellsI (natF (L ++ (L.map (imM h w (tx, ty, s))).take j)) (L ++ (L.map (imM h w (tx, ty, s))).take j).length) ∧ v7.ownBlock ≠ some wr.heap.size ∧ Old g L X ∧ K3 W.heap.size (.int .i64 (h : Int)) (.int .i64 (w : Int)) (.slice (some ⟨g0, 0, none⟩) n cap0) X ∧ K3 wr.heap.size (.bool tx) (.bool ty) (.int .i64 (s : Int)) X ∧ Below W.heap.size W X) (fun _ s22 _ => L.length - (intOf s22).toNat)
      case atStart => exact ⟨0, rfl, by omega, by simpa using O2, (fun e9 => by simp only [Value.ownBlock, Option.map_some, Option.some.injEq] at e9; omega), OL1, KA1, KM1, B1⟩
      case round =>
        have HWR := Lib.hid KA1.lt
        clear O2 OL1 KA1 KM1 B1 m0 m1 m2
        obtain ⟨j, rfl, hj, O1, hnb, OL, KA, KM, hB⟩ := hrel
        by_cases hj1 : j < L.length
        · have hj2 : (j : Int) < (L.length : Int) := by omega
          have hcj := OL.2 j hj1
          have hlx := HLi.out _ (List.getElem_mem hj1)
          have HTS := Lib.hid (take_map_snoc (f := imM h w (tx, ty, s)) hj1)
          obtain ⟨x, hx⟩ : ∃ x, x = L[j] := ⟨_, rfl⟩
          rw [← hx] at hcj hlx HTS
          clear hx
          have HT := Lib.hid (fun X => taken_any (h := h) (w := w) (s := s) (c := x) (.slice (some ⟨g0, 0, none⟩) n cap0) tx ty X h6 w24 hmm hlx)
          obtain ⟨y, hy⟩ : ∃ y, y = imN h w tx ty s x := ⟨_, rfl⟩
          have HY := Lib.hid hy
          have HT2 := Lib.hid (fun X => (show Calls Try.prog 71 #[.agg #[.int .i64 (h : Int), .int .i64 (w : Int), .slice (some ⟨g0, 0, none⟩) n cap0], .agg #[.bool tx, .bool ty, .int .i64 (s : Int)], .int .i64 (x : Int)] X (fun e w' => e = .returned (.int .i64 (y : Int)) ∧ Below X.heap.size X w') by rw [hy]; exact HT.out X))
          clear HT hy hlx
          have hlj : (L ++ (L.map (imM h w (tx, ty, s))).take j).length = L.length + j := by rw [List.length_append, List.length_take, List.length_map, Nat.min_eq_left (by omega)]
          rw [hlj] at O1
          obtain ⟨g7, cap7, rfl, hgb7, hgl7⟩ := own_some O1 (by omega)
          have HLJ := Lib.hid hlj
          clear hlj
          have OLX := Lib.hid OL
          have ka0 := KA.c0
          have ka1 := KA.c1
          have ka2 := KA.c2
          have kal := KA.lt
          have km0 := KM.c0
          have km1 := KM.c1
          have km2 := KM.c2
          have kml := KM.lt
          have hgg := OL.1
          have Z := Lib.hid O1
          go_wp2_with fail
          with_reducible refine (HT2.out _).mono ?_
          rintro e w2 ⟨rfl, hb2⟩
          have KA2 := KA.call hb2
          have KM2 := KM.call hb2
          have B2 := bstep hB hb2
          have O2 := ownsRow_call O1 hb2
          have OL2 := OL.call hb2
          clear hb2 KA KM hB O1 OL ka0 ka1 ka2 kal km0 km1 km2 kml hcj hgg
          go_wp2_with (at_builtin; refine wpList_append8 rfl _ _ 22 rfl (W.heap.size + 1) 2 i0 (.int .i64 0) 1 8 Try.underlying22 hinf hz0 hz1 hz2 rfl (by decide) g7 _ cap7 _ rfl (ownsRow_alloc O2 _) ⟨w2.heap.size, 0, none⟩ 1 1 [.int .i64 (y : Int)] rfl rfl ?c1 ?c2 ?c3 ?c4 ?c5 ?_)
          case c1 => exact new_one _ _ rfl
          case c2 => intro u hu; simp only [List.mem_cons, List.not_mem_nil, or_false] at hu; rw [hu]; rfl
          case c3 => have := HLJ.out; omega
          case c4 => have := HLJ.out; omega
          case c5 => have := KA2.lt; simp; omega
          intro v' w3 hown3 hgr3 hat
          have hgb7' := (O2.lt g7 rfl).1
          have KA3 := (KA2.alloc (.cells #[.int .i64 (y : Int)] 2)).grown hgr3 (fun e9 => by simp only [Option.some.injEq] at e9; omega)
          have KM3 := (KM2.alloc (.cells #[.int .i64 (y : Int)] 2)).grown hgr3 hnb
          have B3 : Below W.heap.size W w3 := Below.grown (Below.alloc B2 (by have := KA2.lt; omega) _) hgr3 (by have := KA2.lt; simp; omega) (fun q hq => by simp only [Option.some.injEq] at hq; omega)
          have hown4 : w3.ownsRow (W.heap.size + 1) 2 1 v' (L ++ (L.map (imM h w (tx, ty, s))).take (j + 1)).length (cellsI (natF (L ++ (L.map (imM h w (tx, ty, s))).take (j + 1))) (L ++ (L.map (imM h w (tx, ty, s))).take (j + 1)).length) := by
            rw [HTS.out, show imM h w (tx, ty, s) x = y from HY.out.symm, cells_snoc, List.length_append, List.length_singleton, HLJ.out]
            exact hown3
          have OL3 : Old g L w3 := by
            have OLa := OL2.call (show Below w2.heap.size w2 (w2.alloc (.cells #[.int .i64 (y : Int)] 2)) from (Below.refl _ _).alloc (Nat.le_refl _) _)
            rcases hat with e9 | ⟨_, e9⟩
            · by_cases hg7 : g7 = g
              · obtain ⟨g8, c8, e8, _, hg8⟩ := own_some hown4 (by have := HLJ.out; rw [List.length_append]; omega)
                rw [e8] at e9 hown4
                simp only [Value.ownBlock, Option.map_some, Option.some.injEq] at e9
                refine ⟨by omega, fun t ht => ?_⟩
                have h8 := hown4.cellAt t (by rw [List.length_append]; omega)
                rw [cellsI_at (by rw [List.length_append]; omega), natF_at (by rw [List.length_append]; omega), List.getElem_append_left ht] at h8
                rw [e9, hg7] at h8
                exact h8
              · exact OLa.same (hgr3.block g OLa.1 (fun e7 => hg7 (by simp only [Option.some.injEq] at e7; omega))) hgr3.size
            · exact OLa.same (e9 g (by simpa using OLa.1)) hgr3.size
          have hnb3 := Lib.hid (nbk hat hnb (Nat.lt_succ_of_lt KM2.lt))
          have HO4 := Lib.hid hown4
          clear hown3 hgr3 hat O2 OL2 KA2 KM2 B2 Z hown4
          go_wp2
          go_roundw
          case rel => exact ⟨j + 1, by go_num, by omega, HO4.out, hnb3.out, OL3, KA3, KM3, B3⟩
          case measure => first | (simp [intOf]; done) | (simp [intOf]; omega)
        · obtain rfl : j = L.length := by omega
          rw [List.take_of_length_le (by simp), ← HSN.out] at O1
          go_wp2
          go_roundw
          case rel => exact ⟨i + 1, by go_num, by omega, O1, KA, hB⟩
          case measure => first | (simp [intOf]; done) | (simp [intOf]; omega)
    · obtain rfl : i = ms.length := by omega
      rw [List.take_length] at O1 hl4
      have HR := Lib.hid (show SRow (W.heap.size + 1) wr.heap.size 1 u7 (orbN h w ms c).length (natF (orbN h w ms c)) wr from SRow.own O1 (by omega))
      go_wp2_with fail
      with_reducible refine (min_any HR.out (by omega) (by omega)).mono ?_
      rintro e w2 ⟨rfl, hb2⟩
      go_wp2
      go_ret
      exact ⟨rfl, bstep hB hb2⟩
end Go.Proofs.Ytajmfeppnhkcdaa
