/-
  The contract of the program's readMatrix: it answers four numbers exactly if the text has their numerals, joined by commas. Conditions: the text has at most 2^20 bytes; the library's variables read as their initialisers lay them.
-/
import Derived.Test.YtpdekopmnchanabGreatDoorMatR1
import Derived.Test.YtpdekopmnchanabGreatDoorKeep2
import Derived.LoopTactic
namespace Go.Proofs.YtpdekopmnchanabGreatDoor
open Go.RowKit
set_option linter.unusedSimpArgs false
set_option linter.unusedVariables false

def four (a b c d : Int) : List (List UInt8) := [Lib.itoa a, Lib.itoa b, Lib.itoa c, Lib.itoa d]
def RNo (l : List UInt8) : Prop := ∀ a b c d, limB a b c d = true → ¬ SplitOf l (four a b c d)
def RmPost (l : List UInt8) (w : World) (e : Ending) (w' : World) : Prop :=
  ∃ (a b c d : Int) (ok : Bool), e = .returned (.tuple #[.agg #[.int .i64 a, .int .i64 b, .int .i64 c, .int .i64 d], .bool ok]) ∧ (ok = true → SplitOf l (four a b c d)) ∧ (ok = false → RNo l ∧ a = 0 ∧ b = 0 ∧ c = 0 ∧ d = 0) ∧ Below w.heap.size w w'
theorem rno_len {l : List UInt8} {ws : List (List UInt8)} (h : SplitOf l ws) (hn : ws.length ≠ 4) : RNo l := by
  intro a b c d _ h'
  exact hn (by rw [split_one h h']; rfl)
theorem rno_word {l : List UInt8} {x0 x1 x2 x3 : List UInt8} (h : SplitOf l [x0, x1, x2, x3]) (hx : NumNo x0 ∨ NumNo x1 ∨ NumNo x2 ∨ NumNo x3) : RNo l := by
  intro a b c d hl h'
  obtain ⟨⟨ha, hb⟩, hc, hd⟩ := limB_bd hl
  have e := split_one h h'
  simp only [four, List.cons.injEq, and_true] at e
  obtain ⟨e0, e1, e2, e3⟩ := e
  rcases hx with hx | hx | hx | hx
  · exact hx a ha.1 ha.2 e0.symm
  · exact hx b hb.1 hb.2 e1.symm
  · exact hx c hc.1 hc.2 e2.symm
  · exact hx d hd.1 hd.2 e3.symm
theorem word_le {l : List UInt8} {ws : List (List UInt8)} (h : SplitOf l ws) : ∀ x ∈ ws, x.length ≤ l.length := by
  intro x hx
  have h1 : (joinC ws).length = l.length + 1 := by rw [← h.1]; simp
  have h2 : ∀ (ws : List (List UInt8)), x ∈ ws → x.length + 1 ≤ (joinC ws).length := by
    intro ws
    induction ws with
    | nil => intro h; cases h
    | cons y ws ih =>
      intro h
      rw [joinC_cons]
      rcases List.mem_cons.1 h with rfl | h
      · simp
      · have := ih h
        simp
        omega
  have := h2 ws hx
  omega
/- four words in a block -/
def Ks (g : Nat) (x0 x1 x2 x3 : ByteArray) (W : World) : Prop :=
  g < W.heap.size ∧ W.cell? ⟨g, 0, none⟩ = some (.string x0) ∧ W.cell? ⟨g, 1, none⟩ = some (.string x1) ∧ W.cell? ⟨g, 2, none⟩ = some (.string x2) ∧ W.cell? ⟨g, 3, none⟩ = some (.string x3)
theorem Ks.grow {g B : Nat} {x0 x1 x2 x3 : ByteArray} {W w1 : World} (h : Ks g x0 x1 x2 x3 W) (hb : Below B W w1) (hg : g < B) : Ks g x0 x1 x2 x3 w1 := by
  obtain ⟨h0, h1, h2, h3, h4⟩ := h
  have hs := hb.size
  exact ⟨by omega, by rw [hb.cell (by show g < _; omega)]; exact h1, by rw [hb.cell (by show g < _; omega)]; exact h2, by rw [hb.cell (by show g < _; omega)]; exact h3, by rw [hb.cell (by show g < _; omega)]; exact h4⟩
theorem Ks.call {g : Nat} {x0 x1 x2 x3 : ByteArray} {W w1 : World} (h : Ks g x0 x1 x2 x3 W) (hb : Below W.heap.size W w1) : Ks g x0 x1 x2 x3 w1 := h.grow hb h.1
theorem Ks.far {g : Nat} {x0 x1 x2 x3 : ByteArray} {W : World} {p : Addr} {u : Value} (hp : p.block ≠ g) (h : Ks g x0 x1 x2 x3 W) : Ks g x0 x1 x2 x3 (W.setCell p u) := by
  obtain ⟨h0, h1, h2, h3, h4⟩ := h
  have e : (W.setCell p u).heap[g]? = W.heap[g]? := Below.heap_setCell _ _ _ _ (by omega)
  exact ⟨by simpa [World.setCell] using h0, by rw [World.cell?_of_block (w := W) e]; exact h1, by rw [World.cell?_of_block (w := W) e]; exact h2, by rw [World.cell?_of_block (w := W) e]; exact h3, by rw [World.cell?_of_block (w := W) e]; exact h4⟩
theorem KR.set0 {R : Nat} {a b c d : Int} {W : World} (h : KR R a b c d W) (n : Int) : KR R n b c d (W.setCell ⟨R, 0, none⟩ (.int .i64 n)) := by
  obtain ⟨h0, h1, h2, h3, h4, h5, h6, h7, h8⟩ := h
  refine ⟨by simpa [World.setCell] using h0, ?_, ?_, ?_, ?_, ?_, ?_, ?_, ?_⟩ <;> simp [go_sem, *]
theorem KR.set1 {R : Nat} {a b c d : Int} {W : World} (h : KR R a b c d W) (n : Int) : KR R a n c d (W.setCell ⟨R, 1, none⟩ (.int .i64 n)) := by
  obtain ⟨h0, h1, h2, h3, h4, h5, h6, h7, h8⟩ := h
  refine ⟨by simpa [World.setCell] using h0, ?_, ?_, ?_, ?_, ?_, ?_, ?_, ?_⟩ <;> simp [go_sem, *]
theorem KR.set2 {R : Nat} {a b c d : Int} {W : World} (h : KR R a b c d W) (n : Int) : KR R a b n d (W.setCell ⟨R, 2, none⟩ (.int .i64 n)) := by
  obtain ⟨h0, h1, h2, h3, h4, h5, h6, h7, h8⟩ := h
  refine ⟨by simpa [World.setCell] using h0, ?_, ?_, ?_, ?_, ?_, ?_, ?_, ?_⟩ <;> simp [go_sem, *]
theorem KR.set3 {R : Nat} {a b c d : Int} {W : World} (h : KR R a b c d W) (n : Int) : KR R a b c n (W.setCell ⟨R, 3, none⟩ (.int .i64 n)) := by
  obtain ⟨h0, h1, h2, h3, h4, h5, h6, h7, h8⟩ := h
  refine ⟨by simpa [World.setCell] using h0, ?_, ?_, ?_, ?_, ?_, ?_, ?_, ?_⟩ <;> simp [go_sem, *]

end Go.Proofs.YtpdekopmnchanabGreatDoor
