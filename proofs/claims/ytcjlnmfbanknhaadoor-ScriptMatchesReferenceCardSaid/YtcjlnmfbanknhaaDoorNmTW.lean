/- ScriptTexts: the walk. -/
import Derived.Test.YtcjlnmfbanknhaaDoorNmTu
set_option linter.unusedSimpArgs false
set_option linter.unusedVariables false
namespace Go.Proofs.YtcjlnmfbanknhaaDoor
open Go.RowKit Go.Shelf
set_option maxRecDepth 100000
set_option maxHeartbeats 8000000
theorem Nm.few_n (k : Int) (A : Option Addr) (c : Nat) (ss : List ByteArray) (n : Nat) (hn : ss.length = n) (hl : n ≤ maxLen) (w : World) (hs : Strs w w.heap.size A ss) :
    Calls Tryd.prog 5 #[.agg #[.int .i64 k, .slice A n c]] w fun e w' => e = .returned (.bool (Nm.fw ss)) ∧ Below w.heap.size w w' := by
  have := Nm.few_any k A c ss w hs (by omega)
  rwa [hn] at this
theorem Nm.text_n (k : Int) (A : Option Addr) (c : Nat) (ss : List ByteArray) (n : Nat) (hn : ss.length = n) (w : World) (hs : Strs w w.heap.size A ss) (hc : n ≤ c) (hc2 : c ≤ maxLen) (hm : ∀ x ∈ ss, x.size ≤ maxLen) (h : Nm.Tb w.heap.size w) :
    Calls Tryd.prog 11 #[.agg #[.int .i64 k, .slice A n c]] w fun e w' => e = .returned (.tuple #[.string (Nm.tx k ss), .int .i64 (Nm.te k ss)]) ∧ Below w.heap.size w w' := by
  have := Nm.text_uni k A c ss w hs (by omega) hc2 hm h
  rwa [hn] at this
theorem Nm.valid_n (k : Int) (A : Option Addr) (c : Nat) (ss : List ByteArray) (n : Nat) (hn : ss.length = n) (hl : n ≤ maxLen) (w : World) (hs : Strs w w.heap.size A ss) (hm : ∀ x ∈ ss, x.size ≤ maxLen) (h : Nm.Tb w.heap.size w) :
    Calls Tryd.prog 15 #[.agg #[.int .i64 k, .slice A n c]] w fun e w' => e = .returned (.bool (Nm.okT k ss)) ∧ Below w.heap.size w w' := by
  have := Nm.valid_any k A c ss w hs (by omega) hm h
  rwa [hn] at this
theorem Nm.same_n (k : Int) (A : Option Addr) (c : Nat) (ss : List ByteArray) (n : Nat) (l : Int) (B : Option Addr) (d : Nat) (tt : List ByteArray) (m : Nat) (hn : ss.length = n) (hm : tt.length = m) (hl : n ≤ maxLen) (hl2 : m ≤ maxLen) (w : World) (ha : Strs w w.heap.size A ss) (hb : Strs w w.heap.size B tt) :
    Calls Tryd.prog 18 #[.agg #[.int .i64 k, .slice A n c], .agg #[.int .i64 l, .slice B m d]] w fun e w' => e = .returned (.bool (decide (k = l) && decide (ss = tt))) ∧ Below w.heap.size w w' := by
  have := Nm.same_any k A c ss l B d tt w ha hb (by omega) (by omega)
  rwa [hn, hm] at this
theorem Nm.two_new (w : World) (k l : Int) (A B : Option Addr) (n m c d : Nat) : Nm.Two w.heap.size k l A B n m c d ((w.alloc (.cells #[.int .i64 k, .slice A n c] 24)).alloc (.cells #[.int .i64 l, .slice B m d] 24)) := by
  have h1 := heap_alloc_new (w.alloc (.cells #[.int .i64 k, .slice A n c] 24)) (.cells #[.int .i64 l, .slice B m d] 24)
  rw [show (w.alloc (.cells #[.int .i64 k, .slice A n c] 24)).heap.size = w.heap.size + 1 from by simp] at h1
  have h0 := ((Nm.al (w.alloc (.cells #[.int .i64 k, .slice A n c] 24)) (.cells #[.int .i64 l, .slice B m d] 24)).block w.heap.size (by simp)).trans (heap_alloc_new w (.cells #[.int .i64 k, .slice A n c] 24))
  exact ⟨Nm.cell_h h0 0, Nm.cell_h h0 1, Nm.cell_h h1 0, Nm.cell_h h1 1, by simp⟩
end Go.Proofs.YtcjlnmfbanknhaaDoor
