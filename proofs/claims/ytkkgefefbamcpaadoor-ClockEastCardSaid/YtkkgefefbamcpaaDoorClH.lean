/- The law's sample, head, earlier; the reference's Few (layer 6). -/
import Derived.Test.YtkkgefefbamcpaaDoorClQ
import Derived.Deep.Slices
set_option linter.unusedSimpArgs false
set_option linter.unusedVariables false
namespace Go.Proofs.YtkkgefefbamcpaaDoor
open Go.RowKit
set_option maxRecDepth 100000

theorem few_any (A : Option Addr) (c n : Nat) (m : Int) (w : World) :
    Calls Tryd.prog 12 #[.agg #[.slice A n c], .int .i64 m] w fun e w' => e = .returned (.bool (decide ((n : Int) ≤ m))) ∧ Below w.heap.size w w' := by
  go_enter Tryd.func12, Tryd.ntmps12
  go_wp2
  go_ret
  exact ⟨rfl, Cl.al _ _⟩

def Cl.earl (a b c d : Int) : Bool := decide (a < c) || (decide (a = c) && decide (b < d))
theorem earlier_any (a b c d : Int) (w : World) :
    Calls Tryd.prog 24 #[.int .i64 a, .int .i64 b, .int .i64 c, .int .i64 d] w fun e w' => e = .returned (.bool (Cl.earl a b c d)) ∧ w = w' := by
  unfold Cl.earl
  by_cases h1 : a < c
  · have g1 : decide (a < c) = true := decide_eq_true h1
    go_enter Tryd.func24, Tryd.ntmps24
    go_wp2
    go_ret
    exact ⟨by rw [g1]; rfl, rfl⟩
  · have g1 : decide (a < c) = false := decide_eq_false h1
    by_cases h2 : a = c
    · subst h2
      go_enter Tryd.func24, Tryd.ntmps24
      go_wp2
      go_ret
      exact ⟨rfl, rfl⟩
    · have g2 : (a == c) = false := by simp [h2]
      have g3 : decide (a = c) = false := decide_eq_false h2
      clear h2
      go_enter Tryd.func24, Tryd.ntmps24
      go_wp2
      go_ret
      exact ⟨rfl, rfl⟩

def sampleZ : List Cl.Sh := [(0, 60), (10000, 120)]
theorem sample_any (w : World) :
    Calls Tryd.prog 25 #[] w fun e w' => ∃ b, e = .returned (.agg #[.slice (some ⟨b, 0, none⟩) sampleZ.length 2]) ∧ Zn w' w'.heap.size (some ⟨b, 0, none⟩) sampleZ ∧ Below w.heap.size w w' := by
  have hz : ∀ u : World, ∀ b, u.heap[b]? = some (.cells #[.int .i64 0, .int .i64 60, .int .i64 10000, .int .i64 120] 40 (0, 0)) → Zn u u.heap.size (some ⟨b, 0, none⟩) sampleZ := fun u b h k hk => by
    have hlt := (Array.getElem?_eq_some_iff.1 h).1
    refine ⟨_, rfl, hlt, ?_⟩
    match k, hk with
    | 0, _ => simp [World.cell?, Addr.add, h, sampleZ]
    | 1, _ => simp [World.cell?, Addr.add, h, sampleZ]
    | k + 2, hk => exact absurd hk (by simp [sampleZ])
  have HZ := Lib.hid hz
  clear hz
  go_enter Tryd.func25, Tryd.ntmps25
  go_wp2
  have h2 := World.alloc_heap_new (w.alloc (.cells #[.slice (some ⟨w.heap.size + 1, 0, none⟩) 2 2] 24)) (.cells #[.int .i64 0, .int .i64 60, .int .i64 10000, .int .i64 120] 40)
  have c1 := ((Boxed.new w 24 (.slice (some ⟨w.heap.size + 1, 0, none⟩) 2 2)).alloc (.cells #[.int .i64 0, .int .i64 60, .int .i64 10000, .int .i64 120] 40)).cell
  rw [World.size_alloc] at h2
  refine bodyPost_ret (v := .agg #[.slice (some ⟨w.heap.size + 1, 0, none⟩) 2 2]) (by simp [results, Tryd.f25, go_sem, c1]) rfl ⟨_, rfl, HZ.out _ _ h2, Cl.al2 _ _ _⟩

/-! ### the chapter's examples -/
theorem sample_valid : Cl.vz sampleZ = true := by decide +kernel
theorem sample_l1 : Cl.locF sampleZ 9999 = (6, 1419, 0) := by decide +kernel
theorem sample_l2 : Cl.locF sampleZ 10000 = (7, 40, 0) := by decide +kernel
theorem sample_i : Cl.instF sampleZ 7 0 = (10000, 0) := by decide +kernel
theorem sample_b1 : Cl.instF sampleZ 1 0 = (1380, 0) := by decide +kernel
theorem sample_b0 : Cl.instF sampleZ 0 0 = (0, 0) := by decide +kernel
theorem txt_ex : Cl.txt 17705 = ⟨#[49, 50, 47, 48, 55, 58, 48, 53]⟩ := by
  apply ByteArray.ext
  apply Array.toList_inj.1
  rw [Cl.txt_list]
  unfold Cl.txl
  rw [show 17705 / 1440 = 12 from rfl, show 17705 % 1440 / 60 = 7 from rfl, show 17705 % 1440 % 60 = 5 from rfl, Cl.tw_lt (by omega), Cl.tw_lt (by omega), Na.dec_ge (by omega), Na.dec_lt (n := 12 / 10) (by omega)]
  rfl
theorem sample_t : Cl.textF 17705 = (⟨#[49, 50, 47, 48, 55, 58, 48, 53]⟩, 0) := by
  have h : Cl.isI 17705 = true := by decide
  unfold Cl.textF
  rw [h]
  show (Cl.txt 17705, (0 : Int)) = _
  rw [txt_ex]
theorem sample_p : Cl.parseF ⟨#[49, 50, 47, 48, 55, 58, 48, 53]⟩ = (17705, 0) := by
  rw [← txt_ex, Cl.parseF_txt (by omega)]
  rfl
theorem sample_q : Cl.parseF ⟨#[49, 50, 47, 55, 58, 48, 53]⟩ = (0, 5) := by
  refine Cl.parseF_not fun t ht he => ?_
  have hl := Cl.txl_len ht
  have h1 : Cl.txl t = [49, 50, 47, 55, 58, 48, 53] := by rw [← Cl.txt_list, he]
  have h2 := congrArg (Cl.cutAt 47) h1
  rw [Cl.txl_cut] at h2
  have h3 : Lib.decDigits (t / 1440) = [49, 50] := congrArg Prod.fst h2
  rw [h1, h3] at hl
  simp at hl
end Go.Proofs.YtkkgefefbamcpaaDoor
