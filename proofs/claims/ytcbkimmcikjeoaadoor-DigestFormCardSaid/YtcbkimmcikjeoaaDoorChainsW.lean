/- P1.5 and P1.1 of long chains: the walks of DigestChains and DigestLong. -/
import Derived.Test.YtcbkimmcikjeoaaDoorDgD
import Derived.Test.YtcbkimmcikjeoaaDoorDgH
import Derived.Test.YtcbkimmcikjeoaaDoorDgR
import Derived.WalkKit
import Derived.Lib.Hide
namespace Go.Proofs.YtcbkimmcikjeoaaDoor
open Go.RowKit

theorem u8_range {n : Int} (h : (Lit.int .u8 n).wf = true) : 0 ≤ n ∧ n ≤ 255 := by
  simpa [Lit.wf, IntKind.min, IntKind.max, IntKind.signed, IntKind.bits] using h
theorem i64_range {n : Int} (h : (Lit.int .i64 n).wf = true) : -9223372036854775808 ≤ n ∧ n ≤ 9223372036854775807 := by
  simpa [Lit.wf, IntKind.min, IntKind.max, IntKind.signed, IntKind.bits] using h

set_option maxRecDepth 100000 in
theorem chains_walk (text : ByteArray) (one two : Int) (W : World) (hp : Pow W.heap.size W) (ht : text.size ≤ maxLen) (h1 : (Lit.int .u8 one).wf = true) (h2 : (Lit.int .u8 two).wf = true) :
    Calls Tryd.prog 8 #[.string text, .int .u8 one, .int .u8 two] W fun e w' => e = .returned (.bool true) ∧ Below W.heap.size W w' := by
  obtain ⟨a1, a2⟩ := u8_range h1
  obtain ⟨b1, b2⟩ := u8_range h2
  clear h1 h2
  go_enter Tryd.func8, Tryd.ntmps8
  go_wp2_with fail
  refine (head_any W hp).mono ?_
  rintro e w1 ⟨rfl, hb1⟩
  by_cases hl : text.size ≤ 2000
  · go_wp2_with fail
    have hA : (one % 51).toNat ≤ 50 := by omega
    have hB : (two % 51).toNat ≤ 50 := by omega
    have m1 : (min (one % 51) 1000).toNat = (one % 51).toNat := by omega
    have m2 : (min (two % 51) 1000).toNat = (two % 51).toNat := by omega
    have m3 : (min (one % 51 + two % 51) 1000).toNat = (one % 51).toNat + (two % 51).toNat := by omega
    have c1 := chain_any text (one % 51) w1 ht
    rw [m1] at c1
    refine c1.mono ?_
    clear c1
    rintro e w2 ⟨rfl, hb2⟩
    go_wp2_with fail
    have c2 := chain_any ⟨(Dg.chain text.data.toList (one % 51).toNat).toArray⟩ (two % 51) w2 (size_chain _ _ (by simpa using ht))
    rw [m2] at c2
    refine c2.mono ?_
    clear c2
    rintro e w3 ⟨rfl, hb3⟩
    go_wp2_with fail
    have c3 := chain_any text (one % 51 + two % 51) w3 ht
    rw [m3] at c3
    refine c3.mono ?_
    clear c3
    rintro e w4 ⟨rfl, hb4⟩
    have he : Dg.chain (Dg.chain text.data.toList (one % 51).toNat) (two % 51).toNat = Dg.chain text.data.toList ((one % 51).toNat + (two % 51).toNat) := Dg.chain_add _ _ _
    have hf : (Dg.chain (Dg.chain text.data.toList (one % 51).toNat) (two % 51).toNat == Dg.chain text.data.toList ((one % 51).toNat + (two % 51).toNat)) = true := by rw [he, beq_self_eq_true]
    clear he m1 m2 m3
    generalize (one % 51).toNat = a at *
    generalize (two % 51).toNat = b at *
    go_wp2
    go_ret
    have d1 := hb1.size
    have d2 := hb2.size
    have d3 := hb3.size
    exact ⟨rfl, hb1.trans ((hb2.mono (by omega)).trans ((hb3.mono (by omega)).trans (hb4.mono (by omega))))⟩
  · go_wp2
    go_ret
    exact ⟨rfl, hb1⟩

set_option maxRecDepth 100000 in
theorem long_walk (text : ByteArray) (n : Int) (W : World) (hp : Pow W.heap.size W) (ht : text.size ≤ maxLen) (_ : (Lit.int .i64 n).wf = true) :
    Calls Tryd.prog 4 #[.string text, .int .i64 n] W fun e w' => e = .returned (.bool true) ∧ Below W.heap.size W w' := by
  go_enter Tryd.func4, Tryd.ntmps4
  go_wp2_with fail
  refine (head_any W hp).mono ?_
  rintro e w1 ⟨rfl, hb1⟩
  by_cases hl : text.size ≤ 200
  · by_cases hn : n ≤ 1000
    · have hn' : decide (n ≤ 1000) = true := decide_eq_true hn
      go_wp2
      go_ret
      exact ⟨rfl, hb1⟩
    · have hn' : decide (n ≤ 1000) = false := decide_eq_false hn
      go_wp2_with fail
      have c1 := chain_any text n w1 ht
      have c2 := fun w => rchain_any text 1000 w (show text.size ≤ 140737488355328 by omega)
      have hM : (min n 1000).toNat = (min (1000 : Int) 1000).toNat := by omega
      rw [hM] at c1
      generalize (min (1000 : Int) 1000).toNat = M at c1 c2
      refine c1.mono ?_
      clear c1
      rintro e w2 ⟨rfl, hb2⟩
      have C2 := Lib.hid c2
      clear c2
      go_wp2_with fail
      refine (C2.out w2).mono ?_
      rintro e w3 ⟨rfl, rfl⟩
      go_wp2
      go_ret
      exact ⟨rfl, hb1.trans (hb2.mono hb1.size)⟩
  · go_wp2
    go_ret
    exact ⟨rfl, hb1⟩
end Go.Proofs.YtcbkimmcikjeoaaDoor
