/- P1.2 and P1.1: the walks of DigestForm and DigestMatchesReference. -/
import Derived.Test.YtcbkimmcikjeoaaDoorDgD
import Derived.Test.YtcbkimmcikjeoaaDoorDgF
import Derived.Test.YtcbkimmcikjeoaaDoorDgH
import Derived.Test.YtcbkimmcikjeoaaDoorDgR
import Derived.Test.YtcbkimmcikjeoaaDoorDgS
import Derived.Test.YtcbkimmcikjeoaaDoorDgV
import Derived.Test.YtcbkimmcikjeoaaDoorChainsW
import Derived.Test.YtcbkimmcikjeoaaDoorFewW
import Derived.WalkKit
import Derived.Lib.Hide
namespace Go.Proofs.YtcbkimmcikjeoaaDoor
open Go.RowKit

set_option maxRecDepth 100000 in
theorem form_walk (text : ByteArray) (A : Option Addr) (c : Nat) (ss : List ByteArray) (n : Int) (W : World) (hp : Pow W.heap.size W) (ht : text.size ≤ maxLen) (hs : Strs W W.heap.size A ss) (hn : ss.length ≤ maxLen) (hi : (Lit.int .u8 n).wf = true) :
    Calls Tryd.prog 5 #[.string text, .slice A ss.length c, .int .u8 n] W fun e w' => e = .returned (.bool true) ∧ Below W.heap.size W w' := by
  obtain ⟨a1, a2⟩ := u8_range hi
  clear hi
  go_enter Tryd.func5, Tryd.ntmps5
  go_wp2_with fail
  refine (head_any W hp).mono ?_
  rintro e w1 ⟨rfl, hb1⟩
  have d1 := hb1.size
  by_cases hl : text.size ≤ 2000
  · go_wp2_with fail
    have hs1 : Strs w1 w1.heap.size A ss := fun k hk => by
      obtain ⟨ad, e, hlt, hc⟩ := (hs.below hb1 (Nat.le_refl _)) k hk
      exact ⟨ad, e, by omega, hc⟩
    have hp1 : Pow w1.heap.size w1 := ⟨(hp.below hb1 (Nat.le_refl _)).1, Nat.lt_of_lt_of_le hp.2 d1⟩
    refine (few_any A c ss 200 w1 hs1 hn).mono ?_
    rintro e w2 ⟨rfl, rfl⟩
    cases hf : few ss 200 with
    | false =>
      have HF := Lib.hid hf
      clear hf
      go_wp2
      go_ret
      exact ⟨rfl, hb1⟩
    | true =>
      have hfb := few_bounds ss hf
      have HF := Lib.hid hf
      clear hf
      go_wp2_with fail
      refine (sum_any text w1 ht).mono ?_
      rintro e w2 ⟨rfl, hb2⟩
      go_wp2_with fail
      refine (is_lit _ true (Dg.isDigest_sum _) w2).mono ?_
      rintro e w3 ⟨rfl, rfl⟩
      have d2 := hb2.size
      have hb12 := hb1.trans (hb2.mono d1)
      have hs2 : Strs w2 w2.heap.size A ss := fun k hk => by
        obtain ⟨ad, e, hlt, hc⟩ := (hs.below hb12 (Nat.le_refl _)) k hk
        exact ⟨ad, e, by omega, hc⟩
      have hp2 : Pow w2.heap.size w2 := ⟨(hp.below hb12 (Nat.le_refl _)).1, Nat.lt_of_lt_of_le hp.2 (by omega)⟩
      go_wp2_with fail
      refine (list_any A c ss w2 hs2 hn (by omega) hp2).mono ?_
      rintro e w3 ⟨rfl, hb3⟩
      have d3 := hb3.size
      go_wp2_with fail
      refine (is_lit _ true (Dg.isDigest_sum _) w3).mono ?_
      rintro e w4 ⟨rfl, rfl⟩
      go_wp2_with fail
      have c1 := chain_any text (1 + n % 30) w3 ht
      have hm : (min (1 + n % 30) 1000).toNat = (n % 30).toNat + 1 := by omega
      rw [hm] at c1
      refine c1.mono ?_
      clear c1 hm
      rintro e w4 ⟨rfl, hb4⟩
      have hd : Dg.isDigest (Dg.chain text.data.toList ((n % 30).toNat + 1)) = true := Dg.isDigest_sum _
      generalize Dg.chain text.data.toList ((n % 30).toNat + 1) = L at hd ⊢
      have HD := Lib.hid hd
      clear hd
      go_wp2_with fail
      refine (is_lit L true HD.out w4).mono ?_
      rintro e w5 ⟨rfl, rfl⟩
      go_wp2
      go_ret
      exact ⟨rfl, hb12.trans ((hb3.mono (by omega)).trans (hb4.mono (by omega)))⟩
  · go_wp2
    go_ret
    exact ⟨rfl, hb1⟩

set_option maxRecDepth 100000 in
theorem refer_walk (text : ByteArray) (A : Option Addr) (c : Nat) (ss : List ByteArray) (n : Int) (W : World) (hp : Pow W.heap.size W) (ht : text.size ≤ maxLen) (hs : Strs W W.heap.size A ss) (hn : ss.length ≤ maxLen) (_ : (Lit.int .i64 n).wf = true) :
    Calls Tryd.prog 3 #[.string text, .slice A ss.length c, .int .i64 n] W fun e w' => e = .returned (.bool true) ∧ Below W.heap.size W w' := by
  go_enter Tryd.func3, Tryd.ntmps3
  go_wp2_with fail
  refine (head_any W hp).mono ?_
  rintro e w1 ⟨rfl, hb1⟩
  have d1 := hb1.size
  by_cases hl : text.size ≤ 2000
  · go_wp2_with fail
    have hs1 : Strs w1 w1.heap.size A ss := fun k hk => by
      obtain ⟨ad, e, hlt, hc⟩ := (hs.below hb1 (Nat.le_refl _)) k hk
      exact ⟨ad, e, by omega, hc⟩
    refine (few_any A c ss 200 w1 hs1 hn).mono ?_
    rintro e w2 ⟨rfl, rfl⟩
    cases hf : few ss 200 with
    | false =>
      have HF := Lib.hid hf
      clear hf
      go_wp2
      go_ret
      exact ⟨rfl, hb1⟩
    | true =>
      have hfb := few_bounds ss hf
      have HF := Lib.hid hf
      clear hf
      go_wp2_with fail
      refine (sum_any text w1 ht).mono ?_
      rintro e w2 ⟨rfl, hb2⟩
      have d2 := hb2.size
      go_wp2_with fail
      refine (rsum_any text w2 (by omega)).mono ?_
      rintro e w3 ⟨rfl, rfl⟩
      have hb12 := hb1.trans (hb2.mono d1)
      have hs2 : Strs w2 w2.heap.size A ss := fun k hk => by
        obtain ⟨ad, e, hlt, hc⟩ := (hs.below hb12 (Nat.le_refl _)) k hk
        exact ⟨ad, e, by omega, hc⟩
      have hp2 : Pow w2.heap.size w2 := ⟨(hp.below hb12 (Nat.le_refl _)).1, Nat.lt_of_lt_of_le hp.2 (by omega)⟩
      go_wp2_with fail
      refine (list_any A c ss w2 hs2 hn (by omega) hp2).mono ?_
      rintro e w3 ⟨rfl, hb3⟩
      have d3 := hb3.size
      have hs3 : Strs w3 w3.heap.size A ss := fun k hk => by
        obtain ⟨ad, e, hlt, hc⟩ := (hs2.below hb3 (Nat.le_refl _)) k hk
        exact ⟨ad, e, by omega, hc⟩
      go_wp2_with fail
      refine (list_ref_any A c ss w3 hs3 hn (by omega) (by omega)).mono ?_
      rintro e w4 ⟨rfl, hb4⟩
      have d4 := hb4.size
      go_wp2_with fail
      refine (chain_any text _ w4 ht).mono ?_
      rintro e w5 ⟨rfl, hb5⟩
      have d5 := hb5.size
      go_wp2_with fail
      refine (rchain_any text _ w5 (by omega)).mono ?_
      rintro e w6 ⟨rfl, rfl⟩
      go_wp2_with fail
      refine (is_any text w5).mono ?_
      rintro e w6 ⟨rfl, rfl⟩
      go_wp2_with fail
      refine (ris_any text w5 ht).mono ?_
      rintro e w6 ⟨rfl, rfl⟩
      go_wp2
      go_ret
      refine ⟨?_, hb12.trans ((hb3.mono (by omega)).trans ((hb4.mono (by omega)).trans (hb5.mono (by omega))))⟩
      simp
  · go_wp2
    go_ret
    exact ⟨rfl, hb1⟩
end Go.Proofs.YtcbkimmcikjeoaaDoor
