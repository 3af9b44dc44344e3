/- P1.4: the walk of DigestBlock. -/
import Derived.Test.YtcbkimmcikjeoaaDoorDgD
import Derived.Test.YtcbkimmcikjeoaaDoorDgH
import Derived.Test.YtcbkimmcikjeoaaDoorDgInj
import Derived.Test.YtcbkimmcikjeoaaDoorChainsW
import Derived.WalkKit
import Derived.WalkLawsBesides
import Derived.Lib.Hide
import Derived.Lib.QuietBelow
import Derived.Deep.RegionWith
import Derived.BigQuiet
namespace Go.Proofs.YtcbkimmcikjeoaaDoor
open Go.RowKit Go.Sort

theorem cat3 (x y z : ByteArray) : (x ++ y ++ z).data.toList = x.data.toList ++ y.data.toList ++ z.data.toList := by
  simp [ByteArray.data_append]
theorem cat3_size (x y z : ByteArray) : (x ++ y ++ z).size = x.size + y.size + z.size := by
  simp [ByteArray.size_append]

theorem block_eq {p x y r : ByteArray} {k : Nat} (hp : p.size = 8 * k) (hxy : x.size = y.size) (hx : x.size ≤ 8) (h : (p ++ x ++ r).size ≤ 9223372036854775807) :
    (Dg.sum (p ++ x ++ r).data.toList == Dg.sum (p ++ y ++ r).data.toList) = (x.toList == y.toList) := by
  rw [ByteArray.toList_eq, ByteArray.toList_eq, Bool.eq_iff_iff, beq_iff_eq, beq_iff_eq, cat3, cat3]
  rw [cat3_size] at h
  exact Dg.sum_block _ _ _ _ k (by simpa using hp) (by simpa using hxy) (by simpa using hx) (by simp; omega)

set_option maxRecDepth 100000 in
set_option maxHeartbeats 1000000 in
theorem block_1 (text : ByteArray) (place : Int) (a b : ByteArray) (W : World) (hp : Pow W.heap.size W) (a1 : 0 ≤ place) (a2 : place ≤ 255) (m1 : 8 < a.size) (m2 : 8 < b.size) (m3 : b.size < a.size) (hl : text.size ≤ 2000) (hat : 8 * place ≤ text.size) :
    Calls Tryd.prog 7 #[.string text, .int .u8 place, .string a, .string b] W fun e w' => e = .returned (.bool true) ∧ Below W.heap.size W w' := by
  go_enter Tryd.func7, Tryd.ntmps7
  go_wp2_with fail
  refine (head_any W hp).mono ?_
  rintro e w1 ⟨rfl, hb1⟩
  go_wp2_with fail
  have hxy : (a.extract 0 8).size = (b.extract 0 8).size := by first | omega | (simp; done) | (simp; omega)
  have hx : (a.extract 0 8).size ≤ 8 := by first | omega | (simp; done) | (simp; omega)
  have hr : (text.extract (min (8 * place + 8) (text.size : Int)).toNat text.size).size ≤ 2000 := by simp; omega
  have hps : (text.extract 0 (8 * place).toNat).size = 8 * place.toNat := by simp; omega
  generalize a.extract 0 8 = x at *
  generalize b.extract 0 8 = y at *
  generalize text.extract (min (8 * place + 8) (text.size : Int)).toNat text.size = r at *
  have hps2 : (text.extract 0 (8 * place).toNat).size ≤ 2040 := by omega
  have he := block_eq (p := text.extract 0 (8 * place).toNat) (x := x) (y := y) (r := r) hps hxy hx (by rw [cat3_size]; omega)
  have hs1 : (text.extract 0 (8 * place).toNat ++ x ++ r).size ≤ 9223372036854775807 := by rw [cat3_size]; omega
  have hs2 : (text.extract 0 (8 * place).toNat ++ y ++ r).size ≤ 9223372036854775807 := by rw [cat3_size]; omega
  have HE := Lib.hid he
  have hx2 : (x).size ≤ 8 := hx
  have hy2 : (y).size ≤ 8 := by omega
  have hat0 : 0 ≤ 8 * place := by omega
  have c1 : ∀ d os, Calls Tryd.prog 12 #[.string (text.extract 0 (8 * place).toNat ++ x ++ r)] (grow (redrawn w1 d) os) fun e w'' => e = .returned (.string ⟨(Dg.sum (text.extract 0 (8 * place).toNat ++ x ++ r).data.toList).toArray⟩) ∧ ∃ p : Regrown, w'' = grow (redrawn w1 p.d) p.os :=
    fun d os => Calls.regrown_of (sum_any _ _ hs1)
  have c2 : ∀ d os, Calls Tryd.prog 12 #[.string (text.extract 0 (8 * place).toNat ++ y ++ r)] (grow (redrawn w1 d) os) fun e w'' => e = .returned (.string ⟨(Dg.sum (text.extract 0 (8 * place).toNat ++ y ++ r).data.toList).toArray⟩) ∧ ∃ p : Regrown, w'' = grow (redrawn w1 p.d) p.os :=
    fun d os => Calls.regrown_of (sum_any _ _ hs2)
  clear hs1 hs2 he hxy hps
  have hm : (8 * place).toNat ≤ 2040 := by omega
  have n1 : ¬ 9223372036854775807 < (8 * place).toNat + (x).size := by omega
  have n2 : ¬ 9223372036854775807 < (8 * place).toNat + (y).size := by omega
  have n3 : ¬ 9223372036854775807 < (8 * place).toNat + (x).size + r.size := by omega
  have n4 : ¬ 9223372036854775807 < (8 * place).toNat + (y).size + r.size := by omega
  clear hm
  refine wp_region_quiet_below (by kernel_rfl) (by kernel_rfl) ?_
  repeat (quiet_step (first | (go_at_call_of 12 (Value.string (text.extract 0 (8 * place).toNat ++ x ++ r)); exact c1 _ _) | (go_at_call_of 12 (Value.string (text.extract 0 (8 * place).toNat ++ y ++ r)); exact c2 _ _)))
  refine wpQuiet_nil ?_
  intro _ hw'
  obtain ⟨⟨dq, osq⟩, hw''⟩ := hw'
  subst hw''
  go_wp2
  go_ret
  refine ⟨?_, hb1.trans ((below_regrown w1 dq osq).mono hb1.size)⟩
  have h := HE.out
  simp at h ⊢
  exact h

set_option maxRecDepth 100000 in
set_option maxHeartbeats 1000000 in
theorem block_2 (text : ByteArray) (place : Int) (a b : ByteArray) (W : World) (hp : Pow W.heap.size W) (a1 : 0 ≤ place) (a2 : place ≤ 255) (m1 : 8 < a.size) (m2 : 8 < b.size) (m3 : a.size ≤ b.size) (hl : text.size ≤ 2000) (hat : 8 * place ≤ text.size) :
    Calls Tryd.prog 7 #[.string text, .int .u8 place, .string a, .string b] W fun e w' => e = .returned (.bool true) ∧ Below W.heap.size W w' := by
  go_enter Tryd.func7, Tryd.ntmps7
  go_wp2_with fail
  refine (head_any W hp).mono ?_
  rintro e w1 ⟨rfl, hb1⟩
  go_wp2_with fail
  have hxy : (a.extract 0 8).size = (b.extract 0 8).size := by first | omega | (simp; done) | (simp; omega)
  have hx : (a.extract 0 8).size ≤ 8 := by first | omega | (simp; done) | (simp; omega)
  have hr : (text.extract (min (8 * place + 8) (text.size : Int)).toNat text.size).size ≤ 2000 := by simp; omega
  have hps : (text.extract 0 (8 * place).toNat).size = 8 * place.toNat := by simp; omega
  generalize a.extract 0 8 = x at *
  generalize b.extract 0 8 = y at *
  generalize text.extract (min (8 * place + 8) (text.size : Int)).toNat text.size = r at *
  have hps2 : (text.extract 0 (8 * place).toNat).size ≤ 2040 := by omega
  have he := block_eq (p := text.extract 0 (8 * place).toNat) (x := x) (y := y) (r := r) hps hxy hx (by rw [cat3_size]; omega)
  have hs1 : (text.extract 0 (8 * place).toNat ++ x ++ r).size ≤ 9223372036854775807 := by rw [cat3_size]; omega
  have hs2 : (text.extract 0 (8 * place).toNat ++ y ++ r).size ≤ 9223372036854775807 := by rw [cat3_size]; omega
  have HE := Lib.hid he
  have hx2 : (x).size ≤ 8 := hx
  have hy2 : (y).size ≤ 8 := by omega
  have hat0 : 0 ≤ 8 * place := by omega
  have c1 : ∀ d os, Calls Tryd.prog 12 #[.string (text.extract 0 (8 * place).toNat ++ x ++ r)] (grow (redrawn w1 d) os) fun e w'' => e = .returned (.string ⟨(Dg.sum (text.extract 0 (8 * place).toNat ++ x ++ r).data.toList).toArray⟩) ∧ ∃ p : Regrown, w'' = grow (redrawn w1 p.d) p.os :=
    fun d os => Calls.regrown_of (sum_any _ _ hs1)
  have c2 : ∀ d os, Calls Tryd.prog 12 #[.string (text.extract 0 (8 * place).toNat ++ y ++ r)] (grow (redrawn w1 d) os) fun e w'' => e = .returned (.string ⟨(Dg.sum (text.extract 0 (8 * place).toNat ++ y ++ r).data.toList).toArray⟩) ∧ ∃ p : Regrown, w'' = grow (redrawn w1 p.d) p.os :=
    fun d os => Calls.regrown_of (sum_any _ _ hs2)
  clear hs1 hs2 he hxy hps
  have hm : (8 * place).toNat ≤ 2040 := by omega
  have n1 : ¬ 9223372036854775807 < (8 * place).toNat + (x).size := by omega
  have n2 : ¬ 9223372036854775807 < (8 * place).toNat + (y).size := by omega
  have n3 : ¬ 9223372036854775807 < (8 * place).toNat + (x).size + r.size := by omega
  have n4 : ¬ 9223372036854775807 < (8 * place).toNat + (y).size + r.size := by omega
  clear hm
  refine wp_region_quiet_below (by kernel_rfl) (by kernel_rfl) ?_
  repeat (quiet_step (first | (go_at_call_of 12 (Value.string (text.extract 0 (8 * place).toNat ++ x ++ r)); exact c1 _ _) | (go_at_call_of 12 (Value.string (text.extract 0 (8 * place).toNat ++ y ++ r)); exact c2 _ _)))
  refine wpQuiet_nil ?_
  intro _ hw'
  obtain ⟨⟨dq, osq⟩, hw''⟩ := hw'
  subst hw''
  go_wp2
  go_ret
  refine ⟨?_, hb1.trans ((below_regrown w1 dq osq).mono hb1.size)⟩
  have h := HE.out
  simp at h ⊢
  exact h

set_option maxRecDepth 100000 in
set_option maxHeartbeats 1000000 in
theorem block_3 (text : ByteArray) (place : Int) (a b : ByteArray) (W : World) (hp : Pow W.heap.size W) (a1 : 0 ≤ place) (a2 : place ≤ 255) (m1 : a.size ≤ 8) (m2 : a.size ≤ b.size) (hl : text.size ≤ 2000) (hat : 8 * place ≤ text.size) :
    Calls Tryd.prog 7 #[.string text, .int .u8 place, .string a, .string b] W fun e w' => e = .returned (.bool true) ∧ Below W.heap.size W w' := by
  go_enter Tryd.func7, Tryd.ntmps7
  go_wp2_with fail
  refine (head_any W hp).mono ?_
  rintro e w1 ⟨rfl, hb1⟩
  go_wp2_with fail
  have hxy : (a).size = (b.extract 0 a.size).size := by first | omega | (simp; done) | (simp; omega)
  have hx : (a).size ≤ 8 := by first | omega | (simp; done) | (simp; omega)
  have hr : (text.extract (min (8 * place + (a.size : Int)) (text.size : Int)).toNat text.size).size ≤ 2000 := by simp; omega
  have hps : (text.extract 0 (8 * place).toNat).size = 8 * place.toNat := by simp; omega
  generalize b.extract 0 a.size = y at *
  generalize text.extract (min (8 * place + (a.size : Int)) (text.size : Int)).toNat text.size = r at *
  have hps2 : (text.extract 0 (8 * place).toNat).size ≤ 2040 := by omega
  have he := block_eq (p := text.extract 0 (8 * place).toNat) (x := a) (y := y) (r := r) hps hxy hx (by rw [cat3_size]; omega)
  have hs1 : (text.extract 0 (8 * place).toNat ++ a ++ r).size ≤ 9223372036854775807 := by rw [cat3_size]; omega
  have hs2 : (text.extract 0 (8 * place).toNat ++ y ++ r).size ≤ 9223372036854775807 := by rw [cat3_size]; omega
  have HE := Lib.hid he
  have hx2 : (a).size ≤ 8 := hx
  have hy2 : (y).size ≤ 8 := by omega
  have hat0 : 0 ≤ 8 * place := by omega
  have c1 : ∀ d os, Calls Tryd.prog 12 #[.string (text.extract 0 (8 * place).toNat ++ a ++ r)] (grow (redrawn w1 d) os) fun e w'' => e = .returned (.string ⟨(Dg.sum (text.extract 0 (8 * place).toNat ++ a ++ r).data.toList).toArray⟩) ∧ ∃ p : Regrown, w'' = grow (redrawn w1 p.d) p.os :=
    fun d os => Calls.regrown_of (sum_any _ _ hs1)
  have c2 : ∀ d os, Calls Tryd.prog 12 #[.string (text.extract 0 (8 * place).toNat ++ y ++ r)] (grow (redrawn w1 d) os) fun e w'' => e = .returned (.string ⟨(Dg.sum (text.extract 0 (8 * place).toNat ++ y ++ r).data.toList).toArray⟩) ∧ ∃ p : Regrown, w'' = grow (redrawn w1 p.d) p.os :=
    fun d os => Calls.regrown_of (sum_any _ _ hs2)
  clear hs1 hs2 he hxy hps
  have hm : (8 * place).toNat ≤ 2040 := by omega
  have n1 : ¬ 9223372036854775807 < (8 * place).toNat + (a).size := by omega
  have n2 : ¬ 9223372036854775807 < (8 * place).toNat + (y).size := by omega
  have n3 : ¬ 9223372036854775807 < (8 * place).toNat + (a).size + r.size := by omega
  have n4 : ¬ 9223372036854775807 < (8 * place).toNat + (y).size + r.size := by omega
  clear hm
  refine wp_region_quiet_below (by kernel_rfl) (by kernel_rfl) ?_
  repeat (quiet_step (first | (go_at_call_of 12 (Value.string (text.extract 0 (8 * place).toNat ++ a ++ r)); exact c1 _ _) | (go_at_call_of 12 (Value.string (text.extract 0 (8 * place).toNat ++ y ++ r)); exact c2 _ _)))
  refine wpQuiet_nil ?_
  intro _ hw'
  obtain ⟨⟨dq, osq⟩, hw''⟩ := hw'
  subst hw''
  go_wp2
  go_ret
  refine ⟨?_, hb1.trans ((below_regrown w1 dq osq).mono hb1.size)⟩
  have h := HE.out
  simp at h ⊢
  exact h

set_option maxRecDepth 100000 in
set_option maxHeartbeats 1000000 in
theorem block_4 (text : ByteArray) (place : Int) (a b : ByteArray) (W : World) (hp : Pow W.heap.size W) (a1 : 0 ≤ place) (a2 : place ≤ 255) (m1 : b.size ≤ 8) (m2 : b.size < a.size) (hl : text.size ≤ 2000) (hat : 8 * place ≤ text.size) :
    Calls Tryd.prog 7 #[.string text, .int .u8 place, .string a, .string b] W fun e w' => e = .returned (.bool true) ∧ Below W.heap.size W w' := by
  go_enter Tryd.func7, Tryd.ntmps7
  go_wp2_with fail
  refine (head_any W hp).mono ?_
  rintro e w1 ⟨rfl, hb1⟩
  go_wp2_with fail
  have hxy : (a.extract 0 b.size).size = (b).size := by first | omega | (simp; done) | (simp; omega)
  have hx : (a.extract 0 b.size).size ≤ 8 := by first | omega | (simp; done) | (simp; omega)
  have hr : (text.extract (min (8 * place + (b.size : Int)) (text.size : Int)).toNat text.size).size ≤ 2000 := by simp; omega
  have hps : (text.extract 0 (8 * place).toNat).size = 8 * place.toNat := by simp; omega
  generalize a.extract 0 b.size = x at *
  generalize text.extract (min (8 * place + (b.size : Int)) (text.size : Int)).toNat text.size = r at *
  have hps2 : (text.extract 0 (8 * place).toNat).size ≤ 2040 := by omega
  have he := block_eq (p := text.extract 0 (8 * place).toNat) (x := x) (y := b) (r := r) hps hxy hx (by rw [cat3_size]; omega)
  have hs1 : (text.extract 0 (8 * place).toNat ++ x ++ r).size ≤ 9223372036854775807 := by rw [cat3_size]; omega
  have hs2 : (text.extract 0 (8 * place).toNat ++ b ++ r).size ≤ 9223372036854775807 := by rw [cat3_size]; omega
  have HE := Lib.hid he
  have hx2 : (x).size ≤ 8 := hx
  have hy2 : (b).size ≤ 8 := by omega
  have hat0 : 0 ≤ 8 * place := by omega
  have c1 : ∀ d os, Calls Tryd.prog 12 #[.string (text.extract 0 (8 * place).toNat ++ x ++ r)] (grow (redrawn w1 d) os) fun e w'' => e = .returned (.string ⟨(Dg.sum (text.extract 0 (8 * place).toNat ++ x ++ r).data.toList).toArray⟩) ∧ ∃ p : Regrown, w'' = grow (redrawn w1 p.d) p.os :=
    fun d os => Calls.regrown_of (sum_any _ _ hs1)
  have c2 : ∀ d os, Calls Tryd.prog 12 #[.string (text.extract 0 (8 * place).toNat ++ b ++ r)] (grow (redrawn w1 d) os) fun e w'' => e = .returned (.string ⟨(Dg.sum (text.extract 0 (8 * place).toNat ++ b ++ r).data.toList).toArray⟩) ∧ ∃ p : Regrown, w'' = grow (redrawn w1 p.d) p.os :=
    fun d os => Calls.regrown_of (sum_any _ _ hs2)
  clear hs1 hs2 he hxy hps
  have hm : (8 * place).toNat ≤ 2040 := by omega
  have n1 : ¬ 9223372036854775807 < (8 * place).toNat + (x).size := by omega
  have n2 : ¬ 9223372036854775807 < (8 * place).toNat + (b).size := by omega
  have n3 : ¬ 9223372036854775807 < (8 * place).toNat + (x).size + r.size := by omega
  have n4 : ¬ 9223372036854775807 < (8 * place).toNat + (b).size + r.size := by omega
  clear hm
  refine wp_region_quiet_below (by kernel_rfl) (by kernel_rfl) ?_
  repeat (quiet_step (first | (go_at_call_of 12 (Value.string (text.extract 0 (8 * place).toNat ++ x ++ r)); exact c1 _ _) | (go_at_call_of 12 (Value.string (text.extract 0 (8 * place).toNat ++ b ++ r)); exact c2 _ _)))
  refine wpQuiet_nil ?_
  intro _ hw'
  obtain ⟨⟨dq, osq⟩, hw''⟩ := hw'
  subst hw''
  go_wp2
  go_ret
  refine ⟨?_, hb1.trans ((below_regrown w1 dq osq).mono hb1.size)⟩
  have h := HE.out
  simp at h ⊢
  exact h

theorem block_walk (text : ByteArray) (place : Int) (a b : ByteArray) (W : World) (hp : Pow W.heap.size W) (_ : text.size ≤ maxLen) (hi : (Lit.int .u8 place).wf = true) (_ : a.size ≤ maxLen) (_ : b.size ≤ maxLen) :
    Calls Tryd.prog 7 #[.string text, .int .u8 place, .string a, .string b] W fun e w' => e = .returned (.bool true) ∧ Below W.heap.size W w' := by
  obtain ⟨a1, a2⟩ := u8_range hi
  clear hi
  by_cases hl : text.size ≤ 2000
  · by_cases hat : 8 * place ≤ text.size
    · rcases (show (8 < a.size ∧ 8 < b.size ∧ b.size < a.size) ∨ (8 < a.size ∧ 8 < b.size ∧ a.size ≤ b.size) ∨ (a.size ≤ 8 ∧ a.size ≤ b.size) ∨ (b.size ≤ 8 ∧ b.size < a.size) by omega) with ⟨m1, m2, m3⟩ | ⟨m1, m2, m3⟩ | ⟨m1, m2⟩ | ⟨m1, m2⟩
      · exact block_1 text place a b W hp a1 a2 m1 m2 m3 hl hat
      · exact block_2 text place a b W hp a1 a2 m1 m2 m3 hl hat
      · exact block_3 text place a b W hp a1 a2 m1 m2 hl hat
      · exact block_4 text place a b W hp a1 a2 m1 m2 hl hat
    · rcases (show (8 < a.size ∧ 8 < b.size ∧ b.size < a.size) ∨ (8 < a.size ∧ 8 < b.size ∧ a.size ≤ b.size) ∨ (a.size ≤ 8 ∧ a.size ≤ b.size) ∨ (b.size ≤ 8 ∧ b.size < a.size) by omega) with ⟨m1, m2, m3⟩ | ⟨m1, m2, m3⟩ | ⟨m1, m2⟩ | ⟨m1, m2⟩
      all_goals
        go_enter Tryd.func7, Tryd.ntmps7
        go_wp2_with fail
        refine (head_any W hp).mono ?_
        rintro e w1 ⟨rfl, hb1⟩
        go_wp2
        go_ret
        exact ⟨rfl, hb1⟩
  · rcases (show (8 < a.size ∧ 8 < b.size ∧ b.size < a.size) ∨ (8 < a.size ∧ 8 < b.size ∧ a.size ≤ b.size) ∨ (a.size ≤ 8 ∧ a.size ≤ b.size) ∨ (b.size ≤ 8 ∧ b.size < a.size) by omega) with ⟨m1, m2, m3⟩ | ⟨m1, m2, m3⟩ | ⟨m1, m2⟩ | ⟨m1, m2⟩
    all_goals
      go_enter Tryd.func7, Tryd.ntmps7
      go_wp2_with fail
      refine (head_any W hp).mono ?_
      rintro e w1 ⟨rfl, hb1⟩
      go_wp2
      go_ret
      exact ⟨rfl, hb1⟩
end Go.Proofs.YtcbkimmcikjeoaaDoor
